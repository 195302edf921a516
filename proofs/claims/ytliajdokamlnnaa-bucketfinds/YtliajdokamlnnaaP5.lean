/-
  Joined texts, part 5:
  What zelligeref04's Small answers.
  What zelligeref06's Torus, In, Can and Cmp answer.
  What zelligeref06's At answers.
  What zelligeref06's Home answers.
  What zelligeref15's Cell, far, least and Put answer.
  What zelligeref15's far, least and Put answer.
  bucket's lists and the reference's one list: how they hang together. Mathematics alone.
  bucket's Near whole; the laws' own lives and good; the walks of BucketCells and BucketNews
  Arguments of layer 15's laws, opened: an array of two points; a slice of acts.
  A vertex is found, if there is any: mathematics alone.
-/
import Derived.Test.YtliajdokamlnnaaP2
import Derived.Test.YtliajdokamlnnaaP4
import Derived.Test.YtliajdokamlnnaaP1
import Derived.Test.YtliajdokamlnnaaP3
import Derived.Test.YtliajdokamlnnaaChecked
import Derived.Deep.Slices
import Derived.Laws.IdiomArrays
import Derived.ProofKit
import Derived.OpenShut
import Derived.ChangeSlices
import Derived.Lib.SmallJoins
namespace Go.Proofs.Ytliajdokamlnnaa
open Go.RowKit
set_option linter.unusedVariables false
theorem few63:hf.nlen (9223372036854775807:Int).natAbs≤1000000:=Nat.le_trans (hf.nlen_le (n:=4) (by decide)) (by decide)
theorem few64:hf.nlen (-9223372036854775808:Int).natAbs≤1000000:=Nat.le_trans (hf.nlen_le (n:=4) (by decide)) (by decide)
def RsRel(W:World)(U l:Nat)(nv i:Value)(wr:World):Prop:= ∃ r:Nat,r≤l∧i= .int .i64 ((r:Int)- 1)∧nv= .int .i64 (-((U/65536^r:Nat):Int))∧wr=W
theorem rs_step(U q:Nat): -((U/65536^(q+1):Nat):Int)*65536- hf.dg (U:Int) q= -((U/65536^q:Nat):Int):=by
 rw [hf.dg_nat,Nat.pow_succ,←Nat.div_div_eq_div_mul]
 omega
set_option maxRecDepth 100000 in
set_option maxHeartbeats 8000000 in
theorem rwSmall(s:Int)(d:Option Addr)(l c:Nat)(z:Int)(w:World)(hd:RN w s d l c z)(fz:hf.nlen z.natAbs≤1000000){v:Int}{ok:Bool}(hv:v=smV z)(hok:ok=smOk z):
  Calls Try.prog 37 #[.agg #[.int .i64 s, .slice d l c]] w fun e w'=>e= .returned (.tuple #[.int .i64 v, .bool ok])∧Below w.heap.size w w':=by
 have B0:Below w.heap.size w (w.alloc (.cells #[.int .i64 s, .slice d l c] 75)):=(Below.refl _ _).alloc (Nat.le_refl _) _
 have x0:=(bx_new w (.int .i64 s) (.slice d l c) 75).drew
 obtain⟨g1,hg1⟩: ∃ g1,g1=(z- 9223372036854775807).sign:=⟨_,rfl⟩
 obtain⟨g2,hg2⟩: ∃ g2,g2=(z - -9223372036854775808).sign:=⟨_,rfl⟩
 have G1:Hid _:=hg1
 have G2:Hid _:=hg2
 by_cases hbig:9223372036854775807<z
 ·have hno:smOk z=false:=by unfold smOk;simp;omega
  obtain rfl:ok=false:=by rw [hok,hno]
  obtain rfl:v=0:=by rw [hv];unfold smV;rw [hno];rfl
  have e1:0<g1:=by rw [hg1,sign_pos (by omega)];decide
  clear hg1 hg2 hv hok
  go_enter Try.func37,Try.ntmps37
  go_wp2
  refine wp_region_held_drew (S:=(fun w'=>w'.cell? ⟨w.heap.size,0,none⟩=some (.int .i64 s)∧w'.cell? ⟨w.heap.size,1,none⟩=some (.slice d l c)∧Below w.heap.size w w')) (by kernel_rfl) ?_ (fun hHeld=>?_)
  ·first|exact keepB1 hHeld bb|exact⟨x0.c0,x0.c1,B0.drew⟩|exact hHeld
  refine tz (i:=0) rfl ?_
  simp only [Act.put,ps1,ps2,ps3]
  refine take_call (i:=1) rfl (by kernel_rfl) (fun K hK=>?_)
  go_simp
  (go_at_call 36;refine(rwLong 9223372036854775807 _ (by decide) (by decide)).mono ?_;rintro e w1 ⟨s1,d1,l1,c1,rfl,h1,f1,bb⟩;have b1:=bb)
  refine hK.out _ _ ?_ (fun hHeld=>?_)
  ·first|exact keepB1 hHeld bb|exact⟨x0.c0,x0.c1,B0.drew⟩|exact hHeld
  clear hK K
  refine take_call (i:=2) rfl (by kernel_rfl) (fun K hK=>?_)
  go_simp
  (go_at_call 51;refine(rwCmp s s1 d d1 l c l1 c1 z 9223372036854775807 _ (hd.below hHeld.2.2) h1 fz few63 G1.out).mono ?_;rintro e w2 ⟨rfl,bb⟩;have b2:=bb)
  refine hK.out _ _ ?_ (fun hHeld=>?_)
  ·first|exact keepB1 hHeld bb|exact⟨x0.c0,x0.c1,B0.drew⟩|exact hHeld
  clear hK K
  refine tn 3 ?_;refine tn 4 ?_
  simp only [Act.put,ps1,ps2,ps3]
  refine tno 5 ?_
  simp only [Act.put,ps1,ps2,ps3]
  refine take_call (i:=6) rfl (by kernel_rfl) (fun K hK=>?_)
  go_simp
  refine hK.out _ _ ?_ (fun hHeld=>?_)
  ·first|exact keepB1 hHeld bb|exact⟨x0.c0,x0.c1,B0.drew⟩|exact hHeld
  clear hK K
  refine take_call (i:=7) rfl (by kernel_rfl) (fun K hK=>?_)
  go_simp
  refine hK.out _ _ ?_ (fun hHeld=>?_)
  ·first|exact keepB1 hHeld bb|exact⟨x0.c0,x0.c1,B0.drew⟩|exact hHeld
  clear hK K
  refine tno 8 ?_
  simp only [Act.put,ps1,ps2,ps3]
  refine tz (i:=9) rfl ?_
  simp only [Act.put,ps1,ps2,ps3]
  refine wpAnyH_done (by kernel_rfl) ?_ _
  go_wp2
  go_ret2
  exact⟨rfl,hHeld.2.2⟩
 ·have e1: ¬0<g1:=by rw [hg1];rcases sign_cases (z- 9223372036854775807)with⟨_,e⟩|⟨_,e⟩|⟨_,e⟩<;>omega
  have e1':decide (0<g1)=false:=by simpa using e1
  by_cases hsm:z< -9223372036854775808
  ·have hno:smOk z=false:=by unfold smOk;simp;omega
   obtain rfl:ok=false:=by rw [hok,hno]
   obtain rfl:v=0:=by rw [hv];unfold smV;rw [hno];rfl
   have e2:g2<0:=by rw [hg2,sign_neg (by omega)];decide
   clear hg1 hg2 hv hok
   go_enter Try.func37,Try.ntmps37
   go_wp2
   refine wp_region_held_drew (S:=(fun w'=>w'.cell? ⟨w.heap.size,0,none⟩=some (.int .i64 s)∧w'.cell? ⟨w.heap.size,1,none⟩=some (.slice d l c)∧Below w.heap.size w w')) (by kernel_rfl) ?_ (fun hHeld=>?_)
   ·first|exact keepB1 hHeld bb|exact⟨x0.c0,x0.c1,B0.drew⟩|exact hHeld
   refine tz (i:=0) rfl ?_
   simp only [Act.put,ps1,ps2,ps3]
   refine take_call (i:=1) rfl (by kernel_rfl) (fun K hK=>?_)
   go_simp
   (go_at_call 36;refine(rwLong 9223372036854775807 _ (by decide) (by decide)).mono ?_;rintro e w1 ⟨s1,d1,l1,c1,rfl,h1,f1,bb⟩;have b1:=bb)
   refine hK.out _ _ ?_ (fun hHeld=>?_)
   ·first|exact keepB1 hHeld bb|exact⟨x0.c0,x0.c1,B0.drew⟩|exact hHeld
   clear hK K
   refine take_call (i:=2) rfl (by kernel_rfl) (fun K hK=>?_)
   go_simp
   (go_at_call 51;refine(rwCmp s s1 d d1 l c l1 c1 z 9223372036854775807 _ (hd.below hHeld.2.2) h1 fz few63 G1.out).mono ?_;rintro e w2 ⟨rfl,bb⟩;have b2:=bb)
   refine hK.out _ _ ?_ (fun hHeld=>?_)
   ·first|exact keepB1 hHeld bb|exact⟨x0.c0,x0.c1,B0.drew⟩|exact hHeld
   clear hK K
   refine tn 3 ?_;refine tn 4 ?_;refine tn 5 ?_
   simp only [Act.put,ps1,ps2,ps3]
   refine take_call (i:=6) rfl (by kernel_rfl) (fun K hK=>?_)
   go_simp
   (go_at_call 36;refine(rwLong (-9223372036854775808) _ (by decide) (by decide)).mono ?_;rintro e w3 ⟨s3,d3,l3,c3,rfl,h3,f3,bb⟩;have b3:=bb)
   refine hK.out _ _ ?_ (fun hHeld=>?_)
   ·first|exact keepB1 hHeld bb|exact⟨x0.c0,x0.c1,B0.drew⟩|exact hHeld
   clear hK K
   refine take_call (i:=7) rfl (by kernel_rfl) (fun K hK=>?_)
   go_simp
   (go_at_call 51;refine(rwCmp s s3 d d3 l c l3 c3 z (-9223372036854775808) _ (hd.below hHeld.2.2) h3 fz few64 G2.out).mono ?_;rintro e w4 ⟨rfl,bb⟩;have b4:=bb)
   refine hK.out _ _ ?_ (fun hHeld=>?_)
   ·first|exact keepB1 hHeld bb|exact⟨x0.c0,x0.c1,B0.drew⟩|exact hHeld
   clear hK K
   refine tn 8 ?_;refine tn 9 ?_
   simp only [Act.put,ps1,ps2,ps3]
   refine wpAnyH_done (by kernel_rfl) ?_ _
   go_wp2
   go_ret2
   exact⟨rfl,hHeld.2.2⟩
  ·have hyes:smOk z=true:=by unfold smOk;simp;omega
   obtain rfl:ok=true:=by rw [hok,hyes]
   have hvz:v=z:=by rw [hv];unfold smV;rw [hyes];rfl
   have e2: ¬g2<0:=by rw [hg2];rcases sign_cases (z - -9223372036854775808)with⟨_,e⟩|⟨_,e⟩|⟨_,e⟩<;>omega
   have e2':decide (g2<0)=false:=by simpa using e2
   obtain⟨U,hU⟩: ∃ U,U=z.natAbs:=⟨_,rfl⟩
   have hUl:U≤9223372036854775808:=by omega
   have hsz:(z=U∧s=1∧0<U)∨(z= -(U:Int)∧(s= -1∨s=0)):=by
    rw [hd.sg]
    rcases sign_cases z with⟨a,e⟩|⟨a,e⟩|⟨a,e⟩
    ·exact Or.inr ⟨by omega,Or.inl e⟩
    ·exact Or.inr ⟨by omega,Or.inr e⟩
    ·exact Or.inl ⟨by omega,e,by omega⟩
   have HVZ:Hid _:=hvz
   have HUU:Hid _:=hU
   clear hg1 hg2 hv hok hvz hU
   go_enter Try.func37,Try.ntmps37
   go_wp2
   refine wp_region_held_drew (S:=(fun w'=>w'.cell? ⟨w.heap.size,0,none⟩=some (.int .i64 s)∧w'.cell? ⟨w.heap.size,1,none⟩=some (.slice d l c)∧Below w.heap.size w w')) (by kernel_rfl) ?_ (fun hHeld=>?_)
   ·first|exact keepB1 hHeld bb|exact⟨x0.c0,x0.c1,B0.drew⟩|exact hHeld
   refine tz (i:=0) rfl ?_
   simp only [Act.put,ps1,ps2,ps3]
   refine take_call (i:=1) rfl (by kernel_rfl) (fun K hK=>?_)
   go_simp
   (go_at_call 36;refine(rwLong 9223372036854775807 _ (by decide) (by decide)).mono ?_;rintro e w1 ⟨s1,d1,l1,c1,rfl,h1,f1,bb⟩;have b1:=bb)
   refine hK.out _ _ ?_ (fun hHeld=>?_)
   ·first|exact keepB1 hHeld bb|exact⟨x0.c0,x0.c1,B0.drew⟩|exact hHeld
   clear hK K
   refine take_call (i:=2) rfl (by kernel_rfl) (fun K hK=>?_)
   go_simp
   (go_at_call 51;refine(rwCmp s s1 d d1 l c l1 c1 z 9223372036854775807 _ (hd.below hHeld.2.2) h1 fz few63 G1.out).mono ?_;rintro e w2 ⟨rfl,bb⟩;have b2:=bb)
   refine hK.out _ _ ?_ (fun hHeld=>?_)
   ·first|exact keepB1 hHeld bb|exact⟨x0.c0,x0.c1,B0.drew⟩|exact hHeld
   clear hK K
   refine tn 3 ?_;refine tn 4 ?_;refine tn 5 ?_
   simp only [Act.put,ps1,ps2,ps3]
   refine take_call (i:=6) rfl (by kernel_rfl) (fun K hK=>?_)
   go_simp
   (go_at_call 36;refine(rwLong (-9223372036854775808) _ (by decide) (by decide)).mono ?_;rintro e w3 ⟨s3,d3,l3,c3,rfl,h3,f3,bb⟩;have b3:=bb)
   refine hK.out _ _ ?_ (fun hHeld=>?_)
   ·first|exact keepB1 hHeld bb|exact⟨x0.c0,x0.c1,B0.drew⟩|exact hHeld
   clear hK K
   refine take_call (i:=7) rfl (by kernel_rfl) (fun K hK=>?_)
   go_simp
   (go_at_call 51;refine(rwCmp s s3 d d3 l c l3 c3 z (-9223372036854775808) _ (hd.below hHeld.2.2) h3 fz few64 G2.out).mono ?_;rintro e w4 ⟨rfl,bb⟩;have b4:=bb)
   refine hK.out _ _ ?_ (fun hHeld=>?_)
   ·first|exact keepB1 hHeld bb|exact⟨x0.c0,x0.c1,B0.drew⟩|exact hHeld
   clear hK K
   refine tn 8 ?_;refine tn 9 ?_
   simp only [Act.put,ps1,ps2,ps3]
   refine wpAnyH_done (by kernel_rfl) ?_ _
   have B5:=hHeld.2.2
   have hd5:=(hd.below B5).hd
   rw [←HUU.out]at hd5
   have hlU:U<65536^l:=by rw [hd5.len];exact hf.nlen_lt U
   have HZ:Hid (U/65536^l=0):=Nat.div_eq_of_lt hlU
   have k0:=hHeld.1
   have k1:=hHeld.2.1
   have hbg:=hd5.sl.big
   have hrm:=hd5.sl.room
   unfold maxLen at hbg
   clear hHeld b1 b2 b3 b4 h1 h3 f1 f3 hlU
   go_wp2
   go_loopw [4,5] (fun nv i wr=>RsRel w4 U l nv i wr) (fun _ i _=>(intOf i+1).toNat)
   case atStart=>exact⟨l,Nat.le_refl _,rfl,by rw [HZ.out];rfl,rfl⟩
   case round=>
    obtain⟨r,hr,rfl,rfl,rfl⟩:=hrel
    rcases r with _|q
    ·rw [Nat.pow_zero,Nat.div_one]
     rcases hsz with⟨e,rfl,hpos⟩|⟨e,hs⟩
     ·obtain rfl:v=(U:Int):=HVZ.out.trans e
      go_wp2
      go_ret2
      exact⟨by first|rfl|simp,B5⟩
     ·obtain rfl:v= -(U:Int):=HVZ.out.trans e
      rcases hs with rfl|rfl
      ·go_wp2
       go_ret2
       exact⟨by first|rfl|simp,B5⟩
      ·go_wp2
       go_ret2
       exact⟨by first|rfl|simp,B5⟩
    ·obtain⟨b,o,rfl,hb,hseg⟩:=hd5.sl.at (by omega)
     have c1:wr.cell? ⟨b,o+q,none⟩=some (.int .i64 (hf.dg (U:Int) q)):=hseg.cell q _ (hf.dcells_at _ _ _ (by omega))
     obtain⟨d0,d1⟩:=hf.dg_range (U:Int) q
     have e3:((q+1:Nat):Int)- 1=(q:Int):=by omega
     have HST:Hid _:=rs_step U q
     have hq1:(U/65536^(q+1):Nat)*65536≤U:=by
      have h1:=Nat.div_mul_le_self U (65536^(q+1))
      have h2:U/65536^(q+1)*65536≤U/65536^(q+1)*65536^(q+1):=Nat.mul_le_mul_left _ (by rw [Nat.pow_succ];exact Nat.le_mul_of_pos_left _ (Nat.pow_pos (by decide)))
      omega
     have hq2:U/65536^q≤U:=Nat.div_le_self _ _
     obtain⟨A,hA⟩: ∃ A,A=U/65536^(q+1):=⟨_,rfl⟩
     obtain⟨A',hA'⟩: ∃ A',A'=U/65536^q:=⟨_,rfl⟩
     rw [←hA]at HST hq1 ⊢
     rw [←hA']at HST hq2
     have HA':Hid _:=hA'
     obtain⟨D,hD⟩: ∃ D,D=hf.dg (U:Int) q:=⟨_,rfl⟩
     rw [←hD]at c1 d0 d1 HST
     have hq3: -((A:Nat):Int)*65536- D= -(A':Int):=HST.out
     have hlo: -9223372036854775808≤ -(A:Int)*65536:=by omega
     clear hA hA' hD
     rw [e3]
     go_wp2
     go_roundw
     case rel=>exact⟨q,by omega,rfl,by rw [←HA'.out],rfl⟩
     case measure=>simp [intOf]
theorem few40:hf.nlen (1099511627776:Int).natAbs≤1000000:=hfew (K:=2) (by decide) (by decide)
theorem few40n:hf.nlen (-1099511627776:Int).natAbs≤1000000:=hfew (K:=2) (by decide) (by decide)
theorem few_i64{x:Int}(h: -9223372036854775808≤x∧x≤9223372036854775807):hf.nlen x.natAbs≤1000000:=hfew (K:=2) (by omega) (by decide)
theorem in_no_high{z:Int}(h:1099511627776<z):inC z=false:=inC_false.2 (by omega)
theorem rlTorus(c:Int)(w:World){b:Bool}(hb:b=sideC c):Calls Try.prog 33 #[.int .i64 c] w fun e w'=>e= .returned (.bool b)∧Below w.heap.size w w':=by
 subst hb
 unfold sideC
 go_enter Try.func33,Try.ntmps33
 go_wp2
 all_goals (go_ret;exact⟨by simp;omega,Below.refl _ _⟩)
set_option maxRecDepth 100000 in
set_option maxHeartbeats 4000000 in
theorem rlIn(s:Int)(d:Option Addr)(l c:Nat)(z:Int)(w:World)(hz:RN w s d l c z)(fz:hf.nlen z.natAbs≤1000000){b:Bool}(hb:b=inC z):Calls Try.prog 45 #[.agg #[.int .i64 s, .slice d l c]] w fun e w'=>e= .returned (.bool b)∧Below w.heap.size w w':=by
 obtain⟨g1,hg1⟩: ∃ g1,g1=(z- 1099511627776).sign:=⟨_,rfl⟩
 obtain⟨g2,hg2⟩: ∃ g2,g2=(z - -1099511627776).sign:=⟨_,rfl⟩
 have G1:Hid _:=hg1
 have G2:Hid _:=hg2
 have FZ:Hid _:=fz
 clear fz
 obtain⟨W,hW,bW,x_n,sW⟩:=bs_2 w (.int .i64 s) (.slice d l c) 75
 have zbW:=bW.size
 replace hz:=hz.below bW
 have BB:=bW
 by_cases hbig:1099511627776<z
 ·skip
  obtain rfl:b=false:=by rw [hb,in_no_high hbig]
  have e1:(g1≤0)=False:=by rw [hg1,Int.sign_eq_one_of_pos (by omega)];decide
  clear hb hg1 hg2 hbig
  go_enter Try.func45,Try.ntmps45
  go_wp2
  rw [←hW]
  clear hW
  have dd1:Below W.heap.size W W.drew:=(Below.refl _ _).drew
  have zdd1:=dd1.size
  replace hz:=hz.below dd1
  replace BB:=also BB dd1
  replace x_n:=x_n.on dd1
  refine wp_region_held_drew (S:=(fun w'=>w'.cell? ⟨w.heap.size,0,none⟩=some (.int .i64 s)∧w'.cell? ⟨w.heap.size,1,none⟩=some (.slice d l c)∧Below w.heap.size w w')) (by kernel_rfl) ?_ (fun hHeld=>?_)
  ·first|exact⟨x_n.c0,x_n.c1,BB⟩|exact⟨cell_on bw2 hHeld.1,cell_on bw2 hHeld.2.1,also hHeld.2.2 bw2⟩|exact⟨cell_on bw1 hHeld.1,cell_on bw1 hHeld.2.1,also hHeld.2.2 bw1⟩
  refine tz (i:=0) rfl ?_
  simp only [Act.put,ps1,ps2,ps3]
  refine tcl 1 fun Kc hK=>?_
  go_simp
  (go_at_call 36;refine(rwLong 1099511627776 _ (by decide) (by decide)).mono ?_;rintro e w1 ⟨s1,d1,l1,c1,rfl,r1,f1,bw1⟩)
  refine hK.out _ _ ?_ (fun hHeld=>?_)
  ·first|exact⟨x_n.c0,x_n.c1,BB⟩|exact⟨cell_on bw2 hHeld.1,cell_on bw2 hHeld.2.1,also hHeld.2.2 bw2⟩|exact⟨cell_on bw1 hHeld.1,cell_on bw1 hHeld.2.1,also hHeld.2.2 bw1⟩
  clear hK Kc
  have zbw1:=bw1.size
  replace hz:=hz.below bw1
  replace BB:=also BB bw1
  replace x_n:=x_n.on bw1
  refine tcl 2 fun Kc hK=>?_
  go_simp
  (go_at_call 51;refine(rwCmp s s1 d d1 l c l1 c1 z 1099511627776 _ hz r1 FZ.out few40 G1.out).mono ?_;rintro e w2 ⟨rfl,bw2⟩)
  refine hK.out _ _ ?_ (fun hHeld=>?_)
  ·first|exact⟨x_n.c0,x_n.c1,BB⟩|exact⟨cell_on bw2 hHeld.1,cell_on bw2 hHeld.2.1,also hHeld.2.2 bw2⟩|exact⟨cell_on bw1 hHeld.1,cell_on bw1 hHeld.2.1,also hHeld.2.2 bw1⟩
  clear hK Kc
  have zbw2:=bw2.size
  replace hz:=hz.below bw2
  replace BB:=also BB bw2
  replace x_n:=x_n.on bw2
  replace r1:=r1.below bw2
  refine tn 3 ?_;refine tn 4 ?_
  simp only [Act.put,ps1,ps2,ps3]
  refine tno 5 ?_
  simp only [Act.put,ps1,ps2,ps3]
  refine tno 6 ?_
  simp only [Act.put,ps1,ps2,ps3]
  refine tno 7 ?_
  simp only [Act.put,ps1,ps2,ps3]
  refine tno 8 ?_
  simp only [Act.put,ps1,ps2,ps3]
  refine tn 9 ?_;refine tn 10 ?_
  simp only [Act.put,ps1,ps2,ps3]
  refine wpAnyH_done (by kernel_rfl) ?_ _
  go_wp2
  go_ret
  exact⟨rfl,BB⟩
 ·skip
  have e1:(g1≤0)=True:=by rw [hg1];rcases sign_cases (z- 1099511627776)with⟨q,s⟩|⟨q,s⟩|⟨q,s⟩<;>rw [s]<;>first|decide|omega
  have e2:decide (0≤g2)=b:=by rw [hb,hg2];unfold inC;rcases sign_cases (z - -1099511627776)with⟨q,s⟩|⟨q,s⟩|⟨q,s⟩<;>rw [s]<;>simp<;>omega
  clear hb hg1 hg2 hbig
  go_enter Try.func45,Try.ntmps45
  go_wp2
  rw [←hW]
  clear hW
  have dd1:Below W.heap.size W W.drew:=(Below.refl _ _).drew
  have zdd1:=dd1.size
  replace hz:=hz.below dd1
  replace BB:=also BB dd1
  replace x_n:=x_n.on dd1
  refine wp_region_held_drew (S:=(fun w'=>w'.cell? ⟨w.heap.size,0,none⟩=some (.int .i64 s)∧w'.cell? ⟨w.heap.size,1,none⟩=some (.slice d l c)∧Below w.heap.size w w')) (by kernel_rfl) ?_ (fun hHeld=>?_)
  ·first|exact⟨x_n.c0,x_n.c1,BB⟩|exact⟨cell_on bw4 hHeld.1,cell_on bw4 hHeld.2.1,also hHeld.2.2 bw4⟩|exact⟨cell_on bw3 hHeld.1,cell_on bw3 hHeld.2.1,also hHeld.2.2 bw3⟩|exact⟨cell_on bw2 hHeld.1,cell_on bw2 hHeld.2.1,also hHeld.2.2 bw2⟩|exact⟨cell_on bw1 hHeld.1,cell_on bw1 hHeld.2.1,also hHeld.2.2 bw1⟩
  refine tz (i:=0) rfl ?_
  simp only [Act.put,ps1,ps2,ps3]
  refine tcl 1 fun Kc hK=>?_
  go_simp
  (go_at_call 36;refine(rwLong 1099511627776 _ (by decide) (by decide)).mono ?_;rintro e w1 ⟨s1,d1,l1,c1,rfl,r1,f1,bw1⟩)
  refine hK.out _ _ ?_ (fun hHeld=>?_)
  ·first|exact⟨x_n.c0,x_n.c1,BB⟩|exact⟨cell_on bw4 hHeld.1,cell_on bw4 hHeld.2.1,also hHeld.2.2 bw4⟩|exact⟨cell_on bw3 hHeld.1,cell_on bw3 hHeld.2.1,also hHeld.2.2 bw3⟩|exact⟨cell_on bw2 hHeld.1,cell_on bw2 hHeld.2.1,also hHeld.2.2 bw2⟩|exact⟨cell_on bw1 hHeld.1,cell_on bw1 hHeld.2.1,also hHeld.2.2 bw1⟩
  clear hK Kc
  have zbw1:=bw1.size
  replace hz:=hz.below bw1
  replace BB:=also BB bw1
  replace x_n:=x_n.on bw1
  refine tcl 2 fun Kc hK=>?_
  go_simp
  (go_at_call 51;refine(rwCmp s s1 d d1 l c l1 c1 z 1099511627776 _ hz r1 FZ.out few40 G1.out).mono ?_;rintro e w2 ⟨rfl,bw2⟩)
  refine hK.out _ _ ?_ (fun hHeld=>?_)
  ·first|exact⟨x_n.c0,x_n.c1,BB⟩|exact⟨cell_on bw4 hHeld.1,cell_on bw4 hHeld.2.1,also hHeld.2.2 bw4⟩|exact⟨cell_on bw3 hHeld.1,cell_on bw3 hHeld.2.1,also hHeld.2.2 bw3⟩|exact⟨cell_on bw2 hHeld.1,cell_on bw2 hHeld.2.1,also hHeld.2.2 bw2⟩|exact⟨cell_on bw1 hHeld.1,cell_on bw1 hHeld.2.1,also hHeld.2.2 bw1⟩
  clear hK Kc
  have zbw2:=bw2.size
  replace hz:=hz.below bw2
  replace BB:=also BB bw2
  replace x_n:=x_n.on bw2
  replace r1:=r1.below bw2
  refine tn 3 ?_;refine tn 4 ?_;refine tn 5 ?_
  simp only [Act.put,ps1,ps2,ps3]
  refine tcl 6 fun Kc hK=>?_
  go_simp
  (go_at_call 36;refine(rwLong (-1099511627776) _ (by decide) (by decide)).mono ?_;rintro e w3 ⟨s3,d3,l3,c3,rfl,r3,f3,bw3⟩)
  refine hK.out _ _ ?_ (fun hHeld=>?_)
  ·first|exact⟨x_n.c0,x_n.c1,BB⟩|exact⟨cell_on bw4 hHeld.1,cell_on bw4 hHeld.2.1,also hHeld.2.2 bw4⟩|exact⟨cell_on bw3 hHeld.1,cell_on bw3 hHeld.2.1,also hHeld.2.2 bw3⟩|exact⟨cell_on bw2 hHeld.1,cell_on bw2 hHeld.2.1,also hHeld.2.2 bw2⟩|exact⟨cell_on bw1 hHeld.1,cell_on bw1 hHeld.2.1,also hHeld.2.2 bw1⟩
  clear hK Kc
  have zbw3:=bw3.size
  replace hz:=hz.below bw3
  replace BB:=also BB bw3
  replace x_n:=x_n.on bw3
  replace r1:=r1.below bw3
  refine tcl 7 fun Kc hK=>?_
  go_simp
  (go_at_call 51;refine(rwCmp s s3 d d3 l c l3 c3 z (-1099511627776) _ hz r3 FZ.out few40n G2.out).mono ?_;rintro e w4 ⟨rfl,bw4⟩)
  refine hK.out _ _ ?_ (fun hHeld=>?_)
  ·first|exact⟨x_n.c0,x_n.c1,BB⟩|exact⟨cell_on bw4 hHeld.1,cell_on bw4 hHeld.2.1,also hHeld.2.2 bw4⟩|exact⟨cell_on bw3 hHeld.1,cell_on bw3 hHeld.2.1,also hHeld.2.2 bw3⟩|exact⟨cell_on bw2 hHeld.1,cell_on bw2 hHeld.2.1,also hHeld.2.2 bw2⟩|exact⟨cell_on bw1 hHeld.1,cell_on bw1 hHeld.2.1,also hHeld.2.2 bw1⟩
  clear hK Kc
  have zbw4:=bw4.size
  replace hz:=hz.below bw4
  replace BB:=also BB bw4
  replace x_n:=x_n.on bw4
  replace r1:=r1.below bw4
  replace r3:=r3.below bw4
  refine tn 8 ?_;refine tn 9 ?_;refine tn 10 ?_
  simp only [Act.put,ps1,ps2,ps3]
  refine wpAnyH_done (by kernel_rfl) ?_ _
  go_wp2
  go_ret
  exact⟨rfl,BB⟩
set_option maxRecDepth 100000 in
theorem rlCan(x y:Int)(w:World)(hx: -9223372036854775808≤x∧x≤9223372036854775807)(hy: -9223372036854775808≤y∧y≤9223372036854775807){b:Bool}(hb:b=canC x y):Calls Try.prog 34 #[.agg #[.int .i64 x, .int .i64 y]] w fun e w'=>e= .returned (.bool b)∧Below w.heap.size w w':=by
 subst hb
 unfold canC
 have HX:Hid _:=hx
 have HY:Hid _:=hy
 clear hx hy
 cases hx:inC x
 ·skip
  obtain⟨W,hW,bW,x_p,sW⟩:=bs_2 w (.int .i64 x) (.int .i64 y) 23
  have zbW:=bW.size
  have BB:=bW
  go_enter Try.func34,Try.ntmps34
  go_wp2_with (go_at_call 36;fail)
  rw [←hW]
  clear hW
  refine(rwLong x W HX.out.1 HX.out.2).mono ?_
  rintro e w1 ⟨s1,d1,l1,c1,rfl,r1,f1,bw1⟩
  have zbw1:=bw1.size
  replace BB:=also BB bw1
  replace x_p:=x_p.on bw1
  go_wp2_with (go_at_call 45;fail)
  refine(rlIn s1 d1 l1 c1 x w1 r1 (few_i64 HX.out) hx.symm).mono ?_
  rintro e w2 ⟨rfl,bw2⟩
  have zbw2:=bw2.size
  replace BB:=also BB bw2
  replace x_p:=x_p.on bw2
  replace r1:=r1.below bw2
  have⟨x_p_0,x_p_1,x_p_2,x_p_3⟩:=x_p
  go_wp2
  go_ret
  exact⟨by simp,BB⟩
 ·skip
  obtain⟨W,hW,bW,x_p,sW⟩:=bs_2 w (.int .i64 x) (.int .i64 y) 23
  have zbW:=bW.size
  have BB:=bW
  go_enter Try.func34,Try.ntmps34
  go_wp2_with (go_at_call 36;fail)
  rw [←hW]
  clear hW
  refine(rwLong x W HX.out.1 HX.out.2).mono ?_
  rintro e w1 ⟨s1,d1,l1,c1,rfl,r1,f1,bw1⟩
  have zbw1:=bw1.size
  replace BB:=also BB bw1
  replace x_p:=x_p.on bw1
  go_wp2_with (go_at_call 45;fail)
  refine(rlIn s1 d1 l1 c1 x w1 r1 (few_i64 HX.out) hx.symm).mono ?_
  rintro e w2 ⟨rfl,bw2⟩
  have zbw2:=bw2.size
  replace BB:=also BB bw2
  replace x_p:=x_p.on bw2
  replace r1:=r1.below bw2
  have⟨x_p_0,x_p_1,x_p_2,x_p_3⟩:=x_p
  go_wp2_with (go_at_call 36;fail)
  refine(rwLong y w2 HY.out.1 HY.out.2).mono ?_
  rintro e w3 ⟨s3,d3,l3,c3,rfl,r3,f3,bw3⟩
  clear x_p_0 x_p_1 x_p_2 x_p_3
  have zbw3:=bw3.size
  replace BB:=also BB bw3
  replace x_p:=x_p.on bw3
  replace r1:=r1.below bw3
  go_wp2_with (go_at_call 45;fail)
  refine(rlIn s3 d3 l3 c3 y w3 r3 (few_i64 HY.out) rfl).mono ?_
  rintro e w4 ⟨rfl,bw4⟩
  have zbw4:=bw4.size
  replace BB:=also BB bw4
  replace x_p:=x_p.on bw4
  replace r1:=r1.below bw4
  replace r3:=r3.below bw4
  go_wp2
  go_ret
  exact⟨by simp,BB⟩
theorem sm_in{z:Int}(h:inC z=true):z=smV z∧true=smOk z:=by
 have:=inC_true.1 h
 have e:smOk z=true:=by unfold smOk;exact decide_eq_true (by omega)
 exact⟨by unfold smV;rw [e];rfl,e.symm⟩
theorem floor_few{x s:Int}(hs:sideC s=true)(hx:inC x=true):hf.nlen (x.sign*s.sign*((x.natAbs/s.natAbs:Nat):Int)).natAbs≤1000000∧hf.nlen (flQ x s).natAbs≤1000000∧hf.nlen (flQ x s*s).natAbs≤1000000:=by
 obtain⟨d1,d2,m1,m2,s2⟩:=fold_bound hs hx
 obtain⟨s1,_⟩:=sideC_true.1 hs
 obtain⟨x1,x2⟩:=inC_true.1 hx
 have e:=Int.mul_ediv_add_emod x s
 rw [(flQ_ediv x s (by omega)).1]
 refine⟨hfew (K:=2) ?_ (by decide),hfew (K:=2) (by omega) (by decide),hfew (K:=2) ?_ (by decide)⟩
 ·rw [Int.natAbs_mul,Int.natAbs_mul,Int.natAbs_natCast]
  have a1:x.sign.natAbs≤1:=by rcases sign_cases x with⟨_,s⟩|⟨_,s⟩|⟨_,s⟩<;>rw [s]<;>decide
  have a2:s.sign.natAbs≤1:=by rcases sign_cases s with⟨_,s⟩|⟨_,s⟩|⟨_,s⟩<;>rw [s]<;>decide
  have a3:=Nat.mul_le_mul (Nat.mul_le_mul a1 a2) (Nat.div_le_self x.natAbs s.natAbs)
  omega
 ·rw [Int.mul_comm]at e;omega
theorem sm_small{z:Int}(h: -1099511627776≤z∧z≤1099511627776):z=smV z∧true=smOk z:=sm_in (inC_true.2 h)
theorem few_in{z:Int}(h: -1099511627776≤z∧z≤1099511627776):hf.nlen z.natAbs≤1000000:=few_i64 (by omega)
set_option maxRecDepth 100000 in
set_option maxHeartbeats 8000000 in
theorem rlHome(x y s:Int)(w:World)(BX:Hid (-9223372036854775808≤x∧x≤9223372036854775807))(BY:Hid (-9223372036854775808≤y∧y≤9223372036854775807))(BS:Hid (-9223372036854775808≤s∧s≤9223372036854775807)){a c p q:Int}{b:Bool}(hb:b=homeC x y s)(ha:a=if b then x % s else 0)(hc':c=if b then y % s else 0)(hp:p=if b then x/s else 0)(hq:q=if b then y/s else 0):
  Calls Try.prog 21 #[.agg #[.int .i64 x, .int .i64 y], .int .i64 s] w fun e w'=>e= .returned (.tuple #[.agg #[.int .i64 a, .int .i64 c], .agg #[.int .i64 p, .int .i64 q], .bool b])∧Below w.heap.size w w':=by
 cases hs:sideC s
 ·skip
  have h0:=@home_no_side x y s hs
  obtain rfl:b=false:=by rw [hb,h0]
  obtain rfl:a=0:=ha
  obtain rfl:c=0:=hc'
  obtain rfl:p=0:=hp
  obtain rfl:q=0:=hq
  clear hb h0
  obtain⟨W,hW,bW,x_p,x_z,x_t,sW⟩:=bs_222 w (.int .i64 x) (.int .i64 y) (.int .i64 0) (.int .i64 0) (.int .i64 0) (.int .i64 0) 23 23 50
  have zbW:=bW.size
  have BB:=bW
  go_enter Try.func21,Try.ntmps21
  go_wp2_with (go_at_call 33;fail)
  rw [←hW]
  clear hW
  refine(rlTorus s W hs.symm).mono ?_
  rintro e w1 ⟨rfl,bw1⟩
  have zbw1:=bw1.size
  replace BB:=also BB bw1
  replace x_p:=x_p.on bw1
  replace x_z:=x_z.on bw1
  replace x_t:=x_t.on bw1
  have⟨x_p_0,x_p_1,x_p_2,x_p_3⟩:=x_p
  have⟨x_z_0,x_z_1,x_z_2,x_z_3⟩:=x_z
  have⟨x_t_0,x_t_1,x_t_2,x_t_3⟩:=x_t
  go_wp2
  exact bodyPost_ret (v:= .tuple #[.agg #[.int .i64 0, .int .i64 0], .agg #[.int .i64 0, .int .i64 0], .bool false]) (by simp [results,Try.results21,go_sem, *]) rfl (⟨rfl,below_put2 (below_put2 BB (by omega) _ _) (by omega) _ _⟩)
 ·skip
  cases hc:canC x y
  ·skip
   have h0:=@home_no_can x y s hc
   obtain rfl:b=false:=by rw [hb,h0]
   obtain rfl:a=0:=ha
   obtain rfl:c=0:=hc'
   obtain rfl:p=0:=hp
   obtain rfl:q=0:=hq
   clear hb h0
   obtain⟨W,hW,bW,x_p,x_z,x_t,sW⟩:=bs_222 w (.int .i64 x) (.int .i64 y) (.int .i64 0) (.int .i64 0) (.int .i64 0) (.int .i64 0) 23 23 50
   have zbW:=bW.size
   have BB:=bW
   go_enter Try.func21,Try.ntmps21
   go_wp2_with (go_at_call 33;fail)
   rw [←hW]
   clear hW
   refine(rlTorus s W hs.symm).mono ?_
   rintro e w1 ⟨rfl,bw1⟩
   have zbw1:=bw1.size
   replace BB:=also BB bw1
   replace x_p:=x_p.on bw1
   replace x_z:=x_z.on bw1
   replace x_t:=x_t.on bw1
   have⟨x_p_0,x_p_1,x_p_2,x_p_3⟩:=x_p
   have⟨x_z_0,x_z_1,x_z_2,x_z_3⟩:=x_z
   have⟨x_t_0,x_t_1,x_t_2,x_t_3⟩:=x_t
   go_wp2_with (go_at_call 34;fail)
   refine(rlCan x y w1 BX.out BY.out hc.symm).mono ?_
   rintro e w2 ⟨rfl,bw2⟩
   clear x_p_0 x_p_1 x_p_2 x_p_3 x_z_0 x_z_1 x_z_2 x_z_3 x_t_0 x_t_1 x_t_2 x_t_3
   have zbw2:=bw2.size
   replace BB:=also BB bw2
   replace x_p:=x_p.on bw2
   replace x_z:=x_z.on bw2
   replace x_t:=x_t.on bw2
   have⟨x_p_0,x_p_1,x_p_2,x_p_3⟩:=x_p
   have⟨x_z_0,x_z_1,x_z_2,x_z_3⟩:=x_z
   have⟨x_t_0,x_t_1,x_t_2,x_t_3⟩:=x_t
   go_wp2
   exact bodyPost_ret (v:= .tuple #[.agg #[.int .i64 0, .int .i64 0], .agg #[.int .i64 0, .int .i64 0], .bool false]) (by simp [results,Try.results21,go_sem, *]) rfl (⟨rfl,below_put2 (below_put2 BB (by omega) _ _) (by omega) _ _⟩)
  ·skip
   obtain rfl:b=true:=by rw [hb];unfold homeC;rw [hs,hc];rfl
   have HC1:Hid (inC x=true):=(canC_true.1 hc).1
   have HC2:Hid (inC y=true):=(canC_true.1 hc).2
   have hsp:0<s:=by have:=sideC_true.1 hs;omega
   have Ha:Hid (a=flR x s):=by unfold Hid;rw [(flQ_ediv x s hsp).2];exact ha
   have Hc:Hid (c=flR y s):=by unfold Hid;rw [(flQ_ediv y s hsp).2];exact hc'
   have Hp:Hid (p=flQ x s):=by unfold Hid;rw [(flQ_ediv x s hsp).1];exact hp
   have Hq:Hid (q=flQ y s):=by unfold Hid;rw [(flQ_ediv y s hsp).1];exact hq
   obtain⟨e1,e2,e3,e4,e5⟩:=fold_bound hs HC1.out
   obtain⟨e6,e7,e8,e9,_⟩:=fold_bound hs HC2.out
   replace ha:a=x % s:=ha
   replace hc':c=y % s:=hc'
   replace hp:p=x/s:=hp
   replace hq:q=y/s:=hq
   have Ba:Hid (-1099511627776≤a∧a≤1099511627776):=by unfold Hid;rw [ha];omega
   have Bc:Hid (-1099511627776≤c∧c≤1099511627776):=by unfold Hid;rw [hc'];omega
   have Bp:Hid (-1099511627776≤p∧p≤1099511627776):=by unfold Hid;rw [hp];omega
   have Bq:Hid (-1099511627776≤q∧q≤1099511627776):=by unfold Hid;rw [hq];omega
   have HS0:Hid (s≠0):=by unfold Hid;omega
   clear hb ha hc' hp hq e1 e2 e3 e4 e5 e6 e7 e8 e9 hsp
   have FX:=floor_few hs HC1.out
   have FY:=floor_few hs HC2.out
   have FX':Hid _:=FX
   have FY':Hid _:=FY
   clear FX FY
   obtain⟨W,hW,bW,x_p,x_z,x_t,sW⟩:=bs_222 w (.int .i64 x) (.int .i64 y) (.int .i64 0) (.int .i64 0) (.int .i64 0) (.int .i64 0) 23 23 50
   have zbW:=bW.size
   have BB:=bW
   go_enter Try.func21,Try.ntmps21
   go_wp2_with (go_at_call 33;fail)
   rw [←hW]
   clear hW
   refine(rlTorus s W hs.symm).mono ?_
   rintro e w1 ⟨rfl,bw1⟩
   have zbw1:=bw1.size
   replace BB:=also BB bw1
   replace x_p:=x_p.on bw1
   replace x_z:=x_z.on bw1
   replace x_t:=x_t.on bw1
   have⟨x_p_0,x_p_1,x_p_2,x_p_3⟩:=x_p
   have⟨x_z_0,x_z_1,x_z_2,x_z_3⟩:=x_z
   have⟨x_t_0,x_t_1,x_t_2,x_t_3⟩:=x_t
   go_wp2_with (go_at_call 34;fail)
   refine(rlCan x y w1 BX.out BY.out hc.symm).mono ?_
   rintro e w2 ⟨rfl,bw2⟩
   clear x_p_0 x_p_1 x_p_2 x_p_3 x_z_0 x_z_1 x_z_2 x_z_3 x_t_0 x_t_1 x_t_2 x_t_3
   have zbw2:=bw2.size
   replace BB:=also BB bw2
   replace x_p:=x_p.on bw2
   replace x_z:=x_z.on bw2
   replace x_t:=x_t.on bw2
   have⟨x_p_0,x_p_1,x_p_2,x_p_3⟩:=x_p
   have⟨x_z_0,x_z_1,x_z_2,x_z_3⟩:=x_z
   have⟨x_t_0,x_t_1,x_t_2,x_t_3⟩:=x_t
   go_wp2_with (go_at_call 36;fail)
   refine(rwLong x w2 BX.out.1 BX.out.2).mono ?_
   rintro e v10 ⟨s10,d10,l10,c10,rfl,r10,f10,bv10⟩
   clear x_p_0 x_p_1 x_p_2 x_p_3 x_z_0 x_z_1 x_z_2 x_z_3 x_t_0 x_t_1 x_t_2 x_t_3
   have zbv10:=bv10.size
   replace BB:=also BB bv10
   replace x_p:=x_p.on bv10
   replace x_z:=x_z.on bv10
   replace x_t:=x_t.on bv10
   go_wp2_with (go_at_call 36;fail)
   refine(rwLong s v10 BS.out.1 BS.out.2).mono ?_
   rintro e v11 ⟨s11,d11,l11,c11,rfl,r11,f11,bv11⟩
   have zbv11:=bv11.size
   replace BB:=also BB bv11
   replace x_p:=x_p.on bv11
   replace x_z:=x_z.on bv11
   replace x_t:=x_t.on bv11
   replace r10:=r10.below bv11
   go_wp2_with (go_at_call 35;fail)
   refine(rwFloorF s10 s11 d10 d11 l10 c10 l11 c11 x s v11 r10 r11 (few_i64 BX.out) (few_i64 BS.out) HS0.out FX'.out.1 FX'.out.2.1 FX'.out.2.2 p a Hp.out Ha.out).mono ?_
   rintro e v12 ⟨s12,d12,l12,c12,s13,d13,l13,c13,rfl,r12,r13,f13,bv12⟩
   have zbv12:=bv12.size
   replace BB:=also BB bv12
   replace x_p:=x_p.on bv12
   replace x_z:=x_z.on bv12
   replace x_t:=x_t.on bv12
   replace r10:=r10.below bv12
   replace r11:=r11.below bv12
   clear r10 r11
   obtain⟨V10,hV10,bV10,x_fi,x_fx,sV10⟩:=bs_22 v12 (.int .i64 s12) (.slice d12 l12 c12) (.int .i64 s13) (.slice d13 l13 c13) 75 75
   have zbV10:=bV10.size
   replace BB:=also BB bV10
   replace x_p:=x_p.on bV10
   replace x_z:=x_z.on bV10
   replace x_t:=x_t.on bV10
   replace r12:=r12.below bV10
   replace r13:=r13.below bV10
   have st_p_0:((v12.alloc (.cells #[.int .i64 s12, .slice d12 l12 c12] 75)).alloc (.cells #[.int .i64 s13, .slice d13 l13 c13] 75)).cell? ⟨w.heap.size,0,none⟩=some (.int .i64 x):=by rw [←hV10];exact x_p.c0
   have st_p_1:((v12.alloc (.cells #[.int .i64 s12, .slice d12 l12 c12] 75)).alloc (.cells #[.int .i64 s13, .slice d13 l13 c13] 75)).cell? ⟨w.heap.size,1,none⟩=some (.int .i64 y):=by rw [←hV10];exact x_p.c1
   have sf_p_0:((v12.alloc (.cells #[.int .i64 s12, .slice d12 l12 c12] 75)).alloc (.cells #[.int .i64 s13, .slice d13 l13 c13] 75)).frozen? ⟨w.heap.size,0,none⟩=false:=by rw [←hV10];exact x_p.f0
   have sf_p_1:((v12.alloc (.cells #[.int .i64 s12, .slice d12 l12 c12] 75)).alloc (.cells #[.int .i64 s13, .slice d13 l13 c13] 75)).frozen? ⟨w.heap.size,1,none⟩=false:=by rw [←hV10];exact x_p.f1
   go_wp2_with (go_at_call 36;fail)
   rw [←hV10]
   clear hV10 st_p_0 st_p_1 sf_p_0 sf_p_1
   refine(rwLong y V10 BY.out.1 BY.out.2).mono ?_
   rintro e v20 ⟨s20,d20,l20,c20,rfl,r20,f20,bv20⟩
   have zbv20:=bv20.size
   replace BB:=also BB bv20
   replace x_p:=x_p.on bv20
   replace x_z:=x_z.on bv20
   replace x_t:=x_t.on bv20
   replace r12:=r12.below bv20
   replace r13:=r13.below bv20
   replace x_fi:=x_fi.on bv20
   replace x_fx:=x_fx.on bv20
   go_wp2_with (go_at_call 36;fail)
   refine(rwLong s v20 BS.out.1 BS.out.2).mono ?_
   rintro e v21 ⟨s21,d21,l21,c21,rfl,r21,f21,bv21⟩
   have zbv21:=bv21.size
   replace BB:=also BB bv21
   replace x_p:=x_p.on bv21
   replace x_z:=x_z.on bv21
   replace x_t:=x_t.on bv21
   replace r12:=r12.below bv21
   replace r13:=r13.below bv21
   replace x_fi:=x_fi.on bv21
   replace x_fx:=x_fx.on bv21
   replace r20:=r20.below bv21
   go_wp2_with (go_at_call 35;fail)
   refine(rwFloorF s20 s21 d20 d21 l20 c20 l21 c21 y s v21 r20 r21 (few_i64 BY.out) (few_i64 BS.out) HS0.out FY'.out.1 FY'.out.2.1 FY'.out.2.2 q c Hq.out Hc.out).mono ?_
   rintro e v22 ⟨s22,d22,l22,c22,s23,d23,l23,c23,rfl,r22,r23,f23,bv22⟩
   have zbv22:=bv22.size
   replace BB:=also BB bv22
   replace x_p:=x_p.on bv22
   replace x_z:=x_z.on bv22
   replace x_t:=x_t.on bv22
   replace r12:=r12.below bv22
   replace r13:=r13.below bv22
   replace x_fi:=x_fi.on bv22
   replace x_fx:=x_fx.on bv22
   replace r20:=r20.below bv22
   replace r21:=r21.below bv22
   clear r20 r21
   obtain⟨V20,hV20,bV20,x_fk,x_fy,sV20⟩:=bs_22 v22 (.int .i64 s22) (.slice d22 l22 c22) (.int .i64 s23) (.slice d23 l23 c23) 75 75
   have zbV20:=bV20.size
   replace BB:=also BB bV20
   replace x_p:=x_p.on bV20
   replace x_z:=x_z.on bV20
   replace x_t:=x_t.on bV20
   replace r12:=r12.below bV20
   replace r13:=r13.below bV20
   replace x_fi:=x_fi.on bV20
   replace x_fx:=x_fx.on bV20
   replace r22:=r22.below bV20
   replace r23:=r23.below bV20
   have st_fx_0:((v22.alloc (.cells #[.int .i64 s22, .slice d22 l22 c22] 75)).alloc (.cells #[.int .i64 s23, .slice d23 l23 c23] 75)).cell? ⟨v12.heap.size+1,0,none⟩=some (.int .i64 s13):=by rw [←hV20];exact x_fx.c0
   have st_fx_1:((v22.alloc (.cells #[.int .i64 s22, .slice d22 l22 c22] 75)).alloc (.cells #[.int .i64 s23, .slice d23 l23 c23] 75)).cell? ⟨v12.heap.size+1,1,none⟩=some (.slice d13 l13 c13):=by rw [←hV20];exact x_fx.c1
   have sf_fx_0:((v22.alloc (.cells #[.int .i64 s22, .slice d22 l22 c22] 75)).alloc (.cells #[.int .i64 s23, .slice d23 l23 c23] 75)).frozen? ⟨v12.heap.size+1,0,none⟩=false:=by rw [←hV20];exact x_fx.f0
   have sf_fx_1:((v22.alloc (.cells #[.int .i64 s22, .slice d22 l22 c22] 75)).alloc (.cells #[.int .i64 s23, .slice d23 l23 c23] 75)).frozen? ⟨v12.heap.size+1,1,none⟩=false:=by rw [←hV20];exact x_fx.f1
   go_wp2_with (go_at_call 37;fail)
   rw [←hV20]
   clear hV20 st_fx_0 st_fx_1 sf_fx_0 sf_fx_1
   refine(rwSmall s13 d13 l13 c13 a V20 r13 (few_in Ba.out) (sm_small Ba.out).1 (sm_small Ba.out).2).mono ?_
   rintro e x0 ⟨rfl,bx0⟩
   have zbx0:=bx0.size
   replace BB:=also BB bx0
   replace x_p:=x_p.on bx0
   replace x_z:=x_z.on bx0
   replace x_t:=x_t.on bx0
   replace r12:=r12.below bx0
   replace r13:=r13.below bx0
   replace x_fi:=x_fi.on bx0
   replace x_fx:=x_fx.on bx0
   replace r22:=r22.below bx0
   replace r23:=r23.below bx0
   replace x_fk:=x_fk.on bx0
   replace x_fy:=x_fy.on bx0
   have⟨x_fx_0,x_fx_1,x_fx_2,x_fx_3⟩:=x_fx
   have⟨x_fy_0,x_fy_1,x_fy_2,x_fy_3⟩:=x_fy
   have⟨x_fi_0,x_fi_1,x_fi_2,x_fi_3⟩:=x_fi
   have⟨x_fk_0,x_fk_1,x_fk_2,x_fk_3⟩:=x_fk
   have⟨x_z_0,x_z_1,x_z_2,x_z_3⟩:=x_z
   have⟨x_t_0,x_t_1,x_t_2,x_t_3⟩:=x_t
   go_wp2_with (go_at_call 37;fail)
   refine(rwSmall s23 d23 l23 c23 c x0 r23 (few_in Bc.out) (sm_small Bc.out).1 (sm_small Bc.out).2).mono ?_
   rintro e x1 ⟨rfl,bx1⟩
   clear x_fx_0 x_fx_1 x_fx_2 x_fx_3 x_fy_0 x_fy_1 x_fy_2 x_fy_3 x_fi_0 x_fi_1 x_fi_2 x_fi_3 x_fk_0 x_fk_1 x_fk_2 x_fk_3 x_z_0 x_z_1 x_z_2 x_z_3 x_t_0 x_t_1 x_t_2 x_t_3
   have zbx1:=bx1.size
   replace BB:=also BB bx1
   replace x_p:=x_p.on bx1
   replace x_z:=x_z.on bx1
   replace x_t:=x_t.on bx1
   replace r12:=r12.below bx1
   replace r13:=r13.below bx1
   replace x_fi:=x_fi.on bx1
   replace x_fx:=x_fx.on bx1
   replace r22:=r22.below bx1
   replace r23:=r23.below bx1
   replace x_fk:=x_fk.on bx1
   replace x_fy:=x_fy.on bx1
   have⟨x_fx_0,x_fx_1,x_fx_2,x_fx_3⟩:=x_fx
   have⟨x_fy_0,x_fy_1,x_fy_2,x_fy_3⟩:=x_fy
   have⟨x_fi_0,x_fi_1,x_fi_2,x_fi_3⟩:=x_fi
   have⟨x_fk_0,x_fk_1,x_fk_2,x_fk_3⟩:=x_fk
   have⟨x_z_0,x_z_1,x_z_2,x_z_3⟩:=x_z
   have⟨x_t_0,x_t_1,x_t_2,x_t_3⟩:=x_t
   go_wp2_with (go_at_call 37;fail)
   refine(rwSmall s12 d12 l12 c12 p x1 r12 (few_in Bp.out) (sm_small Bp.out).1 (sm_small Bp.out).2).mono ?_
   rintro e x2 ⟨rfl,bx2⟩
   clear x_fx_0 x_fx_1 x_fx_2 x_fx_3 x_fy_0 x_fy_1 x_fy_2 x_fy_3 x_fi_0 x_fi_1 x_fi_2 x_fi_3 x_fk_0 x_fk_1 x_fk_2 x_fk_3 x_z_0 x_z_1 x_z_2 x_z_3 x_t_0 x_t_1 x_t_2 x_t_3
   have zbx2:=bx2.size
   replace BB:=also BB bx2
   replace x_p:=x_p.on bx2
   replace x_z:=x_z.on bx2
   replace x_t:=x_t.on bx2
   replace r12:=r12.below bx2
   replace r13:=r13.below bx2
   replace x_fi:=x_fi.on bx2
   replace x_fx:=x_fx.on bx2
   replace r22:=r22.below bx2
   replace r23:=r23.below bx2
   replace x_fk:=x_fk.on bx2
   replace x_fy:=x_fy.on bx2
   have⟨x_fx_0,x_fx_1,x_fx_2,x_fx_3⟩:=x_fx
   have⟨x_fy_0,x_fy_1,x_fy_2,x_fy_3⟩:=x_fy
   have⟨x_fi_0,x_fi_1,x_fi_2,x_fi_3⟩:=x_fi
   have⟨x_fk_0,x_fk_1,x_fk_2,x_fk_3⟩:=x_fk
   have⟨x_z_0,x_z_1,x_z_2,x_z_3⟩:=x_z
   have⟨x_t_0,x_t_1,x_t_2,x_t_3⟩:=x_t
   go_wp2_with (go_at_call 37;fail)
   refine(rwSmall s22 d22 l22 c22 q x2 r22 (few_in Bq.out) (sm_small Bq.out).1 (sm_small Bq.out).2).mono ?_
   rintro e x3 ⟨rfl,bx3⟩
   clear x_fx_0 x_fx_1 x_fx_2 x_fx_3 x_fy_0 x_fy_1 x_fy_2 x_fy_3 x_fi_0 x_fi_1 x_fi_2 x_fi_3 x_fk_0 x_fk_1 x_fk_2 x_fk_3 x_z_0 x_z_1 x_z_2 x_z_3 x_t_0 x_t_1 x_t_2 x_t_3
   have zbx3:=bx3.size
   replace BB:=also BB bx3
   replace x_p:=x_p.on bx3
   replace x_z:=x_z.on bx3
   replace x_t:=x_t.on bx3
   replace r12:=r12.below bx3
   replace r13:=r13.below bx3
   replace x_fi:=x_fi.on bx3
   replace x_fx:=x_fx.on bx3
   replace r22:=r22.below bx3
   replace r23:=r23.below bx3
   replace x_fk:=x_fk.on bx3
   replace x_fy:=x_fy.on bx3
   have⟨x_fx_0,x_fx_1,x_fx_2,x_fx_3⟩:=x_fx
   have⟨x_fy_0,x_fy_1,x_fy_2,x_fy_3⟩:=x_fy
   have⟨x_fi_0,x_fi_1,x_fi_2,x_fi_3⟩:=x_fi
   have⟨x_fk_0,x_fk_1,x_fk_2,x_fk_3⟩:=x_fk
   have⟨x_z_0,x_z_1,x_z_2,x_z_3⟩:=x_z
   have⟨x_t_0,x_t_1,x_t_2,x_t_3⟩:=x_t
   go_wp2
   exact bodyPost_ret (v:= .tuple #[.agg #[.int .i64 a, .int .i64 c], .agg #[.int .i64 p, .int .i64 q], .bool true]) (by simp [results,Try.results21,go_sem, *]) rfl (⟨rfl,below_put2 (below_put2 BB (by omega) _ _) (by omega) _ _⟩)
def CntAt(W:World)(s t:Int)(v:Value)(wr:World):Prop:= ∃ k:Nat,v= .int .i64 (k:Int)∧(k:Int)≤t∧W=wr
theorem cnt_yes{k:Nat}{q s:Int}{n:Nat}(h:GrOk s n)(hq:0≤q∧q<s)(hk:((k:Int)+1)*s≤q*(n:Int)):((k+1:Nat):Int)≤q*(n:Int)/s:=by
 have:=(Int.le_ediv_iff_mul_le (a:=((k+1:Nat):Int)) (b:=q*(n:Int)) (show 0<s by have:=h.1;omega)).2 (by rw [Int.natCast_add];exact hk)
 exact this
theorem cnt_no{k:Nat}{q s:Int}{n:Nat}(h:GrOk s n)(h1:(k:Int)≤q*(n:Int)/s)(hk: ¬((k:Int)+1)*s≤q*(n:Int)):(k:Int)=q*(n:Int)/s:=by
 have h0:0<s:=by have:=h.1;omega
 have: ¬(k:Int)+1≤q*(n:Int)/s:=fun e=>hk ((Int.le_ediv_iff_mul_le (a:=(k:Int)+1) (b:=q*(n:Int)) h0).1 e)
 omega
theorem cnt_le{q s:Int}{n:Nat}(h:GrOk s n)(hq:0≤q∧q<s):0≤q*(n:Int)/s∧q*(n:Int)/s<64:=by
 have h0:=h.1
 have hn:=h.2.2
 have e:q % s=q:=Int.emod_eq_of_lt hq.1 hq.2
 have:=clX_in (x:=q) h
 unfold clX at this
 rw [e]at this
 omega
theorem side_mul{k:Nat}{s:Int}{n:Nat}(h:GrOk s n)(hk:(k:Int)<64): -9223372036854775808≤((k:Int)+1)*s∧((k:Int)+1)*s≤9223372036854775807:=by
 obtain⟨h1,h2,_⟩:=h
 have e1:0≤((k:Int)+1)*s:=Int.mul_nonneg (by omega) (by omega)
 have e2:=Int.mul_le_mul (show(k:Int)+1≤64 by omega) h2 (by omega) (by omega)
 omega
set_option maxRecDepth 100000 in
set_option maxHeartbeats 2000000 in
theorem rkCell(n:Nat)(s x y:Int)(w:World)(BX: -9223372036854775808≤x∧x≤9223372036854775807)(BY: -9223372036854775808≤y∧y≤9223372036854775807)(h:GrOk s n){a b:Int}(hab:(a,b)=cellC x y s n):
  Calls Try.prog 10 #[.agg #[.int .i64 x, .int .i64 y], .int .i64 s, .int .i64 (n:Int)] w fun e w'=>e= .returned (.tuple #[.int .i64 a, .int .i64 b])∧Below w.heap.size w w':=by
 obtain⟨W,hW⟩: ∃ W,W=w.alloc (.cells #[.int .i64 x, .int .i64 y] 23):=⟨_,rfl⟩
 have bW:Below w.heap.size w W:=by rw [hW];exact(Below.refl _ _).alloc (Nat.le_refl _) _
 have hs:=h.1
 have hs2:=h.2.1
 have HAB:Hid _:=hab
 clear hab
 cases hh:homeC x y s
 ·obtain⟨rfl,rfl⟩:a= -1∧b= -1:=by have e:=HAB.out;unfold cellC at e;rw [hh]at e;simpa using e
  have CH:Hid (Calls Try.prog 21 #[.agg #[.int .i64 x, .int .i64 y], .int .i64 s] W fun e w'=>e= .returned (.tuple #[.agg #[.int .i64 0, .int .i64 0], .agg #[.int .i64 0, .int .i64 0], .bool false])∧Below W.heap.size W w'):=rlHome x y s W BX BY ⟨by omega,by omega⟩ hh.symm rfl rfl rfl rfl
  clear hh HAB
  go_enter Try.func10,Try.ntmps10
  go_wp2_with (go_at_call 21;fail)
  rw [←hW]
  clear hW
  refine Calls.mono CH.out ?_
  rintro e w1 ⟨rfl,b1⟩
  have b2:=((Below.refl w1.heap.size w1).alloc (Nat.le_refl _) (.cells #[.int .i64 0, .int .i64 0] 23)).alloc (by simp) (.cells #[.int .i64 0, .int .i64 0] 50)
  have bF:=below_to (below_to bW b1) b2
  go_wp2
  exact bodyPost_ret (v:= .tuple #[.int .i64 (-1), .int .i64 (-1)]) (by simp [results,Try.results10,go_sem]) rfl ⟨rfl,bF⟩
 ·obtain⟨ha,hb⟩:a=clX x s n∧b=clX y s n:=by have e:=HAB.out;unfold cellC at e;rw [hh]at e;simpa using e
  obtain⟨X,hX⟩: ∃ X,X=x % s:=⟨_,rfl⟩
  obtain⟨Y,hY⟩: ∃ Y,Y=y % s:=⟨_,rfl⟩
  have CH:Hid (Calls Try.prog 21 #[.agg #[.int .i64 x, .int .i64 y], .int .i64 s] W fun e w'=>e= .returned (.tuple #[.agg #[.int .i64 X, .int .i64 Y], .agg #[.int .i64 (x/s), .int .i64 (y/s)], .bool true])∧Below W.heap.size W w'):=rlHome x y s W BX BY ⟨by omega,by omega⟩ hh.symm hX hY rfl rfl
  have bx:0≤X∧X<s:=by rw [hX];exact⟨Int.emod_nonneg _ (by omega),Int.emod_lt_of_pos _ (by omega)⟩
  have bY:0≤Y∧Y<s:=by rw [hY];exact⟨Int.emod_nonneg _ (by omega),Int.emod_lt_of_pos _ (by omega)⟩
  have EA:Hid (X*(n:Int)/s=a):=by unfold Hid;rw [ha,hX];rfl
  have EB:Hid (Y*(n:Int)/s=b):=by unfold Hid;rw [hb,hY];rfl
  have px:=prod_lt h bx.1 bx.2
  have py:=prod_lt h bY.1 bY.2
  obtain⟨PX,hPX⟩: ∃ PX,PX=X*(n:Int):=⟨_,rfl⟩
  obtain⟨PY,hPY⟩: ∃ PY,PY=Y*(n:Int):=⟨_,rfl⟩
  have WX:Hid (wrap64 (X*(n:Int))=PX):=by unfold Hid;rw [hPX];exact wrap_in (by omega) (by omega)
  have WY:Hid (wrap64 (Y*(n:Int))=PY):=by unfold Hid;rw [hPY];exact wrap_in (by omega) (by omega)
  have HPX:Hid _:=hPX
  have HPY:Hid _:=hPY
  clear hPX hPY px py
  obtain⟨TX,hTX⟩: ∃ TX,TX=X*(n:Int)/s:=⟨_,rfl⟩
  obtain⟨TY,hTY⟩: ∃ TY,TY=Y*(n:Int)/s:=⟨_,rfl⟩
  have ix:0≤TX∧TX<64:=by rw [hTX];exact cnt_le h bx
  have iy:0≤TY∧TY<64:=by rw [hTY];exact cnt_le h bY
  have GX:Hid _:=hTX
  have GY:Hid _:=hTY
  clear hTX hTY
  generalize x/s=U at CH
  generalize y/s=V at CH
  clear hh HAB ha hb hX hY
  have HG:Hid (GrOk s n):=h
  have WK0: ∀ k:Nat,(k:Int)<64→wrap64 ((k:Int)+1)=(k:Int)+1:=fun k hk=>wrap_in (by omega) (by omega)
  have WK:Hid _:=WK0
  clear h WK0
  go_enter Try.func10,Try.ntmps10
  go_wp2_with (go_at_call 21;fail)
  rw [←hW]
  clear hW
  refine Calls.mono CH.out ?_
  rintro e w1 ⟨rfl,b1⟩
  obtain⟨Z,hZ⟩: ∃ Z,Z=(w1.alloc (.cells #[.int .i64 X, .int .i64 Y] 23)).alloc (.cells #[.int .i64 U, .int .i64 V] 50):=⟨_,rfl⟩
  have b2:Below w1.heap.size w1 Z:=by rw [hZ];exact((Below.refl w1.heap.size w1).alloc (Nat.le_refl _) _).alloc (by simp) _
  have RZ:Row Z w1.heap.size [.int .i64 X, .int .i64 Y]:=by rw [hZ];exact(Row.new w1 [.int .i64 X, .int .i64 Y] 23).alloc _ (by simp)
  have bF:=below_to (below_to bW b1) b2
  have q0:=RZ.cell 0 _ rfl
  have q1:=RZ.cell 1 _ rfl
  clear CH RZ
  go_wp2
  rw [←hZ]
  clear hZ
  go_loopw [11] (fun v wr=>CntAt Z s TX v wr) (fun v _=>64- (intOf v).toNat)
  case atStart=>exact⟨0,rfl,ix.1,rfl⟩
  case round=>
   obtain⟨k,rfl,hk,rfl⟩:=hrel
   have k64:(k:Int)<64:=by omega
   have sm:=side_mul HG.out k64
   have wk:=WK.out k k64
   obtain⟨P,hP⟩: ∃ P,P=((k:Int)+1)*s:=⟨_,rfl⟩
   have ws:wrap64 (((k:Int)+1)*s)=P:=by rw [hP];exact wrap_in sm.1 sm.2
   have wx:=WX.out
   have HP:Hid _:=hP
   clear hP sm
   by_cases hc:P≤PX
   ·have hk1:((k+1:Nat):Int)≤TX:=by rw [GX.out];exact cnt_yes HG.out bx (by rw [←HP.out,←HPX.out];exact hc)
    go_wp2
    go_roundw
    case rel=>exact⟨k+1,by simp,hk1,rfl⟩
    case measure=>simp [intOf];clear wk ws wx;omega
   ·have hka:(k:Int)=TX:=by rw [GX.out]at hk ⊢;exact cnt_no HG.out hk (by rw [←HP.out,←HPX.out];exact hc)
    have HKA:Hid _:=hka
    clear hka
    go_wp2
    clear wk ws wx hk k64 hc HP ix bx BX BY
    go_loopw [12] (fun v wr=>CntAt Z s TY v wr) (fun v _=>64- (intOf v).toNat)
    case atStart=>exact⟨0,rfl,iy.1,rfl⟩
    case round=>
     obtain⟨j,rfl,hj,rfl⟩:=hrel
     have j64:(j:Int)<64:=by omega
     have sm2:=side_mul HG.out j64
     have wj:=WK.out j j64
     obtain⟨P2,hP2⟩: ∃ P2,P2=((j:Int)+1)*s:=⟨_,rfl⟩
     have ws:wrap64 (((j:Int)+1)*s)=P2:=by rw [hP2];exact wrap_in sm2.1 sm2.2
     have wy:=WY.out
     have HP2:Hid _:=hP2
     clear hP2 sm2
     by_cases hd:P2≤PY
     ·have hj1:((j+1:Nat):Int)≤TY:=by rw [GY.out];exact cnt_yes HG.out bY (by rw [←HP2.out,←HPY.out];exact hd)
      go_wp2
      go_roundw
      case rel=>exact⟨j+1,by simp,hj1,rfl⟩
      case measure=>simp [intOf];clear wj ws wy;omega
     ·have hja:(j:Int)=TY:=by rw [GY.out]at hj ⊢;exact cnt_no HG.out hj (by rw [←HP2.out,←HPY.out];exact hd)
      have HJA:Hid _:=hja
      clear hja
      go_wp2
      exact bodyPost_ret (v:= .tuple #[.int .i64 (k:Int), .int .i64 (j:Int)]) (by simp [results,Try.results10,go_sem]) rfl ⟨by rw [HKA.out,HJA.out,GX.out,GY.out,EA.out,EB.out],bF⟩
abbrev Hl:=Int×Int×Int
def hC(h:Hl):List Value:= [.int .i64 h.1, .int .i64 h.2.1, .int .i64 h.2.2]
theorem plc_cons{x v:Int}{xs:List Int}(h:(x::xs).Pairwise (· ≤ ·)):plc (x::xs) v=if x<v then plc xs v+1 else 0:=by
 unfold plc
 rw [List.countP_cons]
 by_cases e:x<v
 ·simp [e]
 ·rw [if_neg e]
  simp only [e,decide_false,Bool.false_eq_true,if_false,Nat.add_zero]
  refine List.countP_eq_zero.2 fun y hy=>?_
  have:=(List.pairwise_cons.1 h).1 y hy
  simp
  omega
theorem ins_cons{x v:Int}{xs:List Int}(h:(x::xs).Pairwise (· ≤ ·)):insL (x::xs) v=if x<v then x::insL xs v else v::x::xs:=by
 unfold insL
 rw [plc_cons h]
 by_cases e:x<v
 ·rw [if_pos e,if_pos e];simp
 ·rw [if_neg e,if_neg e];rfl
theorem idx_inj{n a b c d:Nat}(hb:b<n)(hd:d<n)(h:a*n+b=c*n+d):a=c∧b=d:=by
 have e1:(a*n+b)/n=a:=by rw [Nat.mul_comm,Nat.mul_add_div (by omega),Nat.div_eq_of_lt hb];rfl
 have e2:(c*n+d)/n=c:=by rw [Nat.mul_comm,Nat.mul_add_div (by omega),Nat.div_eq_of_lt hd];rfl
 have:a=c:=by rw [←e1,←e2,h]
 subst this
 exact⟨rfl,by omega⟩
theorem lst_yes{x y s:Int}{n a b:Nat}(hc:cellC x y s n=((a:Int),(b:Int)))(hh:homeC x y s=true):lstC x y s n=some (a*n+b):=by
 unfold cellC at hc
 rw [hh]at hc
 simp only [if_true,Prod.mk.injEq]at hc
 unfold lstC
 rw [hh,hc.1,hc.2]
 rfl
end Go.Proofs.Ytliajdokamlnnaa
namespace Go.Proofs.Ytliajdokamlnnaa
open Go.RowKit Go.Shelf
set_option linter.unusedVariables false
theorem near_yes{L:Nat→List Int}{x y s:Int}{n a b:Nat}(h:cellC x y s n=((a:Int),(b:Int)))(hh:homeC x y s=true):nearR L x y s n=nearV L n a b:=by
 unfold cellC at h
 rw [hh]at h
 simp only [if_true,Prod.mk.injEq]at h
 unfold nearR
 rw [hh,h.1,h.2]
 rfl
theorem bkNear(base g n:Nat)(s m x y:Int)(L:Nat→List Int)(F:Nat→Prop)(w:World)(H:GrP base g s n L m F w)(h:GrOk s n){r:Int}(hr:r=nearR L x y s n):
  Calls Try.prog 17 #[.pointer (some ⟨g,0,none⟩), .agg #[.int .i64 x, .int .i64 y]] w fun e w'=>e= .returned (.int .i64 r)∧Below w.heap.size w w':=by
 rcases cell_dec x y s n h with⟨hc,hh⟩|⟨a,b,hc,ha,hb,hh⟩
 ·have e:r= -1:=by rw [hr];unfold nearR;rw [hh];rfl
  subst e
  exact bkNear_no base g n s m x y L F w H h hh
 ·exact bkNear_yes base g n s m x y L F w H h a b hc.symm ha hb (by rw [hr,near_yes hc hh])
theorem LeftB.below{base g n:Nat}{s m:Int}{L:Nat→List Int}{F:Nat→Prop}{w0 w w':World}(h:LeftB (GrP base g s n L m) F w w')(h0:Below w0.heap.size w0 w)(hF: ∀ k,F k→w0.heap.size≤k): ∃ F',GrP base g s n L m F' w'∧(∀ k,F' k→w0.heap.size≤k)∧Below w0.heap.size w0 w':=by
 obtain⟨hk,F',hP,hF'⟩:=h
 have hz:=h0.size
 exact⟨F',hP,fun k hk'=>(hF' k hk').elim (hF k) (fun e=>by omega),h0.trans (hk.below hz hF)⟩
theorem ok105:GrOk 10 5:=⟨by omega,by omega,by omega,by omega⟩
def LvL:Nat→List Int:=putL (fun _=> []) (lstC 1 1 10 5) 7
theorem lv_cell:((4:Int),(4:Int))=cellC 9 (-1) 10 5:=by decide+kernel
theorem lv_near:(7:Int)=nearR LvL 9 9 10 5:=by decide+kernel
theorem lv_many:putM 0 (lstC 1 1 10 5)=1:=by decide+kernel
set_option maxRecDepth 100000 in
set_option maxHeartbeats 2000000 in
theorem bkLives(w:World):Calls Try.prog 11 #[] w fun e w'=>e= .returned (.bool true)∧Below w.heap.size w w':=by
 go_enter Try.func11,Try.ntmps11
 go_wp2_with (go_at_call 8;fail)
 refine(bkNew w.heap.size 10 5 5 w ok105 rfl (Nat.le_refl _)).mono ?_
 rintro e w1 ⟨g,F,rfl,H1,hF1,b1⟩
 have C1:Hid (Calls Try.prog 9 #[.pointer (some ⟨g,0,none⟩), .agg #[.int .i64 9, .int .i64 (-1)]] w1 fun e w'=>e= .returned (.tuple #[.int .i64 4, .int .i64 4])∧Below w1.heap.size w1 w'):=by
  obtain⟨⟨vv,A,hO,_⟩,_⟩:=H1
  exact bkCell g vv 5 10 0 9 (-1) w1 hO.row ok105 lv_cell
 go_wp2_with (go_at_call 9;fail)
 refine Calls.mono C1.out ?_
 rintro e w2 ⟨rfl,b2⟩
 have H2:=H1.below b2
 have b02:=below_to b1 b2
 clear C1
 have C2:Hid (Calls Try.prog 14 #[.pointer (some ⟨g,0,none⟩), .int .i64 7, .agg #[.int .i64 1, .int .i64 1]] w2 fun e w'=>e= .returned (.tuple #[])∧LeftB (GrP w.heap.size g 10 5 LvL 1) F w2 w'):=by
  have:=bkPut w.heap.size g 5 10 0 7 1 1 _ F w2 H2 ok105 (fun _=>by simp) (fun _=>List.Pairwise.nil) ⟨by omega,by omega⟩
  rw [lv_many]at this
  exact this
 go_wp2_with (go_at_call 14;fail)
 refine Calls.mono C2.out ?_
 rintro e w3 ⟨rfl,lf⟩
 clear C2
 obtain⟨F3,H3,hF3,b3⟩:=lf.below b02 hF1
 have C3:Hid (Calls Try.prog 17 #[.pointer (some ⟨g,0,none⟩), .agg #[.int .i64 9, .int .i64 9]] w3 fun e w'=>e= .returned (.int .i64 7)∧Below w3.heap.size w3 w'):=bkNear w.heap.size g 5 10 1 9 9 LvL F3 w3 H3 ok105 lv_near
 go_wp2_with (go_at_call 17;fail)
 refine Calls.mono C3.out ?_
 rintro e w4 ⟨rfl,b4⟩
 clear C3
 have H4:=H3.below b4
 have b04:=below_to b3 b4
 have C4:Hid (Calls Try.prog 16 #[.pointer (some ⟨g,0,none⟩)] w4 fun e w'=>e= .returned (.int .i64 1)∧Below w4.heap.size w4 w'):=by
  obtain⟨⟨vv,A,hO,_⟩,_⟩:=H4
  exact bkLen g vv 5 10 1 w4 hO.row
 go_wp2_with (go_at_call 16;fail)
 refine Calls.mono C4.out ?_
 rintro e w5 ⟨rfl,b5⟩
 clear C4
 go_wp2
 go_ret
 exact⟨rfl,below_to b04 b5⟩
end Go.Proofs.Ytliajdokamlnnaa
namespace Go.Proofs.Ytliajdokamlnnaa
open Go.RowKit
open Go.ChangeShapes Go.WideShapes Go.ChangeAt Go.Joins
set_option linter.unusedVariables false
set_option linter.constructorNameAsVariable false
theorem bv_list4{cs:Array Value}(h:cs.size=4): ∃ c0 c1 c2 c3,cs= #[c0,c1,c2,c3]:=by
 obtain⟨l⟩:=cs
 match l,h with
 | [c0,c1,c2,c3],_=>exact⟨c0,c1,c2,c3,rfl⟩
theorem bv_I:Try.prog.cellsOf 2=1:=by kernel_rfl
theorem bv_P:Try.prog.cellsOf 23=2:=by kernel_rfl
theorem bv_p{H:Type}{enc:TypeId×Value→H}{W:World}{bs fuel:Nat}{sp:Nat→Bool}{hd:Bool}{c0 c1:Value}{y:DataW H×List MemPlace}(h:DataW.trod enc Try.prog W bs sp hd fuel 23 [c0,c1]=some y):
  ∃ a b:Int,c0= .int .i64 a∧c1= .int .i64 b∧y=(.agg [.lit (.int .i64 a), .lit (.int .i64 b)], [])∧(Lit.int .i64 a).wf=true∧(Lit.int .i64 b).wf=true:=by
 obtain⟨y0,y1,n,hx,_,h0,h1⟩:=trod_struct2 Try.underlying23 h
 have h0:DataW.trod enc Try.prog W bs sp hd n 2 [c0]=some y0:=by simpa [bv_I]using h0
 have h1:DataW.trod enc Try.prog W bs sp hd n 2 [c1]=some y1:=by simpa [bv_I]using h1
 obtain⟨a,e0,rfl,w0⟩:=DataW.trod_int Try.underlying2 h0
 obtain⟨b,e1,rfl,w1⟩:=DataW.trod_int Try.underlying2 h1
 simp at e0 e1 hx
 exact⟨a,b,e0,e1,hx,w0,w1⟩
theorem bv_PP:Try.prog.cellsOf 43=4:=by kernel_rfl
set_option maxRecDepth 100000 in
theorem open_pt2{H:Type}{enc:TypeId×Value→H}{w W:World}{r:Reach}{b0 bs:Nat}{sp:Nat→Bool}{hd:Bool}{v:Value}{d:DataW H}{p:List MemPlace}(hv:Value.okWide Try.prog w r b0 43 v)(h:DataW.Trod enc Try.prog W bs sp hd 43 v d p):
  ∃ a0 a1 a2 a3:Int,v= .agg #[.int .i64 a0, .int .i64 a1, .int .i64 a2, .int .i64 a3]∧d= .agg [.agg [.lit (.int .i64 a0), .lit (.int .i64 a1)], .agg [.lit (.int .i64 a2), .lit (.int .i64 a3)]]∧p= []∧(Lit.int .i64 a0).wf=true∧(Lit.int .i64 a1).wf=true∧(Lit.int .i64 a2).wf=true∧(Lit.int .i64 a3).wf=true:=by
 simp only [Value.okWide,Try.underlying43]at hv
 obtain⟨cs,rfl,hsz,_⟩:=hv
 obtain⟨c0,c1,c2,c3,rfl⟩:=bv_list4 (hsz.trans bv_PP)
 obtain⟨fuel,hf⟩:=h
 obtain⟨xs,m,_,hx,_,hl,hi⟩:=DataW.trod_array Try.underlying43 hf
 obtain⟨y0,y1,rfl⟩: ∃ y0 y1,xs= [y0,y1]:=by
  match xs,hl with
  | [y0,y1],_=>exact⟨y0,y1,rfl⟩
 have i0:=hi 0 (by decide)
 have i1:=hi 1 (by decide)
 rw [bv_P]at i0 i1
 simp [Value.cells]at i0 i1
 obtain⟨a0,a1,rfl,rfl,rfl,w0,w1⟩:=bv_p i0
 obtain⟨a2,a3,rfl,rfl,rfl,w2,w3⟩:=bv_p i1
 simp at hx
 exact⟨a0,a1,a2,a3,rfl,hx.1,hx.2,w0,w1,w2,w3⟩
set_option maxRecDepth 100000 in
theorem shut_pt2{H:Type}{enc:TypeId×Value→H}{W:World}{bs:Nat}{sp:Nat→Bool}{hd:Bool}{a0 a1 a2 a3:Int}(w0:(Lit.int .i64 a0).wf=true)(w1:(Lit.int .i64 a1).wf=true)(w2:(Lit.int .i64 a2).wf=true)(w3:(Lit.int .i64 a3).wf=true):
  DataW.Trod enc Try.prog W bs sp hd 43 (.agg #[.int .i64 a0, .int .i64 a1, .int .i64 a2, .int .i64 a3]) (.agg [.agg [.lit (.int .i64 a0), .lit (.int .i64 a1)], .agg [.lit (.int .i64 a2), .lit (.int .i64 a3)]]) []:=by
 have r2:List.range 2= [0,1]:=rfl
 exact⟨3,by simp [DataW.trod,Try.underlying43,Try.underlying23,Try.underlying2,bv_I,bv_P,bv_PP,Value.cells,r2,w0,w1,w2,w3]⟩
structure Ba where
 d:Bool
 v:Int
 x:Int
 y:Int
end Go.Proofs.Ytliajdokamlnnaa
namespace Go.Proofs.Ytliajdokamlnnaa
open Go.RowKit
set_option linter.unusedVariables false
theorem ups_has{a x:Int}{n:Nat}(h1:a≤x)(h2:x<a+n):x∈ups a n:=by
 induction n generalizing a with
 |zero=>omega
 |succ n ih=>
  by_cases e:x=a
  ·subst e;exact List.mem_cons_self ..
  ·exact List.mem_cons_of_mem _ (ih (by omega) (by omega))
theorem out_has{n:Nat}{o:Int×Int}(h1: -(n:Int)≤o.1∧o.1≤n)(h2: -(n:Int)≤o.2∧o.2≤n):o∈outP n:=by
 obtain⟨p,q⟩:=o
 dsimp only at h1 h2
 obtain⟨f,hf,hp,hq,hor⟩: ∃ f:Nat,f≤n∧(-(f:Int)≤p∧p≤f)∧(-(f:Int)≤q∧q≤f)∧(p= -(f:Int)∨p=f∨q= -(f:Int)∨q=f):=by
  by_cases e:p.natAbs≤q.natAbs
  ·exact⟨q.natAbs,by omega,by omega,by omega,by omega⟩
  ·exact⟨p.natAbs,by omega,by omega,by omega,by omega⟩
 unfold outP
 refine List.mem_flatMap.2 ⟨(f:Int),ups_has (by omega) (by omega),?_⟩
 rw [Int.toNat_natCast]
 unfold ringP
 refine List.mem_flatMap.2 ⟨p,ups_has (by omega) (by omega),?_⟩
 unfold colP
 by_cases e:p= -(f:Int)∨p=f
 ·rw [if_pos e]
  exact List.mem_map.2 ⟨q,ups_has (by omega) (by omega),rfl⟩
 ·rw [if_neg e]
  have:q= -(f:Int)∨q=f:=by omega
  rcases this with rfl|rfl
  ·exact List.mem_cons_self ..
  ·exact List.mem_cons_of_mem _ (List.mem_cons_self ..)
theorem find_one{α β:Type}{f:α→Option β}{v:β}: ∀ {Z:List α},(∀ o∈Z,f o=none∨f o=some v)→(∃ o∈Z,f o=some v)→Z.findSome? f=some v
 | [],_,⟨_,h,_⟩=>by cases h
 |z::Z,h,⟨o,ho,e⟩=>by
  rw [List.findSome?_cons]
  rcases h z (List.mem_cons_self ..)with hz|hz
  ·rw [hz]
   refine find_one (fun o ho=>h o (List.mem_cons_of_mem _ ho)) ?_
   rcases List.mem_cons.1 ho with rfl|ho
   ·rw [hz]at e;cases e
   ·exact⟨o,ho,e⟩
  ·rw [hz]
theorem ix_self{n a b:Nat}(ha:a<n)(hb:b<n):ixC n (a:Int) (b:Int)=a*n+b:=by
 unfold ixC
 rw [Int.emod_eq_of_lt (by omega) (by omega),Int.emod_eq_of_lt (by omega) (by omega),Int.toNat_natCast,Int.toNat_natCast]
theorem near_one{n a b x y:Nat}{v:Int}(ha:a<n)(hb:b<n)(hx:x<n)(hy:y<n):nearV (upd (fun _=> []) (a*n+b) [v]) n x y=v:=by
 have h1: ∀ o∈outP n,hitC (upd (fun _=> []) (a*n+b) [v]) n x y o=none∨hitC (upd (fun _=> []) (a*n+b) [v]) n x y o=some v:=by
  intro o _
  unfold hitC upd
  split
  ·exact Or.inr rfl
  ·exact Or.inl rfl
 have h2:hitC (upd (fun _=> []) (a*n+b) [v]) n x y ((a:Int)- x,(b:Int)- y)=some v:=by
  unfold hitC
  rw [show(x:Int)+((a:Int)- x)=a by omega,show(y:Int)+((b:Int)- y)=b by omega,ix_self ha hb,upd_same]
  rfl
 unfold nearV
 rw [find_one h1 ⟨_,out_has ⟨by dsimp only;omega,by dsimp only;omega⟩ ⟨by dsimp only;omega,by dsimp only;omega⟩,h2⟩]
 rfl
theorem out_first(n:Nat): ∃ Z,outP n=(0,0)::Z:=by
 refine⟨(ups 1 n).flatMap fun f=>ringP f.toNat,?_⟩
 unfold outP
 rw [ups,List.flatMap_cons]
 rfl
theorem near_own{L:Nat→List Int}{n x y:Nat}{v:Int}(hx:x<n)(hy:y<n)(h:(L (x*n+y)).head? =some v):nearV L n x y=v:=by
 obtain⟨Z,hZ⟩:=out_first n
 unfold nearV
 rw [hZ,List.findSome?_cons]
 have:hitC L n x y (0,0)=some v:=by
  unfold hitC
  dsimp only
  rw [Int.add_zero,Int.add_zero,ix_self hx hy]
  exact h
 rw [this]
 rfl
theorem near_empty(x y s:Int)(n:Nat): -1=nearR (fun _=> []) x y s n:=by
 unfold nearR
 split
 ·unfold nearV
  rw [find_none (fun i hi=>rfl)]
  rfl
 ·rfl
theorem near_two{n a b x y:Nat}{v:Int}(ha:a<n)(hb:b<n)(hx:x<n)(hy:y<n)(hv:v≤65535):(a=x∧b=y∧nearV (upd (upd (fun _=> []) (a*n+b) [v]) (x*n+y) (insL (upd (fun _=> []) (a*n+b) [v] (x*n+y)) 70000)) n x y=v)∨nearV (upd (upd (fun _=> []) (a*n+b) [v]) (x*n+y) (insL (upd (fun _=> []) (a*n+b) [v] (x*n+y)) 70000)) n x y=70000:=by
 by_cases e:x*n+y=a*n+b
 ·obtain⟨rfl,rfl⟩:=idx_inj hy hb e
  refine Or.inl ⟨rfl,rfl,near_own hx hy ?_⟩
  rw [upd_same,upd_same,ins_cons (by simp),if_pos (by omega)]
  rfl
 ·right
  refine near_own hx hy ?_
  rw [upd_same,upd_other e]
  rfl
end Go.Proofs.Ytliajdokamlnnaa
