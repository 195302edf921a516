/-
  Joined texts, part 5:
  What zelligeref04's Small answers.
  What zelligeref06's Torus, In, Can and Cmp answer.
  What zelligeref06's At answers.
  What zelligeref06's Home answers.
  append in a region that draws its order, of elements of several cells. It imports nothing 
  What zelligeref15's Cell, far, least and Put answer.
  What zelligeref15's far, least and Put answer.
  What zelligeref15's Put and Drop answer.
  What zelligeref15's Near answers.
-/
import Derived.Test.YtliajdokamlnnaaP2
import Derived.Test.YtliajdokamlnnaaP4
import Derived.Test.YtliajdokamlnnaaP1
import Derived.Test.YtliajdokamlnnaaP3
namespace Go.Proofs.Ytliajdokamlnnaa
open Go.RowKit
set_option linter.unusedVariables false
theorem few63:hf.nlen (9223372036854775807:Int).natAbs≤1000000:=Nat.le_trans (hf.nlen_le (n:=4) (by decide)) (by decide)
theorem few64:hf.nlen (-9223372036854775808:Int).natAbs≤1000000:=Nat.le_trans (hf.nlen_le (n:=4) (by decide)) (by decide)
def RsRel(W:World)(U l:Nat)(nv i:Value)(wr:World):Prop:= ∃ r:Nat,r≤l∧i= .int .i64 ((r:Int)- 1)∧nv= .int .i64 (-((U/65536^r:Nat):Int))∧wr=W
theorem rs_step(U q:Nat): -((U/65536^(q+1):Nat):Int)*65536- hf.dg (U:Int) q= -((U/65536^q:Nat):Int):=by
 rw [hf.dg_nat,Nat.pow_succ,←Nat.div_div_eq_div_mul]
 omega
set_option maxRecDepth 100000 in
set_option maxHeartbeats 8000000 in
theorem rwSmall(s:Int)(d:Option Addr)(l c:Nat)(z:Int)(w:World)(hd:RN w s d l c z)(fz:hf.nlen z.natAbs≤1000000){v:Int}{ok:Bool}(hv:v=smV z)(hok:ok=smOk z):
  Calls Try.prog 37 #[.agg #[.int .i64 s, .slice d l c]] w fun e w'=>e= .returned (.tuple #[.int .i64 v, .bool ok])∧Below w.heap.size w w':=by
 have B0:Below w.heap.size w (w.alloc (.cells #[.int .i64 s, .slice d l c] 75)):=(Below.refl _ _).alloc (Nat.le_refl _) _
 have x0:=(bx_new w (.int .i64 s) (.slice d l c) 75).drew
 obtain⟨g1,hg1⟩: ∃ g1,g1=(z- 9223372036854775807).sign:=⟨_,rfl⟩
 obtain⟨g2,hg2⟩: ∃ g2,g2=(z - -9223372036854775808).sign:=⟨_,rfl⟩
 have G1:Hid _:=hg1
 have G2:Hid _:=hg2
 by_cases hbig:9223372036854775807<z
 ·have hno:smOk z=false:=by unfold smOk;simp;omega
  obtain rfl:ok=false:=by rw [hok,hno]
  obtain rfl:v=0:=by rw [hv];unfold smV;rw [hno];rfl
  have e1:0<g1:=by rw [hg1,sign_pos (by omega)];decide
  clear hg1 hg2 hv hok
  go_enter Try.func37,Try.ntmps37
  go_wp2
  refine wp_region_held_drew (S:=(fun w'=>w'.cell? ⟨w.heap.size,0,none⟩=some (.int .i64 s)∧w'.cell? ⟨w.heap.size,1,none⟩=some (.slice d l c)∧Below w.heap.size w w')) (by kernel_rfl) ?_ (fun hHeld=>?_)
  ·first|exact keepB1 hHeld bb|exact⟨x0.c0,x0.c1,B0.drew⟩|exact hHeld
  refine tz (i:=0) rfl ?_
  simp only [Act.put,ps1,ps2,ps3]
  refine take_call (i:=1) rfl (by kernel_rfl) (fun K hK=>?_)
  go_simp
  (go_at_call 36;refine(rwLong 9223372036854775807 _ (by decide) (by decide)).mono ?_;rintro e w1 ⟨s1,d1,l1,c1,rfl,h1,f1,bb⟩;have b1:=bb)
  refine hK.out _ _ ?_ (fun hHeld=>?_)
  ·first|exact keepB1 hHeld bb|exact⟨x0.c0,x0.c1,B0.drew⟩|exact hHeld
  clear hK K
  refine take_call (i:=2) rfl (by kernel_rfl) (fun K hK=>?_)
  go_simp
  (go_at_call 51;refine(rwCmp s s1 d d1 l c l1 c1 z 9223372036854775807 _ (hd.below hHeld.2.2) h1 fz few63 G1.out).mono ?_;rintro e w2 ⟨rfl,bb⟩;have b2:=bb)
  refine hK.out _ _ ?_ (fun hHeld=>?_)
  ·first|exact keepB1 hHeld bb|exact⟨x0.c0,x0.c1,B0.drew⟩|exact hHeld
  clear hK K
  refine tn 3 ?_;refine tn 4 ?_
  simp only [Act.put,ps1,ps2,ps3]
  refine tno 5 ?_
  simp only [Act.put,ps1,ps2,ps3]
  refine take_call (i:=6) rfl (by kernel_rfl) (fun K hK=>?_)
  go_simp
  refine hK.out _ _ ?_ (fun hHeld=>?_)
  ·first|exact keepB1 hHeld bb|exact⟨x0.c0,x0.c1,B0.drew⟩|exact hHeld
  clear hK K
  refine take_call (i:=7) rfl (by kernel_rfl) (fun K hK=>?_)
  go_simp
  refine hK.out _ _ ?_ (fun hHeld=>?_)
  ·first|exact keepB1 hHeld bb|exact⟨x0.c0,x0.c1,B0.drew⟩|exact hHeld
  clear hK K
  refine tno 8 ?_
  simp only [Act.put,ps1,ps2,ps3]
  refine tz (i:=9) rfl ?_
  simp only [Act.put,ps1,ps2,ps3]
  refine wpAnyH_done (by kernel_rfl) ?_ _
  go_wp2
  go_ret2
  exact⟨rfl,hHeld.2.2⟩
 ·have e1: ¬0<g1:=by rw [hg1];rcases sign_cases (z- 9223372036854775807)with⟨_,e⟩|⟨_,e⟩|⟨_,e⟩<;>omega
  have e1':decide (0<g1)=false:=by simpa using e1
  by_cases hsm:z< -9223372036854775808
  ·have hno:smOk z=false:=by unfold smOk;simp;omega
   obtain rfl:ok=false:=by rw [hok,hno]
   obtain rfl:v=0:=by rw [hv];unfold smV;rw [hno];rfl
   have e2:g2<0:=by rw [hg2,sign_neg (by omega)];decide
   clear hg1 hg2 hv hok
   go_enter Try.func37,Try.ntmps37
   go_wp2
   refine wp_region_held_drew (S:=(fun w'=>w'.cell? ⟨w.heap.size,0,none⟩=some (.int .i64 s)∧w'.cell? ⟨w.heap.size,1,none⟩=some (.slice d l c)∧Below w.heap.size w w')) (by kernel_rfl) ?_ (fun hHeld=>?_)
   ·first|exact keepB1 hHeld bb|exact⟨x0.c0,x0.c1,B0.drew⟩|exact hHeld
   refine tz (i:=0) rfl ?_
   simp only [Act.put,ps1,ps2,ps3]
   refine take_call (i:=1) rfl (by kernel_rfl) (fun K hK=>?_)
   go_simp
   (go_at_call 36;refine(rwLong 9223372036854775807 _ (by decide) (by decide)).mono ?_;rintro e w1 ⟨s1,d1,l1,c1,rfl,h1,f1,bb⟩;have b1:=bb)
   refine hK.out _ _ ?_ (fun hHeld=>?_)
   ·first|exact keepB1 hHeld bb|exact⟨x0.c0,x0.c1,B0.drew⟩|exact hHeld
   clear hK K
   refine take_call (i:=2) rfl (by kernel_rfl) (fun K hK=>?_)
   go_simp
   (go_at_call 51;refine(rwCmp s s1 d d1 l c l1 c1 z 9223372036854775807 _ (hd.below hHeld.2.2) h1 fz few63 G1.out).mono ?_;rintro e w2 ⟨rfl,bb⟩;have b2:=bb)
   refine hK.out _ _ ?_ (fun hHeld=>?_)
   ·first|exact keepB1 hHeld bb|exact⟨x0.c0,x0.c1,B0.drew⟩|exact hHeld
   clear hK K
   refine tn 3 ?_;refine tn 4 ?_;refine tn 5 ?_
   simp only [Act.put,ps1,ps2,ps3]
   refine take_call (i:=6) rfl (by kernel_rfl) (fun K hK=>?_)
   go_simp
   (go_at_call 36;refine(rwLong (-9223372036854775808) _ (by decide) (by decide)).mono ?_;rintro e w3 ⟨s3,d3,l3,c3,rfl,h3,f3,bb⟩;have b3:=bb)
   refine hK.out _ _ ?_ (fun hHeld=>?_)
   ·first|exact keepB1 hHeld bb|exact⟨x0.c0,x0.c1,B0.drew⟩|exact hHeld
   clear hK K
   refine take_call (i:=7) rfl (by kernel_rfl) (fun K hK=>?_)
   go_simp
   (go_at_call 51;refine(rwCmp s s3 d d3 l c l3 c3 z (-9223372036854775808) _ (hd.below hHeld.2.2) h3 fz few64 G2.out).mono ?_;rintro e w4 ⟨rfl,bb⟩;have b4:=bb)
   refine hK.out _ _ ?_ (fun hHeld=>?_)
   ·first|exact keepB1 hHeld bb|exact⟨x0.c0,x0.c1,B0.drew⟩|exact hHeld
   clear hK K
   refine tn 8 ?_;refine tn 9 ?_
   simp only [Act.put,ps1,ps2,ps3]
   refine wpAnyH_done (by kernel_rfl) ?_ _
   go_wp2
   go_ret2
   exact⟨rfl,hHeld.2.2⟩
  ·have hyes:smOk z=true:=by unfold smOk;simp;omega
   obtain rfl:ok=true:=by rw [hok,hyes]
   have hvz:v=z:=by rw [hv];unfold smV;rw [hyes];rfl
   have e2: ¬g2<0:=by rw [hg2];rcases sign_cases (z - -9223372036854775808)with⟨_,e⟩|⟨_,e⟩|⟨_,e⟩<;>omega
   have e2':decide (g2<0)=false:=by simpa using e2
   obtain⟨U,hU⟩: ∃ U,U=z.natAbs:=⟨_,rfl⟩
   have hUl:U≤9223372036854775808:=by omega
   have hsz:(z=U∧s=1∧0<U)∨(z= -(U:Int)∧(s= -1∨s=0)):=by
    rw [hd.sg]
    rcases sign_cases z with⟨a,e⟩|⟨a,e⟩|⟨a,e⟩
    ·exact Or.inr ⟨by omega,Or.inl e⟩
    ·exact Or.inr ⟨by omega,Or.inr e⟩
    ·exact Or.inl ⟨by omega,e,by omega⟩
   have HVZ:Hid _:=hvz
   have HUU:Hid _:=hU
   clear hg1 hg2 hv hok hvz hU
   go_enter Try.func37,Try.ntmps37
   go_wp2
   refine wp_region_held_drew (S:=(fun w'=>w'.cell? ⟨w.heap.size,0,none⟩=some (.int .i64 s)∧w'.cell? ⟨w.heap.size,1,none⟩=some (.slice d l c)∧Below w.heap.size w w')) (by kernel_rfl) ?_ (fun hHeld=>?_)
   ·first|exact keepB1 hHeld bb|exact⟨x0.c0,x0.c1,B0.drew⟩|exact hHeld
   refine tz (i:=0) rfl ?_
   simp only [Act.put,ps1,ps2,ps3]
   refine take_call (i:=1) rfl (by kernel_rfl) (fun K hK=>?_)
   go_simp
   (go_at_call 36;refine(rwLong 9223372036854775807 _ (by decide) (by decide)).mono ?_;rintro e w1 ⟨s1,d1,l1,c1,rfl,h1,f1,bb⟩;have b1:=bb)
   refine hK.out _ _ ?_ (fun hHeld=>?_)
   ·first|exact keepB1 hHeld bb|exact⟨x0.c0,x0.c1,B0.drew⟩|exact hHeld
   clear hK K
   refine take_call (i:=2) rfl (by kernel_rfl) (fun K hK=>?_)
   go_simp
   (go_at_call 51;refine(rwCmp s s1 d d1 l c l1 c1 z 9223372036854775807 _ (hd.below hHeld.2.2) h1 fz few63 G1.out).mono ?_;rintro e w2 ⟨rfl,bb⟩;have b2:=bb)
   refine hK.out _ _ ?_ (fun hHeld=>?_)
   ·first|exact keepB1 hHeld bb|exact⟨x0.c0,x0.c1,B0.drew⟩|exact hHeld
   clear hK K
   refine tn 3 ?_;refine tn 4 ?_;refine tn 5 ?_
   simp only [Act.put,ps1,ps2,ps3]
   refine take_call (i:=6) rfl (by kernel_rfl) (fun K hK=>?_)
   go_simp
   (go_at_call 36;refine(rwLong (-9223372036854775808) _ (by decide) (by decide)).mono ?_;rintro e w3 ⟨s3,d3,l3,c3,rfl,h3,f3,bb⟩;have b3:=bb)
   refine hK.out _ _ ?_ (fun hHeld=>?_)
   ·first|exact keepB1 hHeld bb|exact⟨x0.c0,x0.c1,B0.drew⟩|exact hHeld
   clear hK K
   refine take_call (i:=7) rfl (by kernel_rfl) (fun K hK=>?_)
   go_simp
   (go_at_call 51;refine(rwCmp s s3 d d3 l c l3 c3 z (-9223372036854775808) _ (hd.below hHeld.2.2) h3 fz few64 G2.out).mono ?_;rintro e w4 ⟨rfl,bb⟩;have b4:=bb)
   refine hK.out _ _ ?_ (fun hHeld=>?_)
   ·first|exact keepB1 hHeld bb|exact⟨x0.c0,x0.c1,B0.drew⟩|exact hHeld
   clear hK K
   refine tn 8 ?_;refine tn 9 ?_
   simp only [Act.put,ps1,ps2,ps3]
   refine wpAnyH_done (by kernel_rfl) ?_ _
   have B5:=hHeld.2.2
   have hd5:=(hd.below B5).hd
   rw [←HUU.out]at hd5
   have hlU:U<65536^l:=by rw [hd5.len];exact hf.nlen_lt U
   have HZ:Hid (U/65536^l=0):=Nat.div_eq_of_lt hlU
   have k0:=hHeld.1
   have k1:=hHeld.2.1
   have hbg:=hd5.sl.big
   have hrm:=hd5.sl.room
   unfold maxLen at hbg
   clear hHeld b1 b2 b3 b4 h1 h3 f1 f3 hlU
   go_wp2
   go_loopw [4,5] (fun nv i wr=>RsRel w4 U l nv i wr) (fun _ i _=>(intOf i+1).toNat)
   case atStart=>exact⟨l,Nat.le_refl _,rfl,by rw [HZ.out];rfl,rfl⟩
   case round=>
    obtain⟨r,hr,rfl,rfl,rfl⟩:=hrel
    rcases r with _|q
    ·rw [Nat.pow_zero,Nat.div_one]
     rcases hsz with⟨e,rfl,hpos⟩|⟨e,hs⟩
     ·obtain rfl:v=(U:Int):=HVZ.out.trans e
      go_wp2
      go_ret2
      exact⟨by first|rfl|simp,B5⟩
     ·obtain rfl:v= -(U:Int):=HVZ.out.trans e
      rcases hs with rfl|rfl
      ·go_wp2
       go_ret2
       exact⟨by first|rfl|simp,B5⟩
      ·go_wp2
       go_ret2
       exact⟨by first|rfl|simp,B5⟩
    ·obtain⟨b,o,rfl,hb,hseg⟩:=hd5.sl.at (by omega)
     have c1:wr.cell? ⟨b,o+q,none⟩=some (.int .i64 (hf.dg (U:Int) q)):=hseg.cell q _ (hf.dcells_at _ _ _ (by omega))
     obtain⟨d0,d1⟩:=hf.dg_range (U:Int) q
     have e3:((q+1:Nat):Int)- 1=(q:Int):=by omega
     have HST:Hid _:=rs_step U q
     have hq1:(U/65536^(q+1):Nat)*65536≤U:=by
      have h1:=Nat.div_mul_le_self U (65536^(q+1))
      have h2:U/65536^(q+1)*65536≤U/65536^(q+1)*65536^(q+1):=Nat.mul_le_mul_left _ (by rw [Nat.pow_succ];exact Nat.le_mul_of_pos_left _ (Nat.pow_pos (by decide)))
      omega
     have hq2:U/65536^q≤U:=Nat.div_le_self _ _
     obtain⟨A,hA⟩: ∃ A,A=U/65536^(q+1):=⟨_,rfl⟩
     obtain⟨A',hA'⟩: ∃ A',A'=U/65536^q:=⟨_,rfl⟩
     rw [←hA]at HST hq1 ⊢
     rw [←hA']at HST hq2
     have HA':Hid _:=hA'
     obtain⟨D,hD⟩: ∃ D,D=hf.dg (U:Int) q:=⟨_,rfl⟩
     rw [←hD]at c1 d0 d1 HST
     have hq3: -((A:Nat):Int)*65536- D= -(A':Int):=HST.out
     have hlo: -9223372036854775808≤ -(A:Int)*65536:=by omega
     clear hA hA' hD
     rw [e3]
     go_wp2
     go_roundw
     case rel=>exact⟨q,by omega,rfl,by rw [←HA'.out],rfl⟩
     case measure=>simp [intOf]
theorem few40:hf.nlen (1099511627776:Int).natAbs≤1000000:=hfew (K:=2) (by decide) (by decide)
theorem few40n:hf.nlen (-1099511627776:Int).natAbs≤1000000:=hfew (K:=2) (by decide) (by decide)
theorem few_i64{x:Int}(h: -9223372036854775808≤x∧x≤9223372036854775807):hf.nlen x.natAbs≤1000000:=hfew (K:=2) (by omega) (by decide)
theorem in_no_high{z:Int}(h:1099511627776<z):inC z=false:=inC_false.2 (by omega)
theorem rlTorus(c:Int)(w:World){b:Bool}(hb:b=sideC c):Calls Try.prog 33 #[.int .i64 c] w fun e w'=>e= .returned (.bool b)∧Below w.heap.size w w':=by
 subst hb
 unfold sideC
 go_enter Try.func33,Try.ntmps33
 go_wp2
 all_goals (go_ret;exact⟨by simp;omega,Below.refl _ _⟩)
set_option maxRecDepth 100000 in
set_option maxHeartbeats 4000000 in
theorem rlIn(s:Int)(d:Option Addr)(l c:Nat)(z:Int)(w:World)(hz:RN w s d l c z)(fz:hf.nlen z.natAbs≤1000000){b:Bool}(hb:b=inC z):Calls Try.prog 45 #[.agg #[.int .i64 s, .slice d l c]] w fun e w'=>e= .returned (.bool b)∧Below w.heap.size w w':=by
 obtain⟨g1,hg1⟩: ∃ g1,g1=(z- 1099511627776).sign:=⟨_,rfl⟩
 obtain⟨g2,hg2⟩: ∃ g2,g2=(z - -1099511627776).sign:=⟨_,rfl⟩
 have G1:Hid _:=hg1
 have G2:Hid _:=hg2
 have FZ:Hid _:=fz
 clear fz
 obtain⟨W,hW,bW,x_n,sW⟩:=bs_2 w (.int .i64 s) (.slice d l c) 75
 have zbW:=bW.size
 replace hz:=hz.below bW
 have BB:=bW
 by_cases hbig:1099511627776<z
 ·skip
  obtain rfl:b=false:=by rw [hb,in_no_high hbig]
  have e1:(g1≤0)=False:=by rw [hg1,Int.sign_eq_one_of_pos (by omega)];decide
  clear hb hg1 hg2 hbig
  go_enter Try.func45,Try.ntmps45
  go_wp2
  rw [←hW]
  clear hW
  have dd1:Below W.heap.size W W.drew:=(Below.refl _ _).drew
  have zdd1:=dd1.size
  replace hz:=hz.below dd1
  replace BB:=also BB dd1
  replace x_n:=x_n.on dd1
  refine wp_region_held_drew (S:=(fun w'=>w'.cell? ⟨w.heap.size,0,none⟩=some (.int .i64 s)∧w'.cell? ⟨w.heap.size,1,none⟩=some (.slice d l c)∧Below w.heap.size w w')) (by kernel_rfl) ?_ (fun hHeld=>?_)
  ·first|exact⟨x_n.c0,x_n.c1,BB⟩|exact⟨cell_on bw2 hHeld.1,cell_on bw2 hHeld.2.1,also hHeld.2.2 bw2⟩|exact⟨cell_on bw1 hHeld.1,cell_on bw1 hHeld.2.1,also hHeld.2.2 bw1⟩
  refine tz (i:=0) rfl ?_
  simp only [Act.put,ps1,ps2,ps3]
  refine tcl 1 fun Kc hK=>?_
  go_simp
  (go_at_call 36;refine(rwLong 1099511627776 _ (by decide) (by decide)).mono ?_;rintro e w1 ⟨s1,d1,l1,c1,rfl,r1,f1,bw1⟩)
  refine hK.out _ _ ?_ (fun hHeld=>?_)
  ·first|exact⟨x_n.c0,x_n.c1,BB⟩|exact⟨cell_on bw2 hHeld.1,cell_on bw2 hHeld.2.1,also hHeld.2.2 bw2⟩|exact⟨cell_on bw1 hHeld.1,cell_on bw1 hHeld.2.1,also hHeld.2.2 bw1⟩
  clear hK Kc
  have zbw1:=bw1.size
  replace hz:=hz.below bw1
  replace BB:=also BB bw1
  replace x_n:=x_n.on bw1
  refine tcl 2 fun Kc hK=>?_
  go_simp
  (go_at_call 51;refine(rwCmp s s1 d d1 l c l1 c1 z 1099511627776 _ hz r1 FZ.out few40 G1.out).mono ?_;rintro e w2 ⟨rfl,bw2⟩)
  refine hK.out _ _ ?_ (fun hHeld=>?_)
  ·first|exact⟨x_n.c0,x_n.c1,BB⟩|exact⟨cell_on bw2 hHeld.1,cell_on bw2 hHeld.2.1,also hHeld.2.2 bw2⟩|exact⟨cell_on bw1 hHeld.1,cell_on bw1 hHeld.2.1,also hHeld.2.2 bw1⟩
  clear hK Kc
  have zbw2:=bw2.size
  replace hz:=hz.below bw2
  replace BB:=also BB bw2
  replace x_n:=x_n.on bw2
  replace r1:=r1.below bw2
  refine tn 3 ?_;refine tn 4 ?_
  simp only [Act.put,ps1,ps2,ps3]
  refine tno 5 ?_
  simp only [Act.put,ps1,ps2,ps3]
  refine tno 6 ?_
  simp only [Act.put,ps1,ps2,ps3]
  refine tno 7 ?_
  simp only [Act.put,ps1,ps2,ps3]
  refine tno 8 ?_
  simp only [Act.put,ps1,ps2,ps3]
  refine tn 9 ?_;refine tn 10 ?_
  simp only [Act.put,ps1,ps2,ps3]
  refine wpAnyH_done (by kernel_rfl) ?_ _
  go_wp2
  go_ret
  exact⟨rfl,BB⟩
 ·skip
  have e1:(g1≤0)=True:=by rw [hg1];rcases sign_cases (z- 1099511627776)with⟨q,s⟩|⟨q,s⟩|⟨q,s⟩<;>rw [s]<;>first|decide|omega
  have e2:decide (0≤g2)=b:=by rw [hb,hg2];unfold inC;rcases sign_cases (z - -1099511627776)with⟨q,s⟩|⟨q,s⟩|⟨q,s⟩<;>rw [s]<;>simp<;>omega
  clear hb hg1 hg2 hbig
  go_enter Try.func45,Try.ntmps45
  go_wp2
  rw [←hW]
  clear hW
  have dd1:Below W.heap.size W W.drew:=(Below.refl _ _).drew
  have zdd1:=dd1.size
  replace hz:=hz.below dd1
  replace BB:=also BB dd1
  replace x_n:=x_n.on dd1
  refine wp_region_held_drew (S:=(fun w'=>w'.cell? ⟨w.heap.size,0,none⟩=some (.int .i64 s)∧w'.cell? ⟨w.heap.size,1,none⟩=some (.slice d l c)∧Below w.heap.size w w')) (by kernel_rfl) ?_ (fun hHeld=>?_)
  ·first|exact⟨x_n.c0,x_n.c1,BB⟩|exact⟨cell_on bw4 hHeld.1,cell_on bw4 hHeld.2.1,also hHeld.2.2 bw4⟩|exact⟨cell_on bw3 hHeld.1,cell_on bw3 hHeld.2.1,also hHeld.2.2 bw3⟩|exact⟨cell_on bw2 hHeld.1,cell_on bw2 hHeld.2.1,also hHeld.2.2 bw2⟩|exact⟨cell_on bw1 hHeld.1,cell_on bw1 hHeld.2.1,also hHeld.2.2 bw1⟩
  refine tz (i:=0) rfl ?_
  simp only [Act.put,ps1,ps2,ps3]
  refine tcl 1 fun Kc hK=>?_
  go_simp
  (go_at_call 36;refine(rwLong 1099511627776 _ (by decide) (by decide)).mono ?_;rintro e w1 ⟨s1,d1,l1,c1,rfl,r1,f1,bw1⟩)
  refine hK.out _ _ ?_ (fun hHeld=>?_)
  ·first|exact⟨x_n.c0,x_n.c1,BB⟩|exact⟨cell_on bw4 hHeld.1,cell_on bw4 hHeld.2.1,also hHeld.2.2 bw4⟩|exact⟨cell_on bw3 hHeld.1,cell_on bw3 hHeld.2.1,also hHeld.2.2 bw3⟩|exact⟨cell_on bw2 hHeld.1,cell_on bw2 hHeld.2.1,also hHeld.2.2 bw2⟩|exact⟨cell_on bw1 hHeld.1,cell_on bw1 hHeld.2.1,also hHeld.2.2 bw1⟩
  clear hK Kc
  have zbw1:=bw1.size
  replace hz:=hz.below bw1
  replace BB:=also BB bw1
  replace x_n:=x_n.on bw1
  refine tcl 2 fun Kc hK=>?_
  go_simp
  (go_at_call 51;refine(rwCmp s s1 d d1 l c l1 c1 z 1099511627776 _ hz r1 FZ.out few40 G1.out).mono ?_;rintro e w2 ⟨rfl,bw2⟩)
  refine hK.out _ _ ?_ (fun hHeld=>?_)
  ·first|exact⟨x_n.c0,x_n.c1,BB⟩|exact⟨cell_on bw4 hHeld.1,cell_on bw4 hHeld.2.1,also hHeld.2.2 bw4⟩|exact⟨cell_on bw3 hHeld.1,cell_on bw3 hHeld.2.1,also hHeld.2.2 bw3⟩|exact⟨cell_on bw2 hHeld.1,cell_on bw2 hHeld.2.1,also hHeld.2.2 bw2⟩|exact⟨cell_on bw1 hHeld.1,cell_on bw1 hHeld.2.1,also hHeld.2.2 bw1⟩
  clear hK Kc
  have zbw2:=bw2.size
  replace hz:=hz.below bw2
  replace BB:=also BB bw2
  replace x_n:=x_n.on bw2
  replace r1:=r1.below bw2
  refine tn 3 ?_;refine tn 4 ?_;refine tn 5 ?_
  simp only [Act.put,ps1,ps2,ps3]
  refine tcl 6 fun Kc hK=>?_
  go_simp
  (go_at_call 36;refine(rwLong (-1099511627776) _ (by decide) (by decide)).mono ?_;rintro e w3 ⟨s3,d3,l3,c3,rfl,r3,f3,bw3⟩)
  refine hK.out _ _ ?_ (fun hHeld=>?_)
  ·first|exact⟨x_n.c0,x_n.c1,BB⟩|exact⟨cell_on bw4 hHeld.1,cell_on bw4 hHeld.2.1,also hHeld.2.2 bw4⟩|exact⟨cell_on bw3 hHeld.1,cell_on bw3 hHeld.2.1,also hHeld.2.2 bw3⟩|exact⟨cell_on bw2 hHeld.1,cell_on bw2 hHeld.2.1,also hHeld.2.2 bw2⟩|exact⟨cell_on bw1 hHeld.1,cell_on bw1 hHeld.2.1,also hHeld.2.2 bw1⟩
  clear hK Kc
  have zbw3:=bw3.size
  replace hz:=hz.below bw3
  replace BB:=also BB bw3
  replace x_n:=x_n.on bw3
  replace r1:=r1.below bw3
  refine tcl 7 fun Kc hK=>?_
  go_simp
  (go_at_call 51;refine(rwCmp s s3 d d3 l c l3 c3 z (-1099511627776) _ hz r3 FZ.out few40n G2.out).mono ?_;rintro e w4 ⟨rfl,bw4⟩)
  refine hK.out _ _ ?_ (fun hHeld=>?_)
  ·first|exact⟨x_n.c0,x_n.c1,BB⟩|exact⟨cell_on bw4 hHeld.1,cell_on bw4 hHeld.2.1,also hHeld.2.2 bw4⟩|exact⟨cell_on bw3 hHeld.1,cell_on bw3 hHeld.2.1,also hHeld.2.2 bw3⟩|exact⟨cell_on bw2 hHeld.1,cell_on bw2 hHeld.2.1,also hHeld.2.2 bw2⟩|exact⟨cell_on bw1 hHeld.1,cell_on bw1 hHeld.2.1,also hHeld.2.2 bw1⟩
  clear hK Kc
  have zbw4:=bw4.size
  replace hz:=hz.below bw4
  replace BB:=also BB bw4
  replace x_n:=x_n.on bw4
  replace r1:=r1.below bw4
  replace r3:=r3.below bw4
  refine tn 8 ?_;refine tn 9 ?_;refine tn 10 ?_
  simp only [Act.put,ps1,ps2,ps3]
  refine wpAnyH_done (by kernel_rfl) ?_ _
  go_wp2
  go_ret
  exact⟨rfl,BB⟩
set_option maxRecDepth 100000 in
theorem rlCan(x y:Int)(w:World)(hx: -9223372036854775808≤x∧x≤9223372036854775807)(hy: -9223372036854775808≤y∧y≤9223372036854775807){b:Bool}(hb:b=canC x y):Calls Try.prog 34 #[.agg #[.int .i64 x, .int .i64 y]] w fun e w'=>e= .returned (.bool b)∧Below w.heap.size w w':=by
 subst hb
 unfold canC
 have HX:Hid _:=hx
 have HY:Hid _:=hy
 clear hx hy
 cases hx:inC x
 ·skip
  obtain⟨W,hW,bW,x_p,sW⟩:=bs_2 w (.int .i64 x) (.int .i64 y) 23
  have zbW:=bW.size
  have BB:=bW
  go_enter Try.func34,Try.ntmps34
  go_wp2_with (go_at_call 36;fail)
  rw [←hW]
  clear hW
  refine(rwLong x W HX.out.1 HX.out.2).mono ?_
  rintro e w1 ⟨s1,d1,l1,c1,rfl,r1,f1,bw1⟩
  have zbw1:=bw1.size
  replace BB:=also BB bw1
  replace x_p:=x_p.on bw1
  go_wp2_with (go_at_call 45;fail)
  refine(rlIn s1 d1 l1 c1 x w1 r1 (few_i64 HX.out) hx.symm).mono ?_
  rintro e w2 ⟨rfl,bw2⟩
  have zbw2:=bw2.size
  replace BB:=also BB bw2
  replace x_p:=x_p.on bw2
  replace r1:=r1.below bw2
  have⟨x_p_0,x_p_1,x_p_2,x_p_3⟩:=x_p
  go_wp2
  go_ret
  exact⟨by simp,BB⟩
 ·skip
  obtain⟨W,hW,bW,x_p,sW⟩:=bs_2 w (.int .i64 x) (.int .i64 y) 23
  have zbW:=bW.size
  have BB:=bW
  go_enter Try.func34,Try.ntmps34
  go_wp2_with (go_at_call 36;fail)
  rw [←hW]
  clear hW
  refine(rwLong x W HX.out.1 HX.out.2).mono ?_
  rintro e w1 ⟨s1,d1,l1,c1,rfl,r1,f1,bw1⟩
  have zbw1:=bw1.size
  replace BB:=also BB bw1
  replace x_p:=x_p.on bw1
  go_wp2_with (go_at_call 45;fail)
  refine(rlIn s1 d1 l1 c1 x w1 r1 (few_i64 HX.out) hx.symm).mono ?_
  rintro e w2 ⟨rfl,bw2⟩
  have zbw2:=bw2.size
  replace BB:=also BB bw2
  replace x_p:=x_p.on bw2
  replace r1:=r1.below bw2
  have⟨x_p_0,x_p_1,x_p_2,x_p_3⟩:=x_p
  go_wp2_with (go_at_call 36;fail)
  refine(rwLong y w2 HY.out.1 HY.out.2).mono ?_
  rintro e w3 ⟨s3,d3,l3,c3,rfl,r3,f3,bw3⟩
  clear x_p_0 x_p_1 x_p_2 x_p_3
  have zbw3:=bw3.size
  replace BB:=also BB bw3
  replace x_p:=x_p.on bw3
  replace r1:=r1.below bw3
  go_wp2_with (go_at_call 45;fail)
  refine(rlIn s3 d3 l3 c3 y w3 r3 (few_i64 HY.out) rfl).mono ?_
  rintro e w4 ⟨rfl,bw4⟩
  have zbw4:=bw4.size
  replace BB:=also BB bw4
  replace x_p:=x_p.on bw4
  replace r1:=r1.below bw4
  replace r3:=r3.below bw4
  go_wp2
  go_ret
  exact⟨by simp,BB⟩
theorem sm_in{z:Int}(h:inC z=true):z=smV z∧true=smOk z:=by
 have:=inC_true.1 h
 have e:smOk z=true:=by unfold smOk;exact decide_eq_true (by omega)
 exact⟨by unfold smV;rw [e];rfl,e.symm⟩
theorem floor_few{x s:Int}(hs:sideC s=true)(hx:inC x=true):hf.nlen (x.sign*s.sign*((x.natAbs/s.natAbs:Nat):Int)).natAbs≤1000000∧hf.nlen (flQ x s).natAbs≤1000000∧hf.nlen (flQ x s*s).natAbs≤1000000:=by
 obtain⟨d1,d2,m1,m2,s2⟩:=fold_bound hs hx
 obtain⟨s1,_⟩:=sideC_true.1 hs
 obtain⟨x1,x2⟩:=inC_true.1 hx
 have e:=Int.mul_ediv_add_emod x s
 rw [(flQ_ediv x s (by omega)).1]
 refine⟨hfew (K:=2) ?_ (by decide),hfew (K:=2) (by omega) (by decide),hfew (K:=2) ?_ (by decide)⟩
 ·rw [Int.natAbs_mul,Int.natAbs_mul,Int.natAbs_natCast]
  have a1:x.sign.natAbs≤1:=by rcases sign_cases x with⟨_,s⟩|⟨_,s⟩|⟨_,s⟩<;>rw [s]<;>decide
  have a2:s.sign.natAbs≤1:=by rcases sign_cases s with⟨_,s⟩|⟨_,s⟩|⟨_,s⟩<;>rw [s]<;>decide
  have a3:=Nat.mul_le_mul (Nat.mul_le_mul a1 a2) (Nat.div_le_self x.natAbs s.natAbs)
  omega
 ·rw [Int.mul_comm]at e;omega
theorem sm_small{z:Int}(h: -1099511627776≤z∧z≤1099511627776):z=smV z∧true=smOk z:=sm_in (inC_true.2 h)
theorem few_in{z:Int}(h: -1099511627776≤z∧z≤1099511627776):hf.nlen z.natAbs≤1000000:=few_i64 (by omega)
set_option maxRecDepth 100000 in
set_option maxHeartbeats 8000000 in
theorem rlHome(x y s:Int)(w:World)(BX:Hid (-9223372036854775808≤x∧x≤9223372036854775807))(BY:Hid (-9223372036854775808≤y∧y≤9223372036854775807))(BS:Hid (-9223372036854775808≤s∧s≤9223372036854775807)){a c p q:Int}{b:Bool}(hb:b=homeC x y s)(ha:a=if b then x % s else 0)(hc':c=if b then y % s else 0)(hp:p=if b then x/s else 0)(hq:q=if b then y/s else 0):
  Calls Try.prog 21 #[.agg #[.int .i64 x, .int .i64 y], .int .i64 s] w fun e w'=>e= .returned (.tuple #[.agg #[.int .i64 a, .int .i64 c], .agg #[.int .i64 p, .int .i64 q], .bool b])∧Below w.heap.size w w':=by
 cases hs:sideC s
 ·skip
  have h0:=@home_no_side x y s hs
  obtain rfl:b=false:=by rw [hb,h0]
  obtain rfl:a=0:=ha
  obtain rfl:c=0:=hc'
  obtain rfl:p=0:=hp
  obtain rfl:q=0:=hq
  clear hb h0
  obtain⟨W,hW,bW,x_p,x_z,x_t,sW⟩:=bs_222 w (.int .i64 x) (.int .i64 y) (.int .i64 0) (.int .i64 0) (.int .i64 0) (.int .i64 0) 23 23 50
  have zbW:=bW.size
  have BB:=bW
  go_enter Try.func21,Try.ntmps21
  go_wp2_with (go_at_call 33;fail)
  rw [←hW]
  clear hW
  refine(rlTorus s W hs.symm).mono ?_
  rintro e w1 ⟨rfl,bw1⟩
  have zbw1:=bw1.size
  replace BB:=also BB bw1
  replace x_p:=x_p.on bw1
  replace x_z:=x_z.on bw1
  replace x_t:=x_t.on bw1
  have⟨x_p_0,x_p_1,x_p_2,x_p_3⟩:=x_p
  have⟨x_z_0,x_z_1,x_z_2,x_z_3⟩:=x_z
  have⟨x_t_0,x_t_1,x_t_2,x_t_3⟩:=x_t
  go_wp2
  exact bodyPost_ret (v:= .tuple #[.agg #[.int .i64 0, .int .i64 0], .agg #[.int .i64 0, .int .i64 0], .bool false]) (by simp [results,Try.results21,go_sem, *]) rfl (⟨rfl,below_put2 (below_put2 BB (by omega) _ _) (by omega) _ _⟩)
 ·skip
  cases hc:canC x y
  ·skip
   have h0:=@home_no_can x y s hc
   obtain rfl:b=false:=by rw [hb,h0]
   obtain rfl:a=0:=ha
   obtain rfl:c=0:=hc'
   obtain rfl:p=0:=hp
   obtain rfl:q=0:=hq
   clear hb h0
   obtain⟨W,hW,bW,x_p,x_z,x_t,sW⟩:=bs_222 w (.int .i64 x) (.int .i64 y) (.int .i64 0) (.int .i64 0) (.int .i64 0) (.int .i64 0) 23 23 50
   have zbW:=bW.size
   have BB:=bW
   go_enter Try.func21,Try.ntmps21
   go_wp2_with (go_at_call 33;fail)
   rw [←hW]
   clear hW
   refine(rlTorus s W hs.symm).mono ?_
   rintro e w1 ⟨rfl,bw1⟩
   have zbw1:=bw1.size
   replace BB:=also BB bw1
   replace x_p:=x_p.on bw1
   replace x_z:=x_z.on bw1
   replace x_t:=x_t.on bw1
   have⟨x_p_0,x_p_1,x_p_2,x_p_3⟩:=x_p
   have⟨x_z_0,x_z_1,x_z_2,x_z_3⟩:=x_z
   have⟨x_t_0,x_t_1,x_t_2,x_t_3⟩:=x_t
   go_wp2_with (go_at_call 34;fail)
   refine(rlCan x y w1 BX.out BY.out hc.symm).mono ?_
   rintro e w2 ⟨rfl,bw2⟩
   clear x_p_0 x_p_1 x_p_2 x_p_3 x_z_0 x_z_1 x_z_2 x_z_3 x_t_0 x_t_1 x_t_2 x_t_3
   have zbw2:=bw2.size
   replace BB:=also BB bw2
   replace x_p:=x_p.on bw2
   replace x_z:=x_z.on bw2
   replace x_t:=x_t.on bw2
   have⟨x_p_0,x_p_1,x_p_2,x_p_3⟩:=x_p
   have⟨x_z_0,x_z_1,x_z_2,x_z_3⟩:=x_z
   have⟨x_t_0,x_t_1,x_t_2,x_t_3⟩:=x_t
   go_wp2
   exact bodyPost_ret (v:= .tuple #[.agg #[.int .i64 0, .int .i64 0], .agg #[.int .i64 0, .int .i64 0], .bool false]) (by simp [results,Try.results21,go_sem, *]) rfl (⟨rfl,below_put2 (below_put2 BB (by omega) _ _) (by omega) _ _⟩)
  ·skip
   obtain rfl:b=true:=by rw [hb];unfold homeC;rw [hs,hc];rfl
   have HC1:Hid (inC x=true):=(canC_true.1 hc).1
   have HC2:Hid (inC y=true):=(canC_true.1 hc).2
   have hsp:0<s:=by have:=sideC_true.1 hs;omega
   have Ha:Hid (a=flR x s):=by unfold Hid;rw [(flQ_ediv x s hsp).2];exact ha
   have Hc:Hid (c=flR y s):=by unfold Hid;rw [(flQ_ediv y s hsp).2];exact hc'
   have Hp:Hid (p=flQ x s):=by unfold Hid;rw [(flQ_ediv x s hsp).1];exact hp
   have Hq:Hid (q=flQ y s):=by unfold Hid;rw [(flQ_ediv y s hsp).1];exact hq
   obtain⟨e1,e2,e3,e4,e5⟩:=fold_bound hs HC1.out
   obtain⟨e6,e7,e8,e9,_⟩:=fold_bound hs HC2.out
   replace ha:a=x % s:=ha
   replace hc':c=y % s:=hc'
   replace hp:p=x/s:=hp
   replace hq:q=y/s:=hq
   have Ba:Hid (-1099511627776≤a∧a≤1099511627776):=by unfold Hid;rw [ha];omega
   have Bc:Hid (-1099511627776≤c∧c≤1099511627776):=by unfold Hid;rw [hc'];omega
   have Bp:Hid (-1099511627776≤p∧p≤1099511627776):=by unfold Hid;rw [hp];omega
   have Bq:Hid (-1099511627776≤q∧q≤1099511627776):=by unfold Hid;rw [hq];omega
   have HS0:Hid (s≠0):=by unfold Hid;omega
   clear hb ha hc' hp hq e1 e2 e3 e4 e5 e6 e7 e8 e9 hsp
   have FX:=floor_few hs HC1.out
   have FY:=floor_few hs HC2.out
   have FX':Hid _:=FX
   have FY':Hid _:=FY
   clear FX FY
   obtain⟨W,hW,bW,x_p,x_z,x_t,sW⟩:=bs_222 w (.int .i64 x) (.int .i64 y) (.int .i64 0) (.int .i64 0) (.int .i64 0) (.int .i64 0) 23 23 50
   have zbW:=bW.size
   have BB:=bW
   go_enter Try.func21,Try.ntmps21
   go_wp2_with (go_at_call 33;fail)
   rw [←hW]
   clear hW
   refine(rlTorus s W hs.symm).mono ?_
   rintro e w1 ⟨rfl,bw1⟩
   have zbw1:=bw1.size
   replace BB:=also BB bw1
   replace x_p:=x_p.on bw1
   replace x_z:=x_z.on bw1
   replace x_t:=x_t.on bw1
   have⟨x_p_0,x_p_1,x_p_2,x_p_3⟩:=x_p
   have⟨x_z_0,x_z_1,x_z_2,x_z_3⟩:=x_z
   have⟨x_t_0,x_t_1,x_t_2,x_t_3⟩:=x_t
   go_wp2_with (go_at_call 34;fail)
   refine(rlCan x y w1 BX.out BY.out hc.symm).mono ?_
   rintro e w2 ⟨rfl,bw2⟩
   clear x_p_0 x_p_1 x_p_2 x_p_3 x_z_0 x_z_1 x_z_2 x_z_3 x_t_0 x_t_1 x_t_2 x_t_3
   have zbw2:=bw2.size
   replace BB:=also BB bw2
   replace x_p:=x_p.on bw2
   replace x_z:=x_z.on bw2
   replace x_t:=x_t.on bw2
   have⟨x_p_0,x_p_1,x_p_2,x_p_3⟩:=x_p
   have⟨x_z_0,x_z_1,x_z_2,x_z_3⟩:=x_z
   have⟨x_t_0,x_t_1,x_t_2,x_t_3⟩:=x_t
   go_wp2_with (go_at_call 36;fail)
   refine(rwLong x w2 BX.out.1 BX.out.2).mono ?_
   rintro e v10 ⟨s10,d10,l10,c10,rfl,r10,f10,bv10⟩
   clear x_p_0 x_p_1 x_p_2 x_p_3 x_z_0 x_z_1 x_z_2 x_z_3 x_t_0 x_t_1 x_t_2 x_t_3
   have zbv10:=bv10.size
   replace BB:=also BB bv10
   replace x_p:=x_p.on bv10
   replace x_z:=x_z.on bv10
   replace x_t:=x_t.on bv10
   go_wp2_with (go_at_call 36;fail)
   refine(rwLong s v10 BS.out.1 BS.out.2).mono ?_
   rintro e v11 ⟨s11,d11,l11,c11,rfl,r11,f11,bv11⟩
   have zbv11:=bv11.size
   replace BB:=also BB bv11
   replace x_p:=x_p.on bv11
   replace x_z:=x_z.on bv11
   replace x_t:=x_t.on bv11
   replace r10:=r10.below bv11
   go_wp2_with (go_at_call 35;fail)
   refine(rwFloorF s10 s11 d10 d11 l10 c10 l11 c11 x s v11 r10 r11 (few_i64 BX.out) (few_i64 BS.out) HS0.out FX'.out.1 FX'.out.2.1 FX'.out.2.2 p a Hp.out Ha.out).mono ?_
   rintro e v12 ⟨s12,d12,l12,c12,s13,d13,l13,c13,rfl,r12,r13,f13,bv12⟩
   have zbv12:=bv12.size
   replace BB:=also BB bv12
   replace x_p:=x_p.on bv12
   replace x_z:=x_z.on bv12
   replace x_t:=x_t.on bv12
   replace r10:=r10.below bv12
   replace r11:=r11.below bv12
   clear r10 r11
   obtain⟨V10,hV10,bV10,x_fi,x_fx,sV10⟩:=bs_22 v12 (.int .i64 s12) (.slice d12 l12 c12) (.int .i64 s13) (.slice d13 l13 c13) 75 75
   have zbV10:=bV10.size
   replace BB:=also BB bV10
   replace x_p:=x_p.on bV10
   replace x_z:=x_z.on bV10
   replace x_t:=x_t.on bV10
   replace r12:=r12.below bV10
   replace r13:=r13.below bV10
   have st_p_0:((v12.alloc (.cells #[.int .i64 s12, .slice d12 l12 c12] 75)).alloc (.cells #[.int .i64 s13, .slice d13 l13 c13] 75)).cell? ⟨w.heap.size,0,none⟩=some (.int .i64 x):=by rw [←hV10];exact x_p.c0
   have st_p_1:((v12.alloc (.cells #[.int .i64 s12, .slice d12 l12 c12] 75)).alloc (.cells #[.int .i64 s13, .slice d13 l13 c13] 75)).cell? ⟨w.heap.size,1,none⟩=some (.int .i64 y):=by rw [←hV10];exact x_p.c1
   have sf_p_0:((v12.alloc (.cells #[.int .i64 s12, .slice d12 l12 c12] 75)).alloc (.cells #[.int .i64 s13, .slice d13 l13 c13] 75)).frozen? ⟨w.heap.size,0,none⟩=false:=by rw [←hV10];exact x_p.f0
   have sf_p_1:((v12.alloc (.cells #[.int .i64 s12, .slice d12 l12 c12] 75)).alloc (.cells #[.int .i64 s13, .slice d13 l13 c13] 75)).frozen? ⟨w.heap.size,1,none⟩=false:=by rw [←hV10];exact x_p.f1
   go_wp2_with (go_at_call 36;fail)
   rw [←hV10]
   clear hV10 st_p_0 st_p_1 sf_p_0 sf_p_1
   refine(rwLong y V10 BY.out.1 BY.out.2).mono ?_
   rintro e v20 ⟨s20,d20,l20,c20,rfl,r20,f20,bv20⟩
   have zbv20:=bv20.size
   replace BB:=also BB bv20
   replace x_p:=x_p.on bv20
   replace x_z:=x_z.on bv20
   replace x_t:=x_t.on bv20
   replace r12:=r12.below bv20
   replace r13:=r13.below bv20
   replace x_fi:=x_fi.on bv20
   replace x_fx:=x_fx.on bv20
   go_wp2_with (go_at_call 36;fail)
   refine(rwLong s v20 BS.out.1 BS.out.2).mono ?_
   rintro e v21 ⟨s21,d21,l21,c21,rfl,r21,f21,bv21⟩
   have zbv21:=bv21.size
   replace BB:=also BB bv21
   replace x_p:=x_p.on bv21
   replace x_z:=x_z.on bv21
   replace x_t:=x_t.on bv21
   replace r12:=r12.below bv21
   replace r13:=r13.below bv21
   replace x_fi:=x_fi.on bv21
   replace x_fx:=x_fx.on bv21
   replace r20:=r20.below bv21
   go_wp2_with (go_at_call 35;fail)
   refine(rwFloorF s20 s21 d20 d21 l20 c20 l21 c21 y s v21 r20 r21 (few_i64 BY.out) (few_i64 BS.out) HS0.out FY'.out.1 FY'.out.2.1 FY'.out.2.2 q c Hq.out Hc.out).mono ?_
   rintro e v22 ⟨s22,d22,l22,c22,s23,d23,l23,c23,rfl,r22,r23,f23,bv22⟩
   have zbv22:=bv22.size
   replace BB:=also BB bv22
   replace x_p:=x_p.on bv22
   replace x_z:=x_z.on bv22
   replace x_t:=x_t.on bv22
   replace r12:=r12.below bv22
   replace r13:=r13.below bv22
   replace x_fi:=x_fi.on bv22
   replace x_fx:=x_fx.on bv22
   replace r20:=r20.below bv22
   replace r21:=r21.below bv22
   clear r20 r21
   obtain⟨V20,hV20,bV20,x_fk,x_fy,sV20⟩:=bs_22 v22 (.int .i64 s22) (.slice d22 l22 c22) (.int .i64 s23) (.slice d23 l23 c23) 75 75
   have zbV20:=bV20.size
   replace BB:=also BB bV20
   replace x_p:=x_p.on bV20
   replace x_z:=x_z.on bV20
   replace x_t:=x_t.on bV20
   replace r12:=r12.below bV20
   replace r13:=r13.below bV20
   replace x_fi:=x_fi.on bV20
   replace x_fx:=x_fx.on bV20
   replace r22:=r22.below bV20
   replace r23:=r23.below bV20
   have st_fx_0:((v22.alloc (.cells #[.int .i64 s22, .slice d22 l22 c22] 75)).alloc (.cells #[.int .i64 s23, .slice d23 l23 c23] 75)).cell? ⟨v12.heap.size+1,0,none⟩=some (.int .i64 s13):=by rw [←hV20];exact x_fx.c0
   have st_fx_1:((v22.alloc (.cells #[.int .i64 s22, .slice d22 l22 c22] 75)).alloc (.cells #[.int .i64 s23, .slice d23 l23 c23] 75)).cell? ⟨v12.heap.size+1,1,none⟩=some (.slice d13 l13 c13):=by rw [←hV20];exact x_fx.c1
   have sf_fx_0:((v22.alloc (.cells #[.int .i64 s22, .slice d22 l22 c22] 75)).alloc (.cells #[.int .i64 s23, .slice d23 l23 c23] 75)).frozen? ⟨v12.heap.size+1,0,none⟩=false:=by rw [←hV20];exact x_fx.f0
   have sf_fx_1:((v22.alloc (.cells #[.int .i64 s22, .slice d22 l22 c22] 75)).alloc (.cells #[.int .i64 s23, .slice d23 l23 c23] 75)).frozen? ⟨v12.heap.size+1,1,none⟩=false:=by rw [←hV20];exact x_fx.f1
   go_wp2_with (go_at_call 37;fail)
   rw [←hV20]
   clear hV20 st_fx_0 st_fx_1 sf_fx_0 sf_fx_1
   refine(rwSmall s13 d13 l13 c13 a V20 r13 (few_in Ba.out) (sm_small Ba.out).1 (sm_small Ba.out).2).mono ?_
   rintro e x0 ⟨rfl,bx0⟩
   have zbx0:=bx0.size
   replace BB:=also BB bx0
   replace x_p:=x_p.on bx0
   replace x_z:=x_z.on bx0
   replace x_t:=x_t.on bx0
   replace r12:=r12.below bx0
   replace r13:=r13.below bx0
   replace x_fi:=x_fi.on bx0
   replace x_fx:=x_fx.on bx0
   replace r22:=r22.below bx0
   replace r23:=r23.below bx0
   replace x_fk:=x_fk.on bx0
   replace x_fy:=x_fy.on bx0
   have⟨x_fx_0,x_fx_1,x_fx_2,x_fx_3⟩:=x_fx
   have⟨x_fy_0,x_fy_1,x_fy_2,x_fy_3⟩:=x_fy
   have⟨x_fi_0,x_fi_1,x_fi_2,x_fi_3⟩:=x_fi
   have⟨x_fk_0,x_fk_1,x_fk_2,x_fk_3⟩:=x_fk
   have⟨x_z_0,x_z_1,x_z_2,x_z_3⟩:=x_z
   have⟨x_t_0,x_t_1,x_t_2,x_t_3⟩:=x_t
   go_wp2_with (go_at_call 37;fail)
   refine(rwSmall s23 d23 l23 c23 c x0 r23 (few_in Bc.out) (sm_small Bc.out).1 (sm_small Bc.out).2).mono ?_
   rintro e x1 ⟨rfl,bx1⟩
   clear x_fx_0 x_fx_1 x_fx_2 x_fx_3 x_fy_0 x_fy_1 x_fy_2 x_fy_3 x_fi_0 x_fi_1 x_fi_2 x_fi_3 x_fk_0 x_fk_1 x_fk_2 x_fk_3 x_z_0 x_z_1 x_z_2 x_z_3 x_t_0 x_t_1 x_t_2 x_t_3
   have zbx1:=bx1.size
   replace BB:=also BB bx1
   replace x_p:=x_p.on bx1
   replace x_z:=x_z.on bx1
   replace x_t:=x_t.on bx1
   replace r12:=r12.below bx1
   replace r13:=r13.below bx1
   replace x_fi:=x_fi.on bx1
   replace x_fx:=x_fx.on bx1
   replace r22:=r22.below bx1
   replace r23:=r23.below bx1
   replace x_fk:=x_fk.on bx1
   replace x_fy:=x_fy.on bx1
   have⟨x_fx_0,x_fx_1,x_fx_2,x_fx_3⟩:=x_fx
   have⟨x_fy_0,x_fy_1,x_fy_2,x_fy_3⟩:=x_fy
   have⟨x_fi_0,x_fi_1,x_fi_2,x_fi_3⟩:=x_fi
   have⟨x_fk_0,x_fk_1,x_fk_2,x_fk_3⟩:=x_fk
   have⟨x_z_0,x_z_1,x_z_2,x_z_3⟩:=x_z
   have⟨x_t_0,x_t_1,x_t_2,x_t_3⟩:=x_t
   go_wp2_with (go_at_call 37;fail)
   refine(rwSmall s12 d12 l12 c12 p x1 r12 (few_in Bp.out) (sm_small Bp.out).1 (sm_small Bp.out).2).mono ?_
   rintro e x2 ⟨rfl,bx2⟩
   clear x_fx_0 x_fx_1 x_fx_2 x_fx_3 x_fy_0 x_fy_1 x_fy_2 x_fy_3 x_fi_0 x_fi_1 x_fi_2 x_fi_3 x_fk_0 x_fk_1 x_fk_2 x_fk_3 x_z_0 x_z_1 x_z_2 x_z_3 x_t_0 x_t_1 x_t_2 x_t_3
   have zbx2:=bx2.size
   replace BB:=also BB bx2
   replace x_p:=x_p.on bx2
   replace x_z:=x_z.on bx2
   replace x_t:=x_t.on bx2
   replace r12:=r12.below bx2
   replace r13:=r13.below bx2
   replace x_fi:=x_fi.on bx2
   replace x_fx:=x_fx.on bx2
   replace r22:=r22.below bx2
   replace r23:=r23.below bx2
   replace x_fk:=x_fk.on bx2
   replace x_fy:=x_fy.on bx2
   have⟨x_fx_0,x_fx_1,x_fx_2,x_fx_3⟩:=x_fx
   have⟨x_fy_0,x_fy_1,x_fy_2,x_fy_3⟩:=x_fy
   have⟨x_fi_0,x_fi_1,x_fi_2,x_fi_3⟩:=x_fi
   have⟨x_fk_0,x_fk_1,x_fk_2,x_fk_3⟩:=x_fk
   have⟨x_z_0,x_z_1,x_z_2,x_z_3⟩:=x_z
   have⟨x_t_0,x_t_1,x_t_2,x_t_3⟩:=x_t
   go_wp2_with (go_at_call 37;fail)
   refine(rwSmall s22 d22 l22 c22 q x2 r22 (few_in Bq.out) (sm_small Bq.out).1 (sm_small Bq.out).2).mono ?_
   rintro e x3 ⟨rfl,bx3⟩
   clear x_fx_0 x_fx_1 x_fx_2 x_fx_3 x_fy_0 x_fy_1 x_fy_2 x_fy_3 x_fi_0 x_fi_1 x_fi_2 x_fi_3 x_fk_0 x_fk_1 x_fk_2 x_fk_3 x_z_0 x_z_1 x_z_2 x_z_3 x_t_0 x_t_1 x_t_2 x_t_3
   have zbx3:=bx3.size
   replace BB:=also BB bx3
   replace x_p:=x_p.on bx3
   replace x_z:=x_z.on bx3
   replace x_t:=x_t.on bx3
   replace r12:=r12.below bx3
   replace r13:=r13.below bx3
   replace x_fi:=x_fi.on bx3
   replace x_fx:=x_fx.on bx3
   replace r22:=r22.below bx3
   replace r23:=r23.below bx3
   replace x_fk:=x_fk.on bx3
   replace x_fy:=x_fy.on bx3
   have⟨x_fx_0,x_fx_1,x_fx_2,x_fx_3⟩:=x_fx
   have⟨x_fy_0,x_fy_1,x_fy_2,x_fy_3⟩:=x_fy
   have⟨x_fi_0,x_fi_1,x_fi_2,x_fi_3⟩:=x_fi
   have⟨x_fk_0,x_fk_1,x_fk_2,x_fk_3⟩:=x_fk
   have⟨x_z_0,x_z_1,x_z_2,x_z_3⟩:=x_z
   have⟨x_t_0,x_t_1,x_t_2,x_t_3⟩:=x_t
   go_wp2
   exact bodyPost_ret (v:= .tuple #[.agg #[.int .i64 a, .int .i64 c], .agg #[.int .i64 p, .int .i64 q], .bool true]) (by simp [results,Try.results21,go_sem, *]) rfl (⟨rfl,below_put2 (below_put2 BB (by omega) _ _) (by omega) _ _⟩)
theorem step_append_S{P:Program}{w:World}{ops:Array Oper}{o:Oper}{a:Act}{K:Act→World→Prop}{Q:Exit→Act→World→Prop}{E:Prop}(hgd:o.guard=none)(s x:Operand)(t:TypeId)
  (ho:o.op= .call { callee:= .builtin .append,args:= #[s,x],argTypes:= #[t,t] })
  (base:Nat) (e:TypeId) (i:TypeInfo) (z:Value) (size bytes:Nat) (ht:P.underlying t=some (.slice e)) (hi:P.info? e=some i) (hz:i.zero=some z)
  (hsize:i.size=size) (hby:i.bytes=bytes) (hzs:z.cells.size=size) (hsz:0<size)
  (a0:Option Addr) (n0 c0:Nat) (xs:List Value) (hs:a.eval s= .slice a0 n0 c0) (hown:OwnS w base e size a0 n0 c0 xs)
  (ad:Addr) (m c:Nat) (news:List Value) (hx:a.eval x= .slice (some ad) m c) (hl:news.length=m*size) (hnews:News w ad news) (h1: ∀ u∈news,u.oneCell'=true)
  (h63:n0+m≤maxLen) (hbytes:(n0+m)*bytes≤140737488355328) (hbase:base≤w.heap.size)
  (h: ∀ a' cap' w',OwnS w' base e size a' (n0+m) cap' (xs++news)→w.grownBy w' (Value.slice a0 n0 c0).ownBlock→(∀ k,Slot a' k→Slot a0 k∨w.heap.size≤k)→K (a.put o.dst (.slice a' (n0+m) cap')) w'):
  if Region.wanted o (yielded ops a.tmps)=true then Oper.wp P o a w K Q else E:=by
 have hw:Region.wanted o (yielded ops a.tmps)=true:=by simp [Region.wanted,hgd]
 rw [if_pos hw]
 obtain⟨v',w',hr,h2,h3,h4,h5⟩:=run_append_own_at (P:=P) w base t o.type e i z size bytes ht hi hz hsize hby hzs hsz _ n0 xs hown ad m c news hl hnews h1 h63 hbytes hbase
 unfold Oper.wp execOp
 simp only [ho,resolve,invoke,builtin,Sem.run_bind,Sem.run_pure,Result.andThen_ok,List.map_toArray,List.map_cons,List.map_nil,hs,hx,hr]
 obtain⟨a',cap',rfl,h6⟩:=OwnS.form h2
 refine h a' cap' w' h6 h3 ?_
 rintro k ⟨q,rfl⟩
 rcases h5 with h5|h5
 ·cases a0 with
  |none=>cases h5
  |some b0=>
   have:k=b0.block:=by simpa [Value.ownBlock]using h5
   subst this
   obtain⟨hl,⟨h7,_⟩|⟨g,cap',cur,hv,r⟩⟩:=hown
   ·cases h7
   ·cases hv;exact Or.inl ⟨0,rfl⟩
 ·have:k=w.heap.size:=by simpa [Value.ownBlock]using h5
  exact Or.inr (by omega)
def CntAt(W:World)(s t:Int)(v:Value)(wr:World):Prop:= ∃ k:Nat,v= .int .i64 (k:Int)∧(k:Int)≤t∧W=wr
theorem cnt_yes{k:Nat}{q s:Int}{n:Nat}(h:GrOk s n)(hq:0≤q∧q<s)(hk:((k:Int)+1)*s≤q*(n:Int)):((k+1:Nat):Int)≤q*(n:Int)/s:=by
 have:=(Int.le_ediv_iff_mul_le (a:=((k+1:Nat):Int)) (b:=q*(n:Int)) (show 0<s by have:=h.1;omega)).2 (by rw [Int.natCast_add];exact hk)
 exact this
theorem cnt_no{k:Nat}{q s:Int}{n:Nat}(h:GrOk s n)(h1:(k:Int)≤q*(n:Int)/s)(hk: ¬((k:Int)+1)*s≤q*(n:Int)):(k:Int)=q*(n:Int)/s:=by
 have h0:0<s:=by have:=h.1;omega
 have: ¬(k:Int)+1≤q*(n:Int)/s:=fun e=>hk ((Int.le_ediv_iff_mul_le (a:=(k:Int)+1) (b:=q*(n:Int)) h0).1 e)
 omega
theorem cnt_le{q s:Int}{n:Nat}(h:GrOk s n)(hq:0≤q∧q<s):0≤q*(n:Int)/s∧q*(n:Int)/s<64:=by
 have h0:=h.1
 have hn:=h.2.2
 have e:q % s=q:=Int.emod_eq_of_lt hq.1 hq.2
 have:=clX_in (x:=q) h
 unfold clX at this
 rw [e]at this
 omega
theorem side_mul{k:Nat}{s:Int}{n:Nat}(h:GrOk s n)(hk:(k:Int)<64): -9223372036854775808≤((k:Int)+1)*s∧((k:Int)+1)*s≤9223372036854775807:=by
 obtain⟨h1,h2,_⟩:=h
 have e1:0≤((k:Int)+1)*s:=Int.mul_nonneg (by omega) (by omega)
 have e2:=Int.mul_le_mul (show(k:Int)+1≤64 by omega) h2 (by omega) (by omega)
 omega
set_option maxRecDepth 100000 in
set_option maxHeartbeats 2000000 in
theorem rkCell(n:Nat)(s x y:Int)(w:World)(BX: -9223372036854775808≤x∧x≤9223372036854775807)(BY: -9223372036854775808≤y∧y≤9223372036854775807)(h:GrOk s n){a b:Int}(hab:(a,b)=cellC x y s n):
  Calls Try.prog 10 #[.agg #[.int .i64 x, .int .i64 y], .int .i64 s, .int .i64 (n:Int)] w fun e w'=>e= .returned (.tuple #[.int .i64 a, .int .i64 b])∧Below w.heap.size w w':=by
 obtain⟨W,hW⟩: ∃ W,W=w.alloc (.cells #[.int .i64 x, .int .i64 y] 23):=⟨_,rfl⟩
 have bW:Below w.heap.size w W:=by rw [hW];exact(Below.refl _ _).alloc (Nat.le_refl _) _
 have hs:=h.1
 have hs2:=h.2.1
 have HAB:Hid _:=hab
 clear hab
 cases hh:homeC x y s
 ·obtain⟨rfl,rfl⟩:a= -1∧b= -1:=by have e:=HAB.out;unfold cellC at e;rw [hh]at e;simpa using e
  have CH:Hid (Calls Try.prog 21 #[.agg #[.int .i64 x, .int .i64 y], .int .i64 s] W fun e w'=>e= .returned (.tuple #[.agg #[.int .i64 0, .int .i64 0], .agg #[.int .i64 0, .int .i64 0], .bool false])∧Below W.heap.size W w'):=rlHome x y s W BX BY ⟨by omega,by omega⟩ hh.symm rfl rfl rfl rfl
  clear hh HAB
  go_enter Try.func10,Try.ntmps10
  go_wp2_with (go_at_call 21;fail)
  rw [←hW]
  clear hW
  refine Calls.mono CH.out ?_
  rintro e w1 ⟨rfl,b1⟩
  have b2:=((Below.refl w1.heap.size w1).alloc (Nat.le_refl _) (.cells #[.int .i64 0, .int .i64 0] 23)).alloc (by simp) (.cells #[.int .i64 0, .int .i64 0] 50)
  have bF:=below_to (below_to bW b1) b2
  go_wp2
  exact bodyPost_ret (v:= .tuple #[.int .i64 (-1), .int .i64 (-1)]) (by simp [results,Try.results10,go_sem]) rfl ⟨rfl,bF⟩
 ·obtain⟨ha,hb⟩:a=clX x s n∧b=clX y s n:=by have e:=HAB.out;unfold cellC at e;rw [hh]at e;simpa using e
  obtain⟨X,hX⟩: ∃ X,X=x % s:=⟨_,rfl⟩
  obtain⟨Y,hY⟩: ∃ Y,Y=y % s:=⟨_,rfl⟩
  have CH:Hid (Calls Try.prog 21 #[.agg #[.int .i64 x, .int .i64 y], .int .i64 s] W fun e w'=>e= .returned (.tuple #[.agg #[.int .i64 X, .int .i64 Y], .agg #[.int .i64 (x/s), .int .i64 (y/s)], .bool true])∧Below W.heap.size W w'):=rlHome x y s W BX BY ⟨by omega,by omega⟩ hh.symm hX hY rfl rfl
  have bx:0≤X∧X<s:=by rw [hX];exact⟨Int.emod_nonneg _ (by omega),Int.emod_lt_of_pos _ (by omega)⟩
  have bY:0≤Y∧Y<s:=by rw [hY];exact⟨Int.emod_nonneg _ (by omega),Int.emod_lt_of_pos _ (by omega)⟩
  have EA:Hid (X*(n:Int)/s=a):=by unfold Hid;rw [ha,hX];rfl
  have EB:Hid (Y*(n:Int)/s=b):=by unfold Hid;rw [hb,hY];rfl
  have px:=prod_lt h bx.1 bx.2
  have py:=prod_lt h bY.1 bY.2
  obtain⟨PX,hPX⟩: ∃ PX,PX=X*(n:Int):=⟨_,rfl⟩
  obtain⟨PY,hPY⟩: ∃ PY,PY=Y*(n:Int):=⟨_,rfl⟩
  have WX:Hid (wrap64 (X*(n:Int))=PX):=by unfold Hid;rw [hPX];exact wrap_in (by omega) (by omega)
  have WY:Hid (wrap64 (Y*(n:Int))=PY):=by unfold Hid;rw [hPY];exact wrap_in (by omega) (by omega)
  have HPX:Hid _:=hPX
  have HPY:Hid _:=hPY
  clear hPX hPY px py
  obtain⟨TX,hTX⟩: ∃ TX,TX=X*(n:Int)/s:=⟨_,rfl⟩
  obtain⟨TY,hTY⟩: ∃ TY,TY=Y*(n:Int)/s:=⟨_,rfl⟩
  have ix:0≤TX∧TX<64:=by rw [hTX];exact cnt_le h bx
  have iy:0≤TY∧TY<64:=by rw [hTY];exact cnt_le h bY
  have GX:Hid _:=hTX
  have GY:Hid _:=hTY
  clear hTX hTY
  generalize x/s=U at CH
  generalize y/s=V at CH
  clear hh HAB ha hb hX hY
  have HG:Hid (GrOk s n):=h
  have WK0: ∀ k:Nat,(k:Int)<64→wrap64 ((k:Int)+1)=(k:Int)+1:=fun k hk=>wrap_in (by omega) (by omega)
  have WK:Hid _:=WK0
  clear h WK0
  go_enter Try.func10,Try.ntmps10
  go_wp2_with (go_at_call 21;fail)
  rw [←hW]
  clear hW
  refine Calls.mono CH.out ?_
  rintro e w1 ⟨rfl,b1⟩
  obtain⟨Z,hZ⟩: ∃ Z,Z=(w1.alloc (.cells #[.int .i64 X, .int .i64 Y] 23)).alloc (.cells #[.int .i64 U, .int .i64 V] 50):=⟨_,rfl⟩
  have b2:Below w1.heap.size w1 Z:=by rw [hZ];exact((Below.refl w1.heap.size w1).alloc (Nat.le_refl _) _).alloc (by simp) _
  have RZ:Row Z w1.heap.size [.int .i64 X, .int .i64 Y]:=by rw [hZ];exact(Row.new w1 [.int .i64 X, .int .i64 Y] 23).alloc _ (by simp)
  have bF:=below_to (below_to bW b1) b2
  have q0:=RZ.cell 0 _ rfl
  have q1:=RZ.cell 1 _ rfl
  clear CH RZ
  go_wp2
  rw [←hZ]
  clear hZ
  go_loopw [11] (fun v wr=>CntAt Z s TX v wr) (fun v _=>64- (intOf v).toNat)
  case atStart=>exact⟨0,rfl,ix.1,rfl⟩
  case round=>
   obtain⟨k,rfl,hk,rfl⟩:=hrel
   have k64:(k:Int)<64:=by omega
   have sm:=side_mul HG.out k64
   have wk:=WK.out k k64
   obtain⟨P,hP⟩: ∃ P,P=((k:Int)+1)*s:=⟨_,rfl⟩
   have ws:wrap64 (((k:Int)+1)*s)=P:=by rw [hP];exact wrap_in sm.1 sm.2
   have wx:=WX.out
   have HP:Hid _:=hP
   clear hP sm
   by_cases hc:P≤PX
   ·have hk1:((k+1:Nat):Int)≤TX:=by rw [GX.out];exact cnt_yes HG.out bx (by rw [←HP.out,←HPX.out];exact hc)
    go_wp2
    go_roundw
    case rel=>exact⟨k+1,by simp,hk1,rfl⟩
    case measure=>simp [intOf];clear wk ws wx;omega
   ·have hka:(k:Int)=TX:=by rw [GX.out]at hk ⊢;exact cnt_no HG.out hk (by rw [←HP.out,←HPX.out];exact hc)
    have HKA:Hid _:=hka
    clear hka
    go_wp2
    clear wk ws wx hk k64 hc HP ix bx BX BY
    go_loopw [12] (fun v wr=>CntAt Z s TY v wr) (fun v _=>64- (intOf v).toNat)
    case atStart=>exact⟨0,rfl,iy.1,rfl⟩
    case round=>
     obtain⟨j,rfl,hj,rfl⟩:=hrel
     have j64:(j:Int)<64:=by omega
     have sm2:=side_mul HG.out j64
     have wj:=WK.out j j64
     obtain⟨P2,hP2⟩: ∃ P2,P2=((j:Int)+1)*s:=⟨_,rfl⟩
     have ws:wrap64 (((j:Int)+1)*s)=P2:=by rw [hP2];exact wrap_in sm2.1 sm2.2
     have wy:=WY.out
     have HP2:Hid _:=hP2
     clear hP2 sm2
     by_cases hd:P2≤PY
     ·have hj1:((j+1:Nat):Int)≤TY:=by rw [GY.out];exact cnt_yes HG.out bY (by rw [←HP2.out,←HPY.out];exact hd)
      go_wp2
      go_roundw
      case rel=>exact⟨j+1,by simp,hj1,rfl⟩
      case measure=>simp [intOf];clear wj ws wy;omega
     ·have hja:(j:Int)=TY:=by rw [GY.out]at hj ⊢;exact cnt_no HG.out hj (by rw [←HP2.out,←HPY.out];exact hd)
      have HJA:Hid _:=hja
      clear hja
      go_wp2
      exact bodyPost_ret (v:= .tuple #[.int .i64 (k:Int), .int .i64 (j:Int)]) (by simp [results,Try.results10,go_sem]) rfl ⟨by rw [HKA.out,HJA.out,GX.out,GY.out,EA.out,EB.out],bF⟩
abbrev Hl:=Int×Int×Int
def hC(h:Hl):List Value:= [.int .i64 h.1, .int .i64 h.2.1, .int .i64 h.2.2]
theorem hC_len(h:Hl):(hC h).length=3:=rfl
theorem hC_one(h:Hl): ∀ u∈hC h,u.oneCell'=true:=by intro u hu;simp [hC]at hu;rcases hu with rfl|rfl|rfl<;>rfl
theorem infoH:(Try.prog.info? 61).map (fun i=>(i.zero,i.size,i.bytes))=some (some (.agg #[.int .i64 0, .int .i64 0, .int .i64 0]),3,24):=by kernel_rfl
abbrev HlL(w:World)(base:Nat)(a:Option Addr)(c:Nat)(M:List Hl):Prop:=OwnS w base 61 3 a M.length c (flat hC M)
theorem HlL.at{w:World}{base c k:Nat}{a:Option Addr}{M:List Hl}{h:Hl}(H:HlL w base a c M)(hk:M[k]? =some h): ∃ b,a=some ⟨b,0,none⟩∧b<w.heap.size∧w.cell? ⟨b,k*3,none⟩=some (.int .i64 h.1)∧w.cell? ⟨b,k*3+1,none⟩=some (.int .i64 h.2.1)∧w.cell? ⟨b,k*3+2,none⟩=some (.int .i64 h.2.2):=by
 have hlt:=(List.getElem?_eq_some_iff.1 hk).1
 obtain⟨b,rfl,hb,_,hs⟩:=OwnS.at H (by omega)
 refine⟨b,rfl,hb,?_,?_,?_⟩
 ·have:=hs.cell (k*3+0) _ (flat_at hC_len hk (j:=0) rfl);rwa [Nat.zero_add]at this
 ·have:=hs.cell (k*3+1) _ (flat_at hC_len hk (j:=1) rfl);rwa [Nat.zero_add]at this
 ·have:=hs.cell (k*3+2) _ (flat_at hC_len hk (j:=2) rfl);rwa [Nat.zero_add]at this
theorem far_in{x y n:Int}(hx: -n≤x∧x≤n)(hy: -n≤y∧y≤n):farB x y n=(decide (x=n)||decide (x= -n)||decide (y=n)||decide (y= -n)):=by
 unfold farB
 simp only [hx,hy,decide_true,Bool.and_true,Bool.or_assoc]
set_option maxRecDepth 100000 in
set_option maxHeartbeats 4000000 in
theorem rkFar(x y n:Int)(w:World)(hn:0≤n∧n≤1000)(hx: -n≤x∧x≤n)(hy: -n≤y∧y≤n){r:Bool}(hr:r=farB x y n):
  Calls Try.prog 29 #[.int .i64 x, .int .i64 y, .int .i64 n] w fun e w'=>e= .returned (.bool r)∧w'=w:=by
 obtain⟨q,hq⟩: ∃ q,q= -n:=⟨_,rfl⟩
 have wn:wrap64 (-n)=q:=by rw [hq];exact wrap_in (by omega) (by omega)
 have x1:q≤x:=by omega
 have x2:=hx.2
 have y1:q≤y:=by omega
 have y2:=hy.2
 clear hn
 by_cases e1:x=n
 ·clear hq
  obtain rfl:r=true:=by rw [hr,far_in hx hy];simp [e1]
  clear hr hx hy
  go_enter Try.func29,Try.ntmps29
  go_wp2
  go_ret
  exact⟨rfl,rfl⟩
 by_cases e2:x=q
 ·obtain rfl:r=true:=by rw [hr,far_in hx hy];simp [show x= -n by rw [←hq];exact e2]
  clear hr hx hy hq
  go_enter Try.func29,Try.ntmps29
  go_wp2
  go_ret
  exact⟨rfl,rfl⟩
 by_cases e3:y=n
 ·obtain rfl:r=true:=by rw [hr,far_in hx hy];simp [e3]
  clear hr hx hy hq
  go_enter Try.func29,Try.ntmps29
  go_wp2
  go_ret
  exact⟨rfl,rfl⟩
 by_cases e4:y=q
 ·obtain rfl:r=true:=by rw [hr,far_in hx hy];simp [show y= -n by rw [←hq];exact e4]
  clear hr hx hy hq
  go_enter Try.func29,Try.ntmps29
  go_wp2
  go_ret
  exact⟨rfl,rfl⟩
 ·obtain rfl:r=false:=by rw [hr,far_in hx hy];simp [e1,e3,show ¬x= -n by rw [←hq];exact e2,show ¬y= -n by rw [←hq];exact e4]
  clear hr hx hy hq
  go_enter Try.func29,Try.ntmps29
  go_wp2
  go_ret
  exact⟨rfl,rfl⟩
def lsStep(x y:Int)(a:Int×Bool)(h:Hl):Int×Bool:=if h.2.1=x∧h.2.2=y∧(a.2=false∨h.1<a.1)then(h.1,true)else a
def leastF(M:List Hl)(x y:Int):Int×Bool:=M.foldl (lsStep x y) (0,false)
theorem least_next{M:List Hl}{k:Nat}{h:Hl}{x y:Int}(hk:M[k]? =some h):leastF (M.take (k+1)) x y=lsStep x y (leastF (M.take k) x y) h:=by
 have hlt:=(List.getElem?_eq_some_iff.1 hk)
 unfold leastF
 rw [List.take_add_one,hk,List.foldl_append]
 rfl
def LsAt(w:World)(M:List Hl)(x y:Int)(k:Nat)(a b i:Value)(wr:World):Prop:=i= .int .i64 (k:Int)∧a= .int .i64 (leastF (M.take k) x y).1∧b= .bool (leastF (M.take k) x y).2∧w=wr
set_option maxRecDepth 100000 in
set_option maxHeartbeats 4000000 in
theorem rkLeast(base c:Nat)(a:Option Addr)(M:List Hl)(x y:Int)(w:World)(H:HlL w base a c M)(hM:M.length≤1000){v:Int}{t:Bool}(hv:(v,t)=leastF M x y):
  Calls Try.prog 28 #[.slice a M.length c, .int .i64 x, .int .i64 y] w fun e w'=>e= .returned (.tuple #[.int .i64 v, .bool t])∧w'=w:=by
 have HV:Hid _:=hv
 have hroom:=OwnS.room H
 clear hv
 go_enter Try.func28,Try.ntmps28
 go_wp2
 go_loopw [8,9,10] (fun a b i wr=> ∃ k,k≤M.length∧LsAt w M x y k a b i wr) (fun _ _ i _=>M.length- (intOf i).toNat)
 case atStart=>exact⟨0,by omega,rfl,rfl,rfl,rfl⟩
 case round=>
  obtain⟨k,hk,rfl,rfl,rfl,rfl⟩:=hrel
  by_cases hlt:k<M.length
  ·obtain⟨h,hh⟩: ∃ h,M[k]? =some h:=⟨M[k],List.getElem?_eq_getElem hlt⟩
   obtain⟨b,rfl,hb,c0,c1,c2⟩:=HlL.at H hh
   have hn:=least_next (x:=x) (y:=y) hh
   obtain⟨⟨F1,F2⟩,hF⟩: ∃ F,F=leastF (M.take k) x y:=⟨_,rfl⟩
   rw [←hF]at hn ⊢
   have wk:wrap64 ((k:Int)+1)=(k:Int)+1:=wrap_in (by omega) (by omega)
   have hlt':(k:Int)<(M.length:Int):=by omega
   have HN:Hid _:=hn
   clear hn hF hh
   obtain⟨h1,h2,h3⟩:=h
   dsimp only at c0 c1 c2
   generalize M.length=ml at*
   by_cases e1:h2=x
   ·by_cases e2:h3=y
    ·cases F2
     ·have HE:Hid (leastF (M.take (k+1)) x y=(h1,true)):=by unfold Hid;rw [HN.out];unfold lsStep;rw [if_pos ⟨e1,e2,Or.inl rfl⟩]
      subst e1 e2
      go_wp2
      go_roundw
      case rel=>exact⟨k+1,by omega,by simp,by rw [HE.out],by rw [HE.out],rfl⟩
      case measure=>simp [intOf];omega
     ·by_cases e3:h1<F1
      ·have HE:Hid (leastF (M.take (k+1)) x y=(h1,true)):=by unfold Hid;rw [HN.out];unfold lsStep;rw [if_pos ⟨e1,e2,Or.inr e3⟩]
       subst e1 e2
       go_wp2
       go_roundw
       case rel=>exact⟨k+1,by omega,by simp,by rw [HE.out],by rw [HE.out],rfl⟩
       case measure=>simp [intOf];omega
      ·have HE:Hid (leastF (M.take (k+1)) x y=(F1,true)):=by unfold Hid;rw [HN.out];unfold lsStep;rw [if_neg (fun e=>e.2.2.elim (fun e=>by cases e) e3)]
       subst e1 e2
       go_wp2
       go_roundw
       case rel=>exact⟨k+1,by omega,by simp,by rw [HE.out],by rw [HE.out],rfl⟩
       case measure=>simp [intOf];omega
    ·have HE:Hid (leastF (M.take (k+1)) x y=(F1,F2)):=by unfold Hid;rw [HN.out];unfold lsStep;rw [if_neg (fun e=>e2 e.2.1)]
     subst e1
     go_wp2
     go_roundw
     case rel=>exact⟨k+1,by omega,by simp,by rw [HE.out],by rw [HE.out],rfl⟩
     case measure=>simp [intOf];omega
   ·have HE:Hid (leastF (M.take (k+1)) x y=(F1,F2)):=by unfold Hid;rw [HN.out];unfold lsStep;rw [if_neg (fun e=>e1 e.1)]
    go_wp2
    go_roundw
    case rel=>exact⟨k+1,by omega,by simp,by rw [HE.out],by rw [HE.out],rfl⟩
    case measure=>simp [intOf];omega
  ·obtain rfl:k=M.length:=by omega
   have hv:=HV.out
   rw [List.take_length,←hv]
   clear hv
   go_wp2
   exact bodyPost_ret (v:= .tuple #[.int .i64 v, .bool t]) (by simp [results,Try.results28,go_sem]) rfl ⟨rfl,rfl⟩
def hput(M:List Hl)(h:Hl):List Hl:=if h.2.1<0 then M else M++ [h]
def GotHl(base:Nat)(a0:Option Addr)(M:List Hl)(w:World)(e:Ending)(w':World):Prop:= ∃ a c,e= .returned (.slice a M.length c)∧HlL w' base a c M∧(∀ b,Slot a b→Slot a0 b∨w.heap.size≤b)∧Below w.heap.size w w'
theorem grow_to{w w':World}{B n c:Nat}{T:TypeId}{s:Nat}{a:Option Addr}{xs:List Value}(ho:OwnS w B T s a n c xs)(hB:B≤w.heap.size)(hg:w.grownBy w' (Value.slice a n c).ownBlock):Below B w w':=
 ⟨hg.os,hg.tape,hg.output,hg.size,fun k hk=>hg.block k (by omega) (fun e=>by
  have h1:=ho.slot e.symm
  have:=(ho.lt h1).2
  omega)⟩
set_option maxRecDepth 100000 in
set_option maxHeartbeats 4000000 in
theorem rkPut(base c:Nat)(a:Option Addr)(M:List Hl)(v x y:Int)(w:World)(H:HlL w base a c M)(hM:M.length≤1000)(hb:base≤w.heap.size):
  Calls Try.prog 15 #[.slice a M.length c, .int .i64 v, .int .i64 x, .int .i64 y] w (GotHl base a (hput M (v,x,y)) w):=by
 by_cases hx:x<0
 ·have e:hput M (v,x,y)=M:=by unfold hput;rw [if_pos hx]
  rw [e]
  go_enter Try.func15,Try.ntmps15
  go_wp2
  go_ret
  exact⟨a,c,rfl,H,fun b hb=>Or.inl hb,Below.refl _ _⟩
 ·have e:hput M (v,x,y)=M++ [(v,x,y)]:=by unfold hput;rw [if_neg hx]
  rw [e]
  obtain⟨i0,hi0,hz0,hz1,hz2⟩:=info_of infoH
  have hroom:=OwnS.room H
  have bW:Below w.heap.size w (w.alloc (.cells #[] 61)):=(Below.refl _ _).alloc (Nat.le_refl _) _
  have zW:(w.alloc (.cells #[] 61)).heap.size=w.heap.size+1:=by simp
  have oW:OwnS (w.alloc (.cells #[] 61)) w.heap.size 61 3 (some ⟨w.heap.size,0,none⟩) 0 0 []:=ownS_new w w.heap.size _ 3 (Nat.le_refl _)
  have HW:=OwnS.below H bW
  clear e
  cases a with
  |none=>
   obtain⟨hl,rfl,_⟩:=OwnS.none_of H
   obtain rfl:M= []:=List.eq_nil_of_length_eq_zero hl
   have bX:Below (w.alloc (.cells #[] 61)).heap.size (w.alloc (.cells #[] 61)) ((w.alloc (.cells #[] 61)).alloc (.cells #[.int .i64 v, .int .i64 x, .int .i64 y] 61)):=(Below.refl _ _).alloc (Nat.le_refl _) _
   have NW:=news_new (w.alloc (.cells #[] 61)) (hC (v,x,y)) 61
   rw [World.size_alloc]at NW
   have oX:=oW.below bX
   go_enter Try.func15,Try.ntmps15
   go_wp2_with (first
    |(at_builtin;refine wpList_append_own_none rfl (.tmp 12) (.tmp 13) 33 rfl w.heap.size 61 i0 3 Try.underlying33 hi0 _ 0 [] rfl oW rfl ?_)
    |(at_builtin;go_loud (refine app_atS _ rfl (.tmp 14) (.tmp 19) 33 rfl w.heap.size 61 i0 _ 3 24 Try.underlying33 hi0 hz0 hz1 hz2 rfl (by decide) _ 0 0 [] rfl oX ⟨w.heap.size+1,0,none⟩ 1 1 (hC (v,x,y)) rfl rfl NW (hC_one _) (by unfold maxLen;omega) (by omega) (by simp;omega) ?_;intro a3 c3 w3 h3 g3 s3)))
   go_ret
   exact⟨a3,c3,rfl,OwnS.mono h3 hb,fun b hb=>Or.inr (OwnS.lt h3 hb).2,(bW.trans (bX.mono (by simp))).trans (grow_to oX (by simp;omega) g3)⟩
  |some ad=>
   obtain⟨b,rfl⟩: ∃ b,ad=⟨b,0,none⟩:=by
    obtain⟨_,⟨h1,h2⟩|⟨g,cap',cur,h1,_⟩⟩:=H
    ·cases h1
    ·cases h1;exact⟨g,rfl⟩
   have NN:News (w.alloc (.cells #[] 61)) ⟨b,0,none⟩ (flat hC M):=by
    intro j u hu
    have hj:=(List.getElem?_eq_some_iff.1 hu).1
    rw [flat_length hC_len]at hj
    obtain⟨b',e,_,_,hs⟩:=OwnS.at HW (by omega)
    cases e
    rw [Addr.add_lit]
    exact hs.cell j u hu
   go_enter Try.func15,Try.ntmps15
   go_wp2_with (first
    |(at_builtin;refine app_atS _ rfl (.tmp 12) (.tmp 13) 33 rfl w.heap.size 61 i0 _ 3 24 Try.underlying33 hi0 hz0 hz1 hz2 rfl (by decide) _ 0 0 [] rfl oW ⟨b,0,none⟩ M.length c (flat hC M) rfl (flat_length hC_len _) NN (flat_one_cell hC_one _) (by unfold maxLen;omega) (by omega) (by simp) ?_;intro a2 c2 w2 h2 g2 s2;have b2:Below w.heap.size w w2:=bW.trans (grow_to oW (by simp) g2);have z2:=g2.size;have bX:Below w2.heap.size w2 (w2.alloc (.cells #[.int .i64 v, .int .i64 x, .int .i64 y] 61)):=(Below.refl _ _).alloc (Nat.le_refl _) _;have NW:=news_new w2 (hC (v,x,y)) 61;rw [List.nil_append,Nat.zero_add]at h2;have oX:=OwnS.below h2 bX)
    |(at_builtin;go_loud (refine app_atS _ rfl (.tmp 14) (.tmp 19) 33 rfl w.heap.size 61 i0 _ 3 24 Try.underlying33 hi0 hz0 hz1 hz2 rfl (by decide) _ _ c2 _ rfl oX ⟨w2.heap.size,0,none⟩ 1 1 (hC (v,x,y)) rfl rfl NW (hC_one _) (by unfold maxLen;omega) (by omega) (by simp at z2 ⊢;omega) ?_;intro a3 c3 w3 h3 g3 s3)))
   go_ret
   have h4:OwnS w3 w.heap.size 61 3 a3 (M++ [(v,x,y)]).length c3 (flat hC (M++ [(v,x,y)])):=by
    rw [flat_append,flat_one,List.length_append]
    exact h3
   exact⟨a3,c3,by rw [List.length_append];simp,OwnS.mono h4 hb,fun b hb=>Or.inr (OwnS.lt h4 hb).2,(b2.trans (bX.mono (by simp at z2;omega))).trans (grow_to oX (by simp at z2 ⊢;omega) g3)⟩
def DrAt(w:World)(M:List Hl)(t:Hl)(k:Nat)(i:Value)(wr:World):Prop:=i= .int .i64 (k:Int)∧Hid (∀ j (h:Hl),j<k→M[j]? =some h→h≠t)∧w=wr
theorem erase_at{M:List Hl}{t:Hl}{k:Nat}(h: ∀ j (h:Hl),j<k→M[j]? =some h→h≠t)(hk:M[k]? =some t):M.take k++M.drop (k+1)=M.erase t:=by
 induction M generalizing k with
 |nil=>simp at hk
 |cons a M ih=>
  cases k with
  |zero=>
   simp only [List.getElem?_cons_zero,Option.some.injEq]at hk
   subst hk
   simp
  |succ k=>
   have h0:=h 0 a (by omega) rfl
   rw [List.erase_cons_tail (by simpa using h0),List.take_succ_cons,List.drop_succ_cons,List.cons_append]
   congr 1
   exact ih (fun j b hj hb=>h (j+1) b (by omega) (by simpa using hb)) (by simpa using hk)
theorem erase_no{M:List Hl}{t:Hl}(h: ∀ j (h:Hl),j<M.length→M[j]? =some h→h≠t):M.erase t=M:=by
 refine List.erase_of_not_mem fun hm=>?_
 obtain⟨i,hi,e⟩:=List.getElem_of_mem hm
 exact h i t hi (by rw [List.getElem?_eq_getElem hi,e]) rfl
theorem News.of{w w':World}{base c b:Nat}{M:List Hl}(H:HlL w base (some ⟨b,0,none⟩) c M)(hw:Below w.heap.size w w'):(∀ k,News w' ⟨b,0,none⟩ (flat hC (M.take k)))∧ ∀ k,News w' ⟨b,k*3,none⟩ (flat hC (M.drop k)):=by
 have H':=OwnS.below H hw
 refine⟨fun k j u hu=>?_,fun k j u hu=>?_⟩
 ·rw [flat_take hC_len]at hu
  have hj:=(List.getElem?_eq_some_iff.1 hu).1
  rw [List.length_take,flat_length hC_len]at hj
  obtain⟨b',e,_,_,hs⟩:=OwnS.at H' (by omega)
  cases e
  rw [List.getElem?_take,if_pos (by omega)]at hu
  rw [Addr.add_lit]
  exact hs.cell j u hu
 ·rw [flat_drop hC_len]at hu
  have hj:=(List.getElem?_eq_some_iff.1 hu).1
  rw [List.length_drop,flat_length hC_len]at hj
  obtain⟨b',e,_,_,hs⟩:=OwnS.at H' (by omega)
  cases e
  rw [List.getElem?_drop]at hu
  rw [Addr.add_lit]
  have:=hs.cell (k*3+j) u hu
  rwa [Nat.zero_add]at this
set_option maxRecDepth 100000 in
set_option maxHeartbeats 4000000 in
theorem rkDrop(base c:Nat)(a:Option Addr)(M:List Hl)(v x y:Int)(w:World)(H:HlL w base a c M)(hM:M.length≤1000)(hb:base≤w.heap.size):
  Calls Try.prog 13 #[.slice a M.length c, .int .i64 v, .int .i64 x, .int .i64 y] w (GotHl base a (M.erase (v,x,y)) w):=by
 obtain⟨i0,hi0,hz0,hz1,hz2⟩:=info_of infoH
 have hroom:=OwnS.room H
 go_enter Try.func13,Try.ntmps13
 go_wp2
 go_loopw [9] (fun i wr=> ∃ k,k≤M.length∧DrAt w M (v,x,y) k i wr) (fun i _=>M.length- (intOf i).toNat)
 case atStart=>exact⟨0,by omega,rfl,fun j h hj=>by omega,rfl⟩
 case round=>
  obtain⟨k,hk,rfl,hno,rfl⟩:=hrel
  by_cases hlt:k<M.length
  ·obtain⟨h,hh⟩: ∃ h,M[k]? =some h:=⟨M[k],List.getElem?_eq_getElem hlt⟩
   obtain⟨b,rfl,hbl,c0,c1,c2⟩:=HlL.at H hh
   have wk:wrap64 ((k:Int)+1)=(k:Int)+1:=wrap_in (by omega) (by omega)
   have hlt':(k:Int)<(M.length:Int):=by omega
   have HH:Hid _:=hh
   clear hh
   have nx:Hid (h≠(v,x,y)→ ∀ j (g:Hl),j<k+1→M[j]? =some g→g≠(v,x,y)):=by
    intro hne j g hj hg
    by_cases e:j<k
    ·exact hno.out j g e hg
    ·obtain rfl:j=k:=by omega
     rw [HH.out]at hg
     cases hg
     exact hne
   obtain⟨h1,h2,h3⟩:=h
   dsimp only at c0 c1 c2
   by_cases e1:h1=v
   ·by_cases e2:h2=x
    ·by_cases e3:h3=y
     ·subst e1 e2 e3
      have HE:Hid (M.take k++M.drop (k+1)=M.erase (h1,h2,h3)):=erase_at hno.out HH.out
      clear nx
      have l1:(M.take k).length=k:=by simp;omega
      have l2:(M.drop (k+1)).length=M.length- (k+1):=by simp
      have k1:(k:Int)≤(c:Int):=by omega
      have k2:(k:Int)+1≤(M.length:Int):=by omega
      have k3:(M.length:Int)≤(c:Int):=by omega
      have k4:0≤(k:Int)+1:=by omega
      have wk2:IntKind.i64.wrap ((k:Int)+1)=(k:Int)+1:=(wrap_i64 _).trans wk
      have tnk:((k:Int)+1).toNat=k+1:=by omega
      have oW:OwnS (w.drew.alloc (.cells #[] 61)) w.heap.size 61 3 (some ⟨w.heap.size,0,none⟩) 0 0 []:=ownS_new w.drew w.heap.size _ 3 (Nat.le_refl _)
      have bA:Below w.heap.size w (w.drew.alloc (.cells #[] 61)):=((Below.refl _ _).drew).alloc (by simp) _
      have NA1:=(News.of H bA).1 k
      have A1:0+k≤maxLen:=by unfold maxLen;omega
      have A2:(0+k)*24≤140737488355328:=by omega
      have A3:0+k+(M.length- (k+1))≤maxLen:=by unfold maxLen;omega
      have A4:(0+k+(M.length- (k+1)))*24≤140737488355328:=by omega
      have L1:(flat hC (M.take k)).length=k*3:=by rw [flat_length hC_len,l1]
      have L2:(flat hC (M.drop (k+1))).length=(M.length- (k+1))*3:=by rw [flat_length hC_len,l2]
      have HNO:Hid _:=hno
      clear hno hk
      by_cases hcap:c=k+1
      ·have k5:(k:Int)≤(k:Int)+1:=by omega
       have k6:(M.length:Int)≤(k:Int)+1:=by omega
       go_wp2
       have HSu:Hid (∀ w',Below (w.heap.size) w w'→(fun w'=>True∧Below (w.heap.size) w w') w'):=by
        unfold Hid
        intro w' hb
        exact⟨trivial,hb⟩
       refine wp_region_held_drew (S:=fun w'=>True∧Below (w.heap.size) w w') (by kernel_rfl) ?_ (fun hHeld=>?_)
       ·exact HSu.out _ ((Below.refl _ _).drew)
       refine tn 1 ?_;refine tn 2 ?_;refine tn 3 ?_;refine tn 5 ?_;refine tn 6 ?_;refine tn 7 ?_;refine tn 8 ?_
       simp only [Act.put,ps1,ps2,ps3]
       refine tcl 0 fun Kc hK=>?_
       go_simp
       refine hK.out _ _ ?_ (fun hHeld=>?_)
       ·exact HSu.out _ (hHeld.2.alloc hHeld.2.size _)
       clear hK Kc
       refine tcl 4 fun Kc hK=>?_
       refine step_append_S rfl (.tmp 41) (.tmp 44) 33 rfl w.heap.size 61 i0 _ 3 24 Try.underlying33 hi0 hz0 hz1 hz2 rfl (by decide) _ 0 0 [] rfl oW ⟨b,0,none⟩ k _ (flat hC (M.take k)) rfl L1 NA1 (flat_one_cell hC_one _) A1 A2 (by simp) ?_;intro a4 c4 w4 h4 g4 s4;rw [List.nil_append]at h4;have b4:Below w.heap.size w w4:=bA.trans (grow_to oW (by simp) g4)
       refine hK.out _ _ ?_ (fun hHeld=>?_)
       ·exact HSu.out _ b4
       clear hK Kc
       have NA2:News w4 ⟨b,0,none⟩ (flat hC (M.drop (k+1))):=by rw [List.drop_eq_nil_of_le (by omega)];intro j u hu;simp [flat]at hu
       refine tcl 9 fun Kc hK=>?_
       refine step_append_S rfl (.tmp 45) (.tmp 49) 33 rfl w.heap.size 61 i0 _ 3 24 Try.underlying33 hi0 hz0 hz1 hz2 rfl (by decide) a4 (0+k) c4 (flat hC (M.take k)) rfl h4 ⟨b,0,none⟩ (M.length- (k+1)) _ (flat hC (M.drop (k+1))) rfl L2 NA2 (flat_one_cell hC_one _) A3 A4 (Nat.le_trans (by simp) b4.size) ?_;intro a5 c5 w5 h5 g5 s5
       refine hK.out _ _ ?_ (fun hHeld=>?_)
       ·exact HSu.out _ (b4.trans (grow_to h4 b4.size g5))
       clear hK Kc
       refine tz (i:=10) rfl ?_
       simp only [Act.put,ps1,ps2,ps3]
       refine wpAnyH_done (by kernel_rfl) ?_ _
       have bF:=hHeld.2
       go_wp2
       go_ret
       refine⟨a5,c5,?_,?_,fun b hb=>Or.inr (OwnS.lt h5 hb).2,bF⟩
       ·rw [←HE.out,List.length_append,l1,l2]
        first|rfl|simp
       ·rw [←HE.out]
        show OwnS _ _ _ _ _ (M.take k++M.drop (k+1)).length _ _
        rw [flat_append,List.length_append,l1,l2]
        rw [Nat.zero_add]at h5
        exact OwnS.mono h5 hb
      ·skip
       go_wp2
       have HSv:Hid (∀ w',Below (w.heap.size) w w'→(fun w'=>True∧Below (w.heap.size) w w') w'):=by
        unfold Hid
        intro w' hb
        exact⟨trivial,hb⟩
       refine wp_region_held_drew (S:=fun w'=>True∧Below (w.heap.size) w w') (by kernel_rfl) ?_ (fun hHeld=>?_)
       ·exact HSv.out _ ((Below.refl _ _).drew)
       refine tn 1 ?_;refine tn 2 ?_;refine tn 3 ?_;refine tn 5 ?_;refine tn 6 ?_;refine tn 7 ?_;refine tn 8 ?_
       simp only [Act.put,ps1,ps2,ps3]
       refine tcl 0 fun Kc hK=>?_
       go_simp
       refine hK.out _ _ ?_ (fun hHeld=>?_)
       ·exact HSv.out _ (hHeld.2.alloc hHeld.2.size _)
       clear hK Kc
       refine tcl 4 fun Kc hK=>?_
       refine step_append_S rfl (.tmp 41) (.tmp 44) 33 rfl w.heap.size 61 i0 _ 3 24 Try.underlying33 hi0 hz0 hz1 hz2 rfl (by decide) _ 0 0 [] rfl oW ⟨b,0,none⟩ k _ (flat hC (M.take k)) rfl L1 NA1 (flat_one_cell hC_one _) A1 A2 (by simp) ?_;intro a4 c4 w4 h4 g4 s4;rw [List.nil_append]at h4;have b4:Below w.heap.size w w4:=bA.trans (grow_to oW (by simp) g4)
       refine hK.out _ _ ?_ (fun hHeld=>?_)
       ·exact HSv.out _ b4
       clear hK Kc
       have NA2:News w4 ⟨b,(k+1)*3,none⟩ (flat hC (M.drop (k+1))):=(News.of H b4).2 (k+1)
       refine tcl 9 fun Kc hK=>?_
       refine step_append_S rfl (.tmp 45) (.tmp 49) 33 rfl w.heap.size 61 i0 _ 3 24 Try.underlying33 hi0 hz0 hz1 hz2 rfl (by decide) a4 (0+k) c4 (flat hC (M.take k)) rfl h4 ⟨b,(k+1)*3,none⟩ (M.length- (k+1)) _ (flat hC (M.drop (k+1))) rfl L2 NA2 (flat_one_cell hC_one _) A3 A4 (Nat.le_trans (by simp) b4.size) ?_;intro a5 c5 w5 h5 g5 s5
       refine hK.out _ _ ?_ (fun hHeld=>?_)
       ·exact HSv.out _ (b4.trans (grow_to h4 b4.size g5))
       clear hK Kc
       refine tz (i:=10) rfl ?_
       simp only [Act.put,ps1,ps2,ps3]
       refine wpAnyH_done (by kernel_rfl) ?_ _
       have bF:=hHeld.2
       go_wp2
       go_ret
       refine⟨a5,c5,?_,?_,fun b hb=>Or.inr (OwnS.lt h5 hb).2,bF⟩
       ·rw [←HE.out,List.length_append,l1,l2]
        first|rfl|simp
       ·rw [←HE.out]
        show OwnS _ _ _ _ _ (M.take k++M.drop (k+1)).length _ _
        rw [flat_append,List.length_append,l1,l2]
        rw [Nat.zero_add]at h5
        exact OwnS.mono h5 hb
     ·have HE:Hid _:=nx.out (by simp [e3])
      subst e1 e2
      go_wp2
      go_roundw
      case rel=>exact⟨k+1,by omega,by simp,HE,rfl⟩
      case measure=>simp [intOf];omega
    ·have HE:Hid _:=nx.out (by simp [e2])
     subst e1
     go_wp2
     go_roundw
     case rel=>exact⟨k+1,by omega,by simp,HE,rfl⟩
     case measure=>simp [intOf];omega
   ·have HE:Hid _:=nx.out (by simp [e1])
    go_wp2
    go_roundw
    case rel=>exact⟨k+1,by omega,by simp,HE,rfl⟩
    case measure=>simp [intOf];omega
  ·obtain rfl:k=M.length:=by omega
   have HE:Hid (M.erase (v,x,y)=M):=erase_no hno.out
   clear hno
   go_wp2
   go_ret
   exact⟨a,c,by rw [HE.out];rfl,by rw [HE.out];exact H,fun b hb=>Or.inl hb,Below.refl _ _⟩
theorem tm2(z n:Int)(hn:0<n):(z.tmod n+n).tmod n=z % n:=by
 have h1:=Int.lt_tmod_of_pos z hn
 rw [Int.tmod_eq_emod_of_nonneg (by omega),Int.add_emod_right]
 have e:=Int.mul_tdiv_add_tmod z n
 conv=>rhs;rw [←e]
 rw [Int.add_comm,Int.add_mul_emod_self_left]
def hitR(M:List Hl)(n:Nat)(x y:Int)(o:Int×Int):Option Int:=if(leastF M ((x+o.1) % (n:Int)) ((y+o.2) % (n:Int))).2 then some (leastF M ((x+o.1) % (n:Int)) ((y+o.2) % (n:Int))).1 else none
def nearM(M:List Hl)(n:Nat)(x y:Int):Int:=((outP n).findSome? (hitR M n x y)).getD (-1)
def NrL(w:World)(f:Int×Int→Option Int)(T:Option Int)(Z:List (Int×Int))(wr:World):Prop:=T=Z.findSome? f∧Below w.heap.size w wr
theorem allR_cons(N:Int)(c:Nat):allR N (c+1)=sqR N (-N) (2*N+1).toNat++allR (N+1) c:=by unfold allR;rw [ups,List.flatMap_cons]
theorem sqR_cons(N I:Int)(c:Nat):sqR N I (c+1)=colR N I (-N) (2*N+1).toNat++sqR N (I+1) c:=by unfold sqR;rw [ups,List.flatMap_cons]
theorem colR_cons(N I K:Int)(c:Nat):colR N I K (c+1)=(if farB I K N then [(I,K)]else [])++colR N I (K+1) c:=by unfold colR;rw [ups,List.flatMap_cons]
structure Wd(x I n a:Int)(P Q:Int):Prop where
 f1:wrap64 (x+I)=x+I
 f2:(x+I).tmod n=P
 f3:wrap64 (P+n)=Q
 f4:Q.tmod n=a
theorem wd_of{x I:Int}{n:Nat}(hn:1≤n∧n≤64)(hx: -1000≤x∧x≤1000)(hI: -1000≤I∧I≤1000): ∃ P Q,Wd x I n ((x+I) % (n:Int)) P Q:=by
 have hp:(0:Int)<n:=by omega
 have h1:=Int.lt_tmod_of_pos (x+I) hp
 have h2:=Int.tmod_lt_of_pos (x+I) hp
 exact⟨(x+I).tmod n,(x+I).tmod n+n,wrap_in (by omega) (by omega),rfl,wrap_in (by omega) (by omega),tm2 _ _ hp⟩
set_option maxRecDepth 100000 in
set_option maxHeartbeats 4000000 in
theorem rkNear_no(a:Option Addr)(l c:Nat)(n x y:Int)(w:World)(hx:x<0)(hn:0≤n):
  Calls Try.prog 18 #[.slice a l c, .int .i64 n, .int .i64 x, .int .i64 y] w fun e w'=>e= .returned (.int .i64 (-1))∧Below w.heap.size w w':=by
 have hx': ¬0≤x:=by omega
 go_enter Try.func18,Try.ntmps18
 go_wp2
 go_loopw [9] (fun v wr=>v= .int .i64 0∧w=wr) (fun _ _=>0)
 case atStart=>exact⟨rfl,rfl⟩
 case round=>
  obtain⟨rfl,rfl⟩:=hrel
  go_wp2
  go_ret
  exact⟨rfl,Below.refl _ _⟩
set_option maxRecDepth 100000 in
set_option maxHeartbeats 4000000 in
theorem rkNear(base c n:Nat)(a:Option Addr)(M:List Hl)(x y:Int)(w:World)(H:HlL w base a c M)(hM:M.length≤1000)(hn:1≤n∧n≤64)(hx:0≤x∧x<n)(hy:0≤y∧y<n){r:Int}(hr:r=nearM M n x y):
  Calls Try.prog 18 #[.slice a M.length c, .int .i64 (n:Int), .int .i64 x, .int .i64 y] w fun e w'=>e= .returned (.int .i64 r)∧Below w.heap.size w w':=by
 obtain⟨T,hT⟩: ∃ T,T=(allR 0 (n+1)).findSome? (hitR M n x y):=⟨_,rfl⟩
 have HR:Hid (r=T.getD (-1)):=by unfold Hid;rw [hr,hT,allR_eq];rfl
 have HT:Hid _:=hT
 have hx0:=hx.1
 clear hr hT
 go_enter Try.func18,Try.ntmps18
 go_wp2
 go_loopw [9] (fun v wr=> ∃ N:Nat,N≤n+1∧v= .int .i64 (N:Int)∧NrL w (hitR M n x y) T (allR N (n+1- N)) wr) (fun v _=>((n:Int)+1- intOf v).toNat)
 case atStart=>exact⟨0,by omega,rfl,HT.out,Below.refl _ _⟩
 case round=>
  obtain⟨N,hN,rfl,hL,hB⟩:=hrel
  have HL:Hid _:=hL
  clear hL
  by_cases hlt:N<n+1
  ·have hle:(N:Int)≤(n:Int):=by omega
   have HL2:Hid (T=(sqR N (-(N:Int)) (2*(N:Int)+1).toNat++allR ((N:Int)+1) (n- N)).findSome? (hitR M n x y)):=by unfold Hid;rw [←allR_cons,←show n+1- N=n- N+1 by omega];exact HL.out
   have w0:wrap64 (-(N:Int))= -(N:Int):=wrap_in (by omega) (by omega)
   clear HL
   go_wp2
   go_loopw [10] (fun v wr=> ∃ I:Int, -(N:Int)≤I∧I≤(N:Int)+1∧v= .int .i64 I∧NrL w (hitR M n x y) T (sqR N I ((N:Int)+1- I).toNat++allR ((N:Int)+1) (n- N)) wr) (fun v _=>((N:Int)+1- intOf v).toNat)
   case atStart=>exact⟨-(N:Int),by omega,by omega,rfl,by rw [show((N:Int)+1 - -(N:Int)).toNat=(2*(N:Int)+1).toNat by omega];exact HL2.out,hB⟩
   case round=>
    clear HL2 hB
    obtain⟨I,hI1,hI2,rfl,hL,hB⟩:=hrel
    have HL:Hid _:=hL
    clear hL
    by_cases hi:I≤(N:Int)
    ·have HL3:Hid (T=(colR N I (-(N:Int)) (2*(N:Int)+1).toNat++(sqR N (I+1) ((N:Int)+1- (I+1)).toNat++allR ((N:Int)+1) (n- N))).findSome? (hitR M n x y)):=by
      unfold Hid
      rw [←List.append_assoc,←sqR_cons,←show((N:Int)+1- I).toNat=((N:Int)+1- (I+1)).toNat+1 by omega]
      exact HL.out
     clear HL
     go_wp2
     go_loopw [11] (fun v wr=> ∃ K:Int, -(N:Int)≤K∧K≤(N:Int)+1∧v= .int .i64 K∧NrL w (hitR M n x y) T (colR N I K ((N:Int)+1- K).toNat++(sqR N (I+1) ((N:Int)+1- (I+1)).toNat++allR ((N:Int)+1) (n- N))) wr) (fun v _=>((N:Int)+1- intOf v).toNat)
     case atStart=>exact⟨-(N:Int),by omega,by omega,rfl,by rw [show((N:Int)+1 - -(N:Int)).toNat=(2*(N:Int)+1).toNat by omega];exact HL3.out,hB⟩
     case round=>
      clear HL3 hB w0
      obtain⟨K,hK1,hK2,rfl,hL,hB⟩:=hrel
      have HL:Hid _:=hL
      clear hL
      by_cases hk:K≤(N:Int)
      ·have HL4:Hid (T=((if farB I K N then [(I,K)]else [])++(colR N I (K+1) ((N:Int)+1- (K+1)).toNat++(sqR N (I+1) ((N:Int)+1- (I+1)).toNat++allR ((N:Int)+1) (n- N)))).findSome? (hitR M n x y)):=by
        unfold Hid
        rw [←List.append_assoc,←colR_cons,←show((N:Int)+1- K).toNat=((N:Int)+1- (K+1)).toNat+1 by omega]
        exact HL.out
       clear HL
       obtain⟨P1,Q1,W1⟩:=wd_of (x:=x) (I:=I) hn (by omega) (by omega)
       obtain⟨P2,Q2,W2⟩:=wd_of (x:=y) (I:=K) hn (by omega) (by omega)
       have WK:Hid (wrap64 (K+1)=K+1):=wrap_in (by omega) (by omega)
       have hit0:Hid (hitR M n x y (I,K)=if(leastF M ((x+I) % (n:Int)) ((y+K) % (n:Int))).2 then some (leastF M ((x+I) % (n:Int)) ((y+K) % (n:Int))).1 else none):=rfl
       generalize (x+I) % (n:Int)=a1 at W1 hit0
       generalize (y+K) % (n:Int)=b1 at W2 hit0
       obtain⟨v,t,hvt⟩: ∃ v t,(v,t)=leastF M a1 b1:=⟨_,_,rfl⟩
       have CL:Hid (∀ w',Below w.heap.size w w'→Calls Try.prog 28 #[.slice a M.length c, .int .i64 a1, .int .i64 b1] w' fun e w''=>e= .returned (.tuple #[.int .i64 v, .bool t])∧w''=w'):=fun w' hb=>rkLeast base c a M a1 b1 w' (OwnS.below H hb) hM hvt
       have CF:Hid (∀ (w':World) (q:Bool),q=farB I K N→Calls Try.prog 29 #[.int .i64 I, .int .i64 K, .int .i64 (N:Int)] w' fun e w''=>e= .returned (.bool q)∧w''=w'):=fun w' q hq=>rkFar I K N w' ⟨by omega,by omega⟩ ⟨hI1,hi⟩ ⟨hK1,hk⟩ hq
       have HIT:Hid (hitR M n x y (I,K)=if t then some v else none):=by unfold Hid;rw [hit0.out,←hvt]
       have p1:=W1.f1
       have p2:=W1.f2
       have p3:=W1.f3
       have p4:=W1.f4
       have p5:=W2.f1
       have p6:=W2.f2
       have p7:=W2.f3
       have p8:=W2.f4
       have p9:((n:Int)==0)=false:=by simp;have:=hn.1;clear p1 p2 p3 p4 p5 p6 p7 p8;omega
       have p0: ¬(n:Int)=0:=by have:=hn.1;clear p1 p2 p3 p4 p5 p6 p7 p8;omega
       clear hvt hit0 W1 W2
       go_wp2
       go_quiet (fail)
       clear p1 p2 p3 p4 p5 p6 p7 p8 p9 p0
       have bq:=hB.trans (below_dn w.heap.size wr nq)
       generalize wr.drewN nq=wq at bq ⊢
       cases t
       ·have HS:Hid (T=(colR N I (K+1) ((N:Int)+1- (K+1)).toNat++(sqR N (I+1) ((N:Int)+1- (I+1)).toNat++allR ((N:Int)+1) (n- N))).findSome? (hitR M n x y)):=by
         unfold Hid
         rw [HL4.out,List.findSome?_append]
         cases farB I K N
         ·rfl
         ·simp only [if_true,List.findSome?_cons,HIT.out,List.findSome?_nil];rfl
        clear HL4 HIT
        go_wp2_with (go_at_call 28;fail)
        refine Calls.mono (CL.out _ bq) ?_
        rintro e w5 ⟨rfl,hw5⟩
        subst hw5
        have wk:=WK.out
        clear CL CF hx hy hn hle hx0 hi
        go_wp2
        clear wk
        go_roundw
        case rel=>exact⟨K+1,by omega,by omega,by first|rfl|rw [WK.out],HS.out,bq⟩
        case measure=>(try rw [WK.out]);simp [intOf];omega
       ·cases hf:farB I K N
        ·have HS:Hid (T=(colR N I (K+1) ((N:Int)+1- (K+1)).toNat++(sqR N (I+1) ((N:Int)+1- (I+1)).toNat++allR ((N:Int)+1) (n- N))).findSome? (hitR M n x y)):=by
          unfold Hid
          rw [HL4.out,hf]
          rfl
         have HF:Hid _:=hf
         clear HL4 HIT hf
         go_wp2_with (go_at_call 28;fail)
         refine Calls.mono (CL.out _ bq) ?_
         rintro e w5 ⟨rfl,hw5⟩
         subst hw5
         clear CL
         go_wp2_with (go_at_call 29;fail)
         refine Calls.mono (CF.out _ false HF.out.symm) ?_
         rintro e w6 ⟨rfl,hw6⟩
         subst hw6
         have wk:=WK.out
         clear CF hx hy hn hle hx0 hi
         go_wp2
         clear wk
         go_roundw
         case rel=>exact⟨K+1,by omega,by omega,by first|rfl|rw [WK.out],HS.out,bq⟩
         case measure=>(try rw [WK.out]);simp [intOf];omega
        ·have HV:Hid (r=v):=by
          unfold Hid
          rw [HR.out,HL4.out,hf,List.findSome?_append]
          simp only [if_true,List.findSome?_cons,HIT.out]
          rfl
         have HF:Hid _:=hf
         clear HL4 HIT hf
         go_wp2_with (go_at_call 28;fail)
         refine Calls.mono (CL.out _ bq) ?_
         rintro e w5 ⟨rfl,hw5⟩
         subst hw5
         clear CL
         go_wp2_with (go_at_call 29;fail)
         refine Calls.mono (CF.out _ true HF.out.symm) ?_
         rintro e w6 ⟨rfl,hw6⟩
         subst hw6
         clear CF hx hy hn hle hx0 hi
         go_wp2
         go_ret
         exact⟨by rw [HV.out];rfl,bq⟩
      ·have HS:Hid (T=(sqR N (I+1) ((N:Int)+1- (I+1)).toNat++allR ((N:Int)+1) (n- N)).findSome? (hitR M n x y)):=by
        unfold Hid
        have e:=HL.out
        rw [show((N:Int)+1- K).toNat=0 by omega]at e
        exact e
       have WI:wrap64 (I+1)=I+1:=wrap_in (by omega) (by omega)
       clear HL
       go_wp2
       clear WI
       go_roundw
       case rel=>exact⟨I+1,by omega,by omega,rfl,HS.out,hB⟩
       case measure=>simp [intOf];omega
    ·have HS:Hid (T=(allR ((N+1:Nat):Int) (n+1- (N+1))).findSome? (hitR M n x y)):=by
      unfold Hid
      have e:=HL.out
      rw [show((N:Int)+1- I).toNat=0 by omega]at e
      rw [show n+1- (N+1)=n- N by omega,Int.natCast_add]
      exact e
     clear w0
     have WN:wrap64 ((N:Int)+1)=(N:Int)+1:=wrap_in (by omega) (by omega)
     clear HL
     go_wp2
     clear WN
     go_roundw
     case rel=>exact⟨N+1,by omega,by simp,HS.out,hB⟩
     case measure=>simp [intOf];omega
  ·obtain rfl:N=n+1:=by omega
   have hle: ¬(((n+1:Nat):Int)≤(n:Int)):=by omega
   have HV:Hid (r= -1):=by
    unfold Hid
    have e:=HL.out
    rw [Nat.sub_self]at e
    rw [HR.out,e]
    rfl
   clear HL
   go_wp2
   go_ret
   exact⟨by rw [HV.out];rfl,hB⟩
end Go.Proofs.Ytliajdokamlnnaa
