/-
  Joined texts, part 5:
  What zelligeref04's Small answers.
  What zelligeref06's Torus, In, Can and Cmp answer.
-/
import Derived.Test.YtaadknpjbogkbaaGreatP2
import Derived.Test.YtaadknpjbogkbaaGreatP4
namespace Go.Proofs.YtaadknpjbogkbaaGreat
open Go.RowKit
set_option linter.unusedVariables false
theorem few63:hf.nlen (9223372036854775807:Int).natAbs≤1000000:=Nat.le_trans (hf.nlen_le (n:=4) (by decide)) (by decide)
theorem few64:hf.nlen (-9223372036854775808:Int).natAbs≤1000000:=Nat.le_trans (hf.nlen_le (n:=4) (by decide)) (by decide)
def RsRel(W:World)(U l:Nat)(nv i:Value)(wr:World):Prop:= ∃ r:Nat,r≤l∧i= .int .i64 ((r:Int)- 1)∧nv= .int .i64 (-((U/65536^r:Nat):Int))∧wr=W
theorem rs_step(U q:Nat): -((U/65536^(q+1):Nat):Int)*65536- hf.dg (U:Int) q= -((U/65536^q:Nat):Int):=by
 rw [hf.dg_nat,Nat.pow_succ,←Nat.div_div_eq_div_mul]
 omega
set_option maxRecDepth 100000 in
set_option maxHeartbeats 8000000 in
theorem rwSmall(s:Int)(d:Option Addr)(l c:Nat)(z:Int)(w:World)(hd:RN w s d l c z)(fz:hf.nlen z.natAbs≤1000000){v:Int}{ok:Bool}(hv:v=smV z)(hok:ok=smOk z):
  Calls Tryz.prog 44 #[.agg #[.int .i64 s, .slice d l c]] w fun e w'=>e= .returned (.tuple #[.int .i64 v, .bool ok])∧Below w.heap.size w w':=by
 have B0:Below w.heap.size w (w.alloc (.cells #[.int .i64 s, .slice d l c] 102)):=(Below.refl _ _).alloc (Nat.le_refl _) _
 have x0:=(bx_new w (.int .i64 s) (.slice d l c) 102).drew
 obtain⟨g1,hg1⟩: ∃ g1,g1=(z- 9223372036854775807).sign:=⟨_,rfl⟩
 obtain⟨g2,hg2⟩: ∃ g2,g2=(z - -9223372036854775808).sign:=⟨_,rfl⟩
 have G1:Hid _:=hg1
 have G2:Hid _:=hg2
 by_cases hbig:9223372036854775807<z
 ·have hno:smOk z=false:=by unfold smOk;simp;omega
  obtain rfl:ok=false:=by rw [hok,hno]
  obtain rfl:v=0:=by rw [hv];unfold smV;rw [hno];rfl
  have e1:0<g1:=by rw [hg1,sign_pos (by omega)];decide
  clear hg1 hg2 hv hok
  go_enter Tryz.func44,Tryz.ntmps44
  go_wp2
  refine wp_region_held_drew (S:=(fun w'=>w'.cell? ⟨w.heap.size,0,none⟩=some (.int .i64 s)∧w'.cell? ⟨w.heap.size,1,none⟩=some (.slice d l c)∧Below w.heap.size w w')) (by kernel_rfl) ?_ (fun hHeld=>?_)
  ·first|exact keepB1 hHeld bb|exact⟨x0.c0,x0.c1,B0.drew⟩|exact hHeld
  refine tz (i:=0) rfl ?_
  simp only [Act.put,ps1,ps2,ps3]
  refine take_call (i:=1) rfl (by kernel_rfl) (fun K hK=>?_)
  go_simp
  (go_at_call 39;refine(rwLong 9223372036854775807 _ (by decide) (by decide)).mono ?_;rintro e w1 ⟨s1,d1,l1,c1,rfl,h1,f1,bb⟩;have b1:=bb)
  refine hK.out _ _ ?_ (fun hHeld=>?_)
  ·first|exact keepB1 hHeld bb|exact⟨x0.c0,x0.c1,B0.drew⟩|exact hHeld
  clear hK K
  refine take_call (i:=2) rfl (by kernel_rfl) (fun K hK=>?_)
  go_simp
  (go_at_call 81;refine(rwCmp s s1 d d1 l c l1 c1 z 9223372036854775807 _ (hd.below hHeld.2.2) h1 fz few63 G1.out).mono ?_;rintro e w2 ⟨rfl,bb⟩;have b2:=bb)
  refine hK.out _ _ ?_ (fun hHeld=>?_)
  ·first|exact keepB1 hHeld bb|exact⟨x0.c0,x0.c1,B0.drew⟩|exact hHeld
  clear hK K
  refine tn 3 ?_;refine tn 4 ?_
  simp only [Act.put,ps1,ps2,ps3]
  refine tno 5 ?_
  simp only [Act.put,ps1,ps2,ps3]
  refine take_call (i:=6) rfl (by kernel_rfl) (fun K hK=>?_)
  go_simp
  refine hK.out _ _ ?_ (fun hHeld=>?_)
  ·first|exact keepB1 hHeld bb|exact⟨x0.c0,x0.c1,B0.drew⟩|exact hHeld
  clear hK K
  refine take_call (i:=7) rfl (by kernel_rfl) (fun K hK=>?_)
  go_simp
  refine hK.out _ _ ?_ (fun hHeld=>?_)
  ·first|exact keepB1 hHeld bb|exact⟨x0.c0,x0.c1,B0.drew⟩|exact hHeld
  clear hK K
  refine tno 8 ?_
  simp only [Act.put,ps1,ps2,ps3]
  refine tz (i:=9) rfl ?_
  simp only [Act.put,ps1,ps2,ps3]
  refine wpAnyH_done (by kernel_rfl) ?_ _
  go_wp2
  go_ret2
  exact⟨rfl,hHeld.2.2⟩
 ·have e1: ¬0<g1:=by rw [hg1];rcases sign_cases (z- 9223372036854775807)with⟨_,e⟩|⟨_,e⟩|⟨_,e⟩<;>omega
  have e1':decide (0<g1)=false:=by simpa using e1
  by_cases hsm:z< -9223372036854775808
  ·have hno:smOk z=false:=by unfold smOk;simp;omega
   obtain rfl:ok=false:=by rw [hok,hno]
   obtain rfl:v=0:=by rw [hv];unfold smV;rw [hno];rfl
   have e2:g2<0:=by rw [hg2,sign_neg (by omega)];decide
   clear hg1 hg2 hv hok
   go_enter Tryz.func44,Tryz.ntmps44
   go_wp2
   refine wp_region_held_drew (S:=(fun w'=>w'.cell? ⟨w.heap.size,0,none⟩=some (.int .i64 s)∧w'.cell? ⟨w.heap.size,1,none⟩=some (.slice d l c)∧Below w.heap.size w w')) (by kernel_rfl) ?_ (fun hHeld=>?_)
   ·first|exact keepB1 hHeld bb|exact⟨x0.c0,x0.c1,B0.drew⟩|exact hHeld
   refine tz (i:=0) rfl ?_
   simp only [Act.put,ps1,ps2,ps3]
   refine take_call (i:=1) rfl (by kernel_rfl) (fun K hK=>?_)
   go_simp
   (go_at_call 39;refine(rwLong 9223372036854775807 _ (by decide) (by decide)).mono ?_;rintro e w1 ⟨s1,d1,l1,c1,rfl,h1,f1,bb⟩;have b1:=bb)
   refine hK.out _ _ ?_ (fun hHeld=>?_)
   ·first|exact keepB1 hHeld bb|exact⟨x0.c0,x0.c1,B0.drew⟩|exact hHeld
   clear hK K
   refine take_call (i:=2) rfl (by kernel_rfl) (fun K hK=>?_)
   go_simp
   (go_at_call 81;refine(rwCmp s s1 d d1 l c l1 c1 z 9223372036854775807 _ (hd.below hHeld.2.2) h1 fz few63 G1.out).mono ?_;rintro e w2 ⟨rfl,bb⟩;have b2:=bb)
   refine hK.out _ _ ?_ (fun hHeld=>?_)
   ·first|exact keepB1 hHeld bb|exact⟨x0.c0,x0.c1,B0.drew⟩|exact hHeld
   clear hK K
   refine tn 3 ?_;refine tn 4 ?_;refine tn 5 ?_
   simp only [Act.put,ps1,ps2,ps3]
   refine take_call (i:=6) rfl (by kernel_rfl) (fun K hK=>?_)
   go_simp
   (go_at_call 39;refine(rwLong (-9223372036854775808) _ (by decide) (by decide)).mono ?_;rintro e w3 ⟨s3,d3,l3,c3,rfl,h3,f3,bb⟩;have b3:=bb)
   refine hK.out _ _ ?_ (fun hHeld=>?_)
   ·first|exact keepB1 hHeld bb|exact⟨x0.c0,x0.c1,B0.drew⟩|exact hHeld
   clear hK K
   refine take_call (i:=7) rfl (by kernel_rfl) (fun K hK=>?_)
   go_simp
   (go_at_call 81;refine(rwCmp s s3 d d3 l c l3 c3 z (-9223372036854775808) _ (hd.below hHeld.2.2) h3 fz few64 G2.out).mono ?_;rintro e w4 ⟨rfl,bb⟩;have b4:=bb)
   refine hK.out _ _ ?_ (fun hHeld=>?_)
   ·first|exact keepB1 hHeld bb|exact⟨x0.c0,x0.c1,B0.drew⟩|exact hHeld
   clear hK K
   refine tn 8 ?_;refine tn 9 ?_
   simp only [Act.put,ps1,ps2,ps3]
   refine wpAnyH_done (by kernel_rfl) ?_ _
   go_wp2
   go_ret2
   exact⟨rfl,hHeld.2.2⟩
  ·have hyes:smOk z=true:=by unfold smOk;simp;omega
   obtain rfl:ok=true:=by rw [hok,hyes]
   have hvz:v=z:=by rw [hv];unfold smV;rw [hyes];rfl
   have e2: ¬g2<0:=by rw [hg2];rcases sign_cases (z - -9223372036854775808)with⟨_,e⟩|⟨_,e⟩|⟨_,e⟩<;>omega
   have e2':decide (g2<0)=false:=by simpa using e2
   obtain⟨U,hU⟩: ∃ U,U=z.natAbs:=⟨_,rfl⟩
   have hUl:U≤9223372036854775808:=by omega
   have hsz:(z=U∧s=1∧0<U)∨(z= -(U:Int)∧(s= -1∨s=0)):=by
    rw [hd.sg]
    rcases sign_cases z with⟨a,e⟩|⟨a,e⟩|⟨a,e⟩
    ·exact Or.inr ⟨by omega,Or.inl e⟩
    ·exact Or.inr ⟨by omega,Or.inr e⟩
    ·exact Or.inl ⟨by omega,e,by omega⟩
   have HVZ:Hid _:=hvz
   have HUU:Hid _:=hU
   clear hg1 hg2 hv hok hvz hU
   go_enter Tryz.func44,Tryz.ntmps44
   go_wp2
   refine wp_region_held_drew (S:=(fun w'=>w'.cell? ⟨w.heap.size,0,none⟩=some (.int .i64 s)∧w'.cell? ⟨w.heap.size,1,none⟩=some (.slice d l c)∧Below w.heap.size w w')) (by kernel_rfl) ?_ (fun hHeld=>?_)
   ·first|exact keepB1 hHeld bb|exact⟨x0.c0,x0.c1,B0.drew⟩|exact hHeld
   refine tz (i:=0) rfl ?_
   simp only [Act.put,ps1,ps2,ps3]
   refine take_call (i:=1) rfl (by kernel_rfl) (fun K hK=>?_)
   go_simp
   (go_at_call 39;refine(rwLong 9223372036854775807 _ (by decide) (by decide)).mono ?_;rintro e w1 ⟨s1,d1,l1,c1,rfl,h1,f1,bb⟩;have b1:=bb)
   refine hK.out _ _ ?_ (fun hHeld=>?_)
   ·first|exact keepB1 hHeld bb|exact⟨x0.c0,x0.c1,B0.drew⟩|exact hHeld
   clear hK K
   refine take_call (i:=2) rfl (by kernel_rfl) (fun K hK=>?_)
   go_simp
   (go_at_call 81;refine(rwCmp s s1 d d1 l c l1 c1 z 9223372036854775807 _ (hd.below hHeld.2.2) h1 fz few63 G1.out).mono ?_;rintro e w2 ⟨rfl,bb⟩;have b2:=bb)
   refine hK.out _ _ ?_ (fun hHeld=>?_)
   ·first|exact keepB1 hHeld bb|exact⟨x0.c0,x0.c1,B0.drew⟩|exact hHeld
   clear hK K
   refine tn 3 ?_;refine tn 4 ?_;refine tn 5 ?_
   simp only [Act.put,ps1,ps2,ps3]
   refine take_call (i:=6) rfl (by kernel_rfl) (fun K hK=>?_)
   go_simp
   (go_at_call 39;refine(rwLong (-9223372036854775808) _ (by decide) (by decide)).mono ?_;rintro e w3 ⟨s3,d3,l3,c3,rfl,h3,f3,bb⟩;have b3:=bb)
   refine hK.out _ _ ?_ (fun hHeld=>?_)
   ·first|exact keepB1 hHeld bb|exact⟨x0.c0,x0.c1,B0.drew⟩|exact hHeld
   clear hK K
   refine take_call (i:=7) rfl (by kernel_rfl) (fun K hK=>?_)
   go_simp
   (go_at_call 81;refine(rwCmp s s3 d d3 l c l3 c3 z (-9223372036854775808) _ (hd.below hHeld.2.2) h3 fz few64 G2.out).mono ?_;rintro e w4 ⟨rfl,bb⟩;have b4:=bb)
   refine hK.out _ _ ?_ (fun hHeld=>?_)
   ·first|exact keepB1 hHeld bb|exact⟨x0.c0,x0.c1,B0.drew⟩|exact hHeld
   clear hK K
   refine tn 8 ?_;refine tn 9 ?_
   simp only [Act.put,ps1,ps2,ps3]
   refine wpAnyH_done (by kernel_rfl) ?_ _
   have B5:=hHeld.2.2
   have hd5:=(hd.below B5).hd
   rw [←HUU.out]at hd5
   have hlU:U<65536^l:=by rw [hd5.len];exact hf.nlen_lt U
   have HZ:Hid (U/65536^l=0):=Nat.div_eq_of_lt hlU
   have k0:=hHeld.1
   have k1:=hHeld.2.1
   have hbg:=hd5.sl.big
   have hrm:=hd5.sl.room
   unfold maxLen at hbg
   clear hHeld b1 b2 b3 b4 h1 h3 f1 f3 hlU
   go_wp2
   go_loopw [4,5] (fun nv i wr=>RsRel w4 U l nv i wr) (fun _ i _=>(intOf i+1).toNat)
   case atStart=>exact⟨l,Nat.le_refl _,rfl,by rw [HZ.out];rfl,rfl⟩
   case round=>
    obtain⟨r,hr,rfl,rfl,rfl⟩:=hrel
    rcases r with _|q
    ·rw [Nat.pow_zero,Nat.div_one]
     rcases hsz with⟨e,rfl,hpos⟩|⟨e,hs⟩
     ·obtain rfl:v=(U:Int):=HVZ.out.trans e
      go_wp2
      go_ret2
      exact⟨by first|rfl|simp,B5⟩
     ·obtain rfl:v= -(U:Int):=HVZ.out.trans e
      rcases hs with rfl|rfl
      ·go_wp2
       go_ret2
       exact⟨by first|rfl|simp,B5⟩
      ·go_wp2
       go_ret2
       exact⟨by first|rfl|simp,B5⟩
    ·obtain⟨b,o,rfl,hb,hseg⟩:=hd5.sl.at (by omega)
     have c1:wr.cell? ⟨b,o+q,none⟩=some (.int .i64 (hf.dg (U:Int) q)):=hseg.cell q _ (hf.dcells_at _ _ _ (by omega))
     obtain⟨d0,d1⟩:=hf.dg_range (U:Int) q
     have e3:((q+1:Nat):Int)- 1=(q:Int):=by omega
     have HST:Hid _:=rs_step U q
     have hq1:(U/65536^(q+1):Nat)*65536≤U:=by
      have h1:=Nat.div_mul_le_self U (65536^(q+1))
      have h2:U/65536^(q+1)*65536≤U/65536^(q+1)*65536^(q+1):=Nat.mul_le_mul_left _ (by rw [Nat.pow_succ];exact Nat.le_mul_of_pos_left _ (Nat.pow_pos (by decide)))
      omega
     have hq2:U/65536^q≤U:=Nat.div_le_self _ _
     obtain⟨A,hA⟩: ∃ A,A=U/65536^(q+1):=⟨_,rfl⟩
     obtain⟨A',hA'⟩: ∃ A',A'=U/65536^q:=⟨_,rfl⟩
     rw [←hA]at HST hq1 ⊢
     rw [←hA']at HST hq2
     have HA':Hid _:=hA'
     obtain⟨D,hD⟩: ∃ D,D=hf.dg (U:Int) q:=⟨_,rfl⟩
     rw [←hD]at c1 d0 d1 HST
     have hq3: -((A:Nat):Int)*65536- D= -(A':Int):=HST.out
     have hlo: -9223372036854775808≤ -(A:Int)*65536:=by omega
     clear hA hA' hD
     rw [e3]
     go_wp2
     go_roundw
     case rel=>exact⟨q,by omega,rfl,by rw [←HA'.out],rfl⟩
     case measure=>simp [intOf]
theorem few40:hf.nlen (1099511627776:Int).natAbs≤1000000:=hfew (K:=2) (by decide) (by decide)
theorem few40n:hf.nlen (-1099511627776:Int).natAbs≤1000000:=hfew (K:=2) (by decide) (by decide)
theorem few_i64{x:Int}(h: -9223372036854775808≤x∧x≤9223372036854775807):hf.nlen x.natAbs≤1000000:=hfew (K:=2) (by omega) (by decide)
theorem in_no_high{z:Int}(h:1099511627776<z):inC z=false:=inC_false.2 (by omega)
theorem rlTorus(c:Int)(w:World){b:Bool}(hb:b=sideC c):Calls Tryz.prog 43 #[.int .i64 c] w fun e w'=>e= .returned (.bool b)∧Below w.heap.size w w':=by
 subst hb
 unfold sideC
 go_enter Tryz.func43,Tryz.ntmps43
 go_wp2
 all_goals (go_ret;exact⟨by simp;omega,Below.refl _ _⟩)
set_option maxRecDepth 100000 in
set_option maxHeartbeats 4000000 in
theorem rlIn(s:Int)(d:Option Addr)(l c:Nat)(z:Int)(w:World)(hz:RN w s d l c z)(fz:hf.nlen z.natAbs≤1000000){b:Bool}(hb:b=inC z):Calls Tryz.prog 38 #[.agg #[.int .i64 s, .slice d l c]] w fun e w'=>e= .returned (.bool b)∧Below w.heap.size w w':=by
 obtain⟨g1,hg1⟩: ∃ g1,g1=(z- 1099511627776).sign:=⟨_,rfl⟩
 obtain⟨g2,hg2⟩: ∃ g2,g2=(z - -1099511627776).sign:=⟨_,rfl⟩
 have G1:Hid _:=hg1
 have G2:Hid _:=hg2
 have FZ:Hid _:=fz
 clear fz
 obtain⟨W,hW,bW,x_n,sW⟩:=bs_2 w (.int .i64 s) (.slice d l c) 102
 have zbW:=bW.size
 replace hz:=hz.below bW
 have BB:=bW
 by_cases hbig:1099511627776<z
 ·skip
  obtain rfl:b=false:=by rw [hb,in_no_high hbig]
  have e1:(g1≤0)=False:=by rw [hg1,Int.sign_eq_one_of_pos (by omega)];decide
  clear hb hg1 hg2 hbig
  go_enter Tryz.func38,Tryz.ntmps38
  go_wp2
  rw [←hW]
  clear hW
  have dd1:Below W.heap.size W W.drew:=(Below.refl _ _).drew
  have zdd1:=dd1.size
  replace hz:=hz.below dd1
  replace BB:=also BB dd1
  replace x_n:=x_n.on dd1
  refine wp_region_held_drew (S:=(fun w'=>w'.cell? ⟨w.heap.size,0,none⟩=some (.int .i64 s)∧w'.cell? ⟨w.heap.size,1,none⟩=some (.slice d l c)∧Below w.heap.size w w')) (by kernel_rfl) ?_ (fun hHeld=>?_)
  ·first|exact⟨x_n.c0,x_n.c1,BB⟩|exact⟨cell_on bw2 hHeld.1,cell_on bw2 hHeld.2.1,also hHeld.2.2 bw2⟩|exact⟨cell_on bw1 hHeld.1,cell_on bw1 hHeld.2.1,also hHeld.2.2 bw1⟩
  refine tz (i:=0) rfl ?_
  simp only [Act.put,ps1,ps2,ps3]
  refine tcl 1 fun Kc hK=>?_
  go_simp
  (go_at_call 39;refine(rwLong 1099511627776 _ (by decide) (by decide)).mono ?_;rintro e w1 ⟨s1,d1,l1,c1,rfl,r1,f1,bw1⟩)
  refine hK.out _ _ ?_ (fun hHeld=>?_)
  ·first|exact⟨x_n.c0,x_n.c1,BB⟩|exact⟨cell_on bw2 hHeld.1,cell_on bw2 hHeld.2.1,also hHeld.2.2 bw2⟩|exact⟨cell_on bw1 hHeld.1,cell_on bw1 hHeld.2.1,also hHeld.2.2 bw1⟩
  clear hK Kc
  have zbw1:=bw1.size
  replace hz:=hz.below bw1
  replace BB:=also BB bw1
  replace x_n:=x_n.on bw1
  refine tcl 2 fun Kc hK=>?_
  go_simp
  (go_at_call 81;refine(rwCmp s s1 d d1 l c l1 c1 z 1099511627776 _ hz r1 FZ.out few40 G1.out).mono ?_;rintro e w2 ⟨rfl,bw2⟩)
  refine hK.out _ _ ?_ (fun hHeld=>?_)
  ·first|exact⟨x_n.c0,x_n.c1,BB⟩|exact⟨cell_on bw2 hHeld.1,cell_on bw2 hHeld.2.1,also hHeld.2.2 bw2⟩|exact⟨cell_on bw1 hHeld.1,cell_on bw1 hHeld.2.1,also hHeld.2.2 bw1⟩
  clear hK Kc
  have zbw2:=bw2.size
  replace hz:=hz.below bw2
  replace BB:=also BB bw2
  replace x_n:=x_n.on bw2
  replace r1:=r1.below bw2
  refine tn 3 ?_;refine tn 4 ?_
  simp only [Act.put,ps1,ps2,ps3]
  refine tno 5 ?_
  simp only [Act.put,ps1,ps2,ps3]
  refine tno 6 ?_
  simp only [Act.put,ps1,ps2,ps3]
  refine tno 7 ?_
  simp only [Act.put,ps1,ps2,ps3]
  refine tno 8 ?_
  simp only [Act.put,ps1,ps2,ps3]
  refine tn 9 ?_;refine tn 10 ?_
  simp only [Act.put,ps1,ps2,ps3]
  refine wpAnyH_done (by kernel_rfl) ?_ _
  go_wp2
  go_ret
  exact⟨rfl,BB⟩
 ·skip
  have e1:(g1≤0)=True:=by rw [hg1];rcases sign_cases (z- 1099511627776)with⟨q,s⟩|⟨q,s⟩|⟨q,s⟩<;>rw [s]<;>first|decide|omega
  have e2:decide (0≤g2)=b:=by rw [hb,hg2];unfold inC;rcases sign_cases (z - -1099511627776)with⟨q,s⟩|⟨q,s⟩|⟨q,s⟩<;>rw [s]<;>simp<;>omega
  clear hb hg1 hg2 hbig
  go_enter Tryz.func38,Tryz.ntmps38
  go_wp2
  rw [←hW]
  clear hW
  have dd1:Below W.heap.size W W.drew:=(Below.refl _ _).drew
  have zdd1:=dd1.size
  replace hz:=hz.below dd1
  replace BB:=also BB dd1
  replace x_n:=x_n.on dd1
  refine wp_region_held_drew (S:=(fun w'=>w'.cell? ⟨w.heap.size,0,none⟩=some (.int .i64 s)∧w'.cell? ⟨w.heap.size,1,none⟩=some (.slice d l c)∧Below w.heap.size w w')) (by kernel_rfl) ?_ (fun hHeld=>?_)
  ·first|exact⟨x_n.c0,x_n.c1,BB⟩|exact⟨cell_on bw4 hHeld.1,cell_on bw4 hHeld.2.1,also hHeld.2.2 bw4⟩|exact⟨cell_on bw3 hHeld.1,cell_on bw3 hHeld.2.1,also hHeld.2.2 bw3⟩|exact⟨cell_on bw2 hHeld.1,cell_on bw2 hHeld.2.1,also hHeld.2.2 bw2⟩|exact⟨cell_on bw1 hHeld.1,cell_on bw1 hHeld.2.1,also hHeld.2.2 bw1⟩
  refine tz (i:=0) rfl ?_
  simp only [Act.put,ps1,ps2,ps3]
  refine tcl 1 fun Kc hK=>?_
  go_simp
  (go_at_call 39;refine(rwLong 1099511627776 _ (by decide) (by decide)).mono ?_;rintro e w1 ⟨s1,d1,l1,c1,rfl,r1,f1,bw1⟩)
  refine hK.out _ _ ?_ (fun hHeld=>?_)
  ·first|exact⟨x_n.c0,x_n.c1,BB⟩|exact⟨cell_on bw4 hHeld.1,cell_on bw4 hHeld.2.1,also hHeld.2.2 bw4⟩|exact⟨cell_on bw3 hHeld.1,cell_on bw3 hHeld.2.1,also hHeld.2.2 bw3⟩|exact⟨cell_on bw2 hHeld.1,cell_on bw2 hHeld.2.1,also hHeld.2.2 bw2⟩|exact⟨cell_on bw1 hHeld.1,cell_on bw1 hHeld.2.1,also hHeld.2.2 bw1⟩
  clear hK Kc
  have zbw1:=bw1.size
  replace hz:=hz.below bw1
  replace BB:=also BB bw1
  replace x_n:=x_n.on bw1
  refine tcl 2 fun Kc hK=>?_
  go_simp
  (go_at_call 81;refine(rwCmp s s1 d d1 l c l1 c1 z 1099511627776 _ hz r1 FZ.out few40 G1.out).mono ?_;rintro e w2 ⟨rfl,bw2⟩)
  refine hK.out _ _ ?_ (fun hHeld=>?_)
  ·first|exact⟨x_n.c0,x_n.c1,BB⟩|exact⟨cell_on bw4 hHeld.1,cell_on bw4 hHeld.2.1,also hHeld.2.2 bw4⟩|exact⟨cell_on bw3 hHeld.1,cell_on bw3 hHeld.2.1,also hHeld.2.2 bw3⟩|exact⟨cell_on bw2 hHeld.1,cell_on bw2 hHeld.2.1,also hHeld.2.2 bw2⟩|exact⟨cell_on bw1 hHeld.1,cell_on bw1 hHeld.2.1,also hHeld.2.2 bw1⟩
  clear hK Kc
  have zbw2:=bw2.size
  replace hz:=hz.below bw2
  replace BB:=also BB bw2
  replace x_n:=x_n.on bw2
  replace r1:=r1.below bw2
  refine tn 3 ?_;refine tn 4 ?_;refine tn 5 ?_
  simp only [Act.put,ps1,ps2,ps3]
  refine tcl 6 fun Kc hK=>?_
  go_simp
  (go_at_call 39;refine(rwLong (-1099511627776) _ (by decide) (by decide)).mono ?_;rintro e w3 ⟨s3,d3,l3,c3,rfl,r3,f3,bw3⟩)
  refine hK.out _ _ ?_ (fun hHeld=>?_)
  ·first|exact⟨x_n.c0,x_n.c1,BB⟩|exact⟨cell_on bw4 hHeld.1,cell_on bw4 hHeld.2.1,also hHeld.2.2 bw4⟩|exact⟨cell_on bw3 hHeld.1,cell_on bw3 hHeld.2.1,also hHeld.2.2 bw3⟩|exact⟨cell_on bw2 hHeld.1,cell_on bw2 hHeld.2.1,also hHeld.2.2 bw2⟩|exact⟨cell_on bw1 hHeld.1,cell_on bw1 hHeld.2.1,also hHeld.2.2 bw1⟩
  clear hK Kc
  have zbw3:=bw3.size
  replace hz:=hz.below bw3
  replace BB:=also BB bw3
  replace x_n:=x_n.on bw3
  replace r1:=r1.below bw3
  refine tcl 7 fun Kc hK=>?_
  go_simp
  (go_at_call 81;refine(rwCmp s s3 d d3 l c l3 c3 z (-1099511627776) _ hz r3 FZ.out few40n G2.out).mono ?_;rintro e w4 ⟨rfl,bw4⟩)
  refine hK.out _ _ ?_ (fun hHeld=>?_)
  ·first|exact⟨x_n.c0,x_n.c1,BB⟩|exact⟨cell_on bw4 hHeld.1,cell_on bw4 hHeld.2.1,also hHeld.2.2 bw4⟩|exact⟨cell_on bw3 hHeld.1,cell_on bw3 hHeld.2.1,also hHeld.2.2 bw3⟩|exact⟨cell_on bw2 hHeld.1,cell_on bw2 hHeld.2.1,also hHeld.2.2 bw2⟩|exact⟨cell_on bw1 hHeld.1,cell_on bw1 hHeld.2.1,also hHeld.2.2 bw1⟩
  clear hK Kc
  have zbw4:=bw4.size
  replace hz:=hz.below bw4
  replace BB:=also BB bw4
  replace x_n:=x_n.on bw4
  replace r1:=r1.below bw4
  replace r3:=r3.below bw4
  refine tn 8 ?_;refine tn 9 ?_;refine tn 10 ?_
  simp only [Act.put,ps1,ps2,ps3]
  refine wpAnyH_done (by kernel_rfl) ?_ _
  go_wp2
  go_ret
  exact⟨rfl,BB⟩
set_option maxRecDepth 100000 in
theorem rlCan(x y:Int)(w:World)(hx: -9223372036854775808≤x∧x≤9223372036854775807)(hy: -9223372036854775808≤y∧y≤9223372036854775807){b:Bool}(hb:b=canC x y):Calls Tryz.prog 13 #[.agg #[.int .i64 x, .int .i64 y]] w fun e w'=>e= .returned (.bool b)∧Below w.heap.size w w':=by
 subst hb
 unfold canC
 have HX:Hid _:=hx
 have HY:Hid _:=hy
 clear hx hy
 cases hx:inC x
 ·skip
  obtain⟨W,hW,bW,x_p,sW⟩:=bs_2 w (.int .i64 x) (.int .i64 y) 24
  have zbW:=bW.size
  have BB:=bW
  go_enter Tryz.func13,Tryz.ntmps13
  go_wp2_with (go_at_call 39;fail)
  rw [←hW]
  clear hW
  refine(rwLong x W HX.out.1 HX.out.2).mono ?_
  rintro e w1 ⟨s1,d1,l1,c1,rfl,r1,f1,bw1⟩
  have zbw1:=bw1.size
  replace BB:=also BB bw1
  replace x_p:=x_p.on bw1
  go_wp2_with (go_at_call 38;fail)
  refine(rlIn s1 d1 l1 c1 x w1 r1 (few_i64 HX.out) hx.symm).mono ?_
  rintro e w2 ⟨rfl,bw2⟩
  have zbw2:=bw2.size
  replace BB:=also BB bw2
  replace x_p:=x_p.on bw2
  replace r1:=r1.below bw2
  have⟨x_p_0,x_p_1,x_p_2,x_p_3⟩:=x_p
  go_wp2
  go_ret
  exact⟨by simp,BB⟩
 ·skip
  obtain⟨W,hW,bW,x_p,sW⟩:=bs_2 w (.int .i64 x) (.int .i64 y) 24
  have zbW:=bW.size
  have BB:=bW
  go_enter Tryz.func13,Tryz.ntmps13
  go_wp2_with (go_at_call 39;fail)
  rw [←hW]
  clear hW
  refine(rwLong x W HX.out.1 HX.out.2).mono ?_
  rintro e w1 ⟨s1,d1,l1,c1,rfl,r1,f1,bw1⟩
  have zbw1:=bw1.size
  replace BB:=also BB bw1
  replace x_p:=x_p.on bw1
  go_wp2_with (go_at_call 38;fail)
  refine(rlIn s1 d1 l1 c1 x w1 r1 (few_i64 HX.out) hx.symm).mono ?_
  rintro e w2 ⟨rfl,bw2⟩
  have zbw2:=bw2.size
  replace BB:=also BB bw2
  replace x_p:=x_p.on bw2
  replace r1:=r1.below bw2
  have⟨x_p_0,x_p_1,x_p_2,x_p_3⟩:=x_p
  go_wp2_with (go_at_call 39;fail)
  refine(rwLong y w2 HY.out.1 HY.out.2).mono ?_
  rintro e w3 ⟨s3,d3,l3,c3,rfl,r3,f3,bw3⟩
  clear x_p_0 x_p_1 x_p_2 x_p_3
  have zbw3:=bw3.size
  replace BB:=also BB bw3
  replace x_p:=x_p.on bw3
  replace r1:=r1.below bw3
  go_wp2_with (go_at_call 38;fail)
  refine(rlIn s3 d3 l3 c3 y w3 r3 (few_i64 HY.out) rfl).mono ?_
  rintro e w4 ⟨rfl,bw4⟩
  have zbw4:=bw4.size
  replace BB:=also BB bw4
  replace x_p:=x_p.on bw4
  replace r1:=r1.below bw4
  replace r3:=r3.below bw4
  go_wp2
  go_ret
  exact⟨by simp,BB⟩
end Go.Proofs.YtaadknpjbogkbaaGreat
