/-
  Joined texts, part 10:
  What walk's goAcross answers, over what the mesh must do.
  What walk's Find answers of no mesh.
  Layer 12's law: Side.
-/
import Derived.Test.YtaadknpjbogkbaaP8
import Derived.Test.YtaadknpjbogkbaaP9
import Derived.Test.YtaadknpjbogkbaaP2
import Derived.Test.YtaadknpjbogkbaaP7
import Derived.Test.YtaadknpjbogkbaaP6
namespace Go.Proofs.Ytaadknpjbogkbaa
open Go.RowKit
set_option linter.unusedVariables false
abbrev mvL(S:Ms)(t:Tr)(x y:Int):List Value:= [.int .i64 (mvX S t 0 x), .int .i64 (mvY S t 0 y), .int .i64 (mvX S t 1 x), .int .i64 (mvY S t 1 y), .int .i64 (mvX S t 2 x), .int .i64 (mvY S t 2 y)]
theorem corn_all{S:Ms}{t:Tr}{x y:Int}(h:mvAll S t x y=true):coV S t x y= .agg (mvL S t x y).toArray:=by
 unfold coV coX coY
 rw [h]
 rfl
set_option maxRecDepth 100000 in
set_option maxHeartbeats 16000000 in
theorem wGo{MP:MeShape}(HSp:MeSp MP):GoSpec MP:=by
 intro base pp S m F w HP O hm c0 q1 q2 K hc0 hq hK
 obtain⟨W,hW⟩: ∃ W,W=((w.alloc (.cells #[ptR pp, .int .i64 q1, .int .i64 q2] 39)).alloc (.cells #[.int .i64 0, .int .i64 0, .int .i64 0] 43)):=⟨_,rfl⟩
 have bW:Below w.heap.size w W:=by rw [hW];exact(((Below.refl _ _).alloc (Nat.le_refl _) _).alloc (by simp<;>omega) _)
 have zW:W.heap.size=w.heap.size+2:=by rw [hW];simp
 have Rw:Row W (w.heap.size) [ptR pp, .int .i64 q1, .int .i64 q2]:=by
  have h0:=Row.new w [ptR pp, .int .i64 q1, .int .i64 q2] 39
  rw [hW];exact(h0.alloc _ (by simp<;>omega))
 have lw:w.heap.size<W.heap.size:=by omega
 have Rr:Row W (w.heap.size+1) [.int .i64 0, .int .i64 0, .int .i64 0]:=by
  have h0:=Row.new (w.alloc (.cells #[ptR pp, .int .i64 q1, .int .i64 q2] 39)) [.int .i64 0, .int .i64 0, .int .i64 0] 43
  simp only [World.size_alloc]at h0
  rw [hW];exact h0
 have lr:w.heap.size+1<W.heap.size:=by omega
 have HW:((w.alloc (.cells #[ptR pp, .int .i64 q1, .int .i64 q2] 39)).alloc (.cells #[.int .i64 0, .int .i64 0, .int .i64 0] 43))=W:=hW.symm
 clear hW
 have HPP:Hid _:=HP
 have HO:Hid _:=O
 have CC:Hid (∀ (w':World) (c:Ce) (x y:Int),c∈S.C→Below w.heap.size w w'→Calls Try.prog 21 #[.agg #[ptR pp, .int .i64 q1, .int .i64 q2], .agg #[.int .i64 c.no, .int .i64 x, .int .i64 y]] w' fun e w''=>CornIs S c.t x y e∧Below w'.heap.size w' w''):=fun w' c x y hc hb=>wCorners HSp base pp S m F w' (HSp.below HP hb) O hm c hc x y q1 q2
 have CA:Hid (∀ (w':World) (c:Ce) (x y:Int) (j:Nat),c∈S.C→Below w.heap.size w w'→j<3→(-4398046511104≤x∧x≤4398046511104)→(-4398046511104≤y∧y≤4398046511104)→Calls Try.prog 23 #[.agg #[ptR pp, .int .i64 q1, .int .i64 q2], .agg #[.int .i64 c.no, .int .i64 x, .int .i64 y], .int .i64 (j:Int)] w' fun e w''=>StepIs (stepC S c j) x y e∧Below w'.heap.size w' w''):=fun w' c x y j hc hb hj hx hy=>wAcross HSp base pp S m F w' (HSp.below HP hb) O hm c hc x y q1 q2 j hj hx hy
 have CO:Hid (∀ (w':World) (c:Ce) (x y r:Int),mvAll S c.t x y=true→r=outK S c.t x y q1 q2→Calls Try.prog 22 #[.agg #[ptR pp, .int .i64 q1, .int .i64 q2], .agg (mvL S c.t x y).toArray] w' fun e w''=>e= .returned (.int .i64 r)∧Below w'.heap.size w' w''):=fun w' c x y r h hr=>by
  obtain⟨m0,m1,m2⟩:=mvAll_iff.1 h
  exact wOutside pp _ _ _ _ _ _ q1 q2 w' (mvd_can m0) (mvd_can m1) (mvd_can m2) hq hr
 obtain⟨fc,hfc⟩: ∃ x,x=c0.no:=⟨_,rfl⟩
 have HFC:Hid _:=hfc
 obtain⟨G,hG⟩: ∃ G,G=goW S q1 q2 K c0 0 0:=⟨_,rfl⟩
 have HGG:Hid _:=hG
 rw [←hG,←hfc]
 obtain⟨hb,hhb⟩: ∃ x,x=W.heap.size:=⟨_,rfl⟩
 obtain⟨w3,hw3⟩: ∃ w3,w3=W.alloc (.cells #[.int .i64 fc, .int .i64 0, .int .i64 0] 43):=⟨_,rfl⟩
 have k3:Below W.heap.size W w3:=by rw [hw3];exact(Below.refl _ _).alloc (Nat.le_refl _) _
 have R3:Row w3 hb [.int .i64 fc, .int .i64 0, .int .i64 0]:=by rw [hw3,hhb];exact Row.new W [.int .i64 fc, .int .i64 0, .int .i64 0] _
 have l3:hb<w3.heap.size:=by rw [hw3,hhb];simp
 have lhb:w.heap.size+2≤hb:=by omega
 have z3:=k3.size
 have B3:=bW.trans (k3.mono (by omega))
 have H3:Hid _:=hw3.symm
 have HHB:Hid (w.heap.size+2=hb):=by unfold Hid;omega
 have RH3:Hid (Row w3 hb [.int .i64 c0.no, .int .i64 0, .int .i64 0]):=by rw [←HFC.out];exact R3
 have HB3:Hid _:=B3
 have HRW:Hid (Row w3 w.heap.size [ptR pp, .int .i64 q1, .int .i64 q2]):=Rw.below k3 lw
 have HRR:Hid (Row w3 (w.heap.size+1) [.int .i64 0, .int .i64 0, .int .i64 0]):=Rr.below k3 lr
 have HGS:Hid (G=((goW S q1 q2 K c0 0 0).1,(goW S q1 q2 K c0 0 0).2+0)):=by unfold Hid;rw [HGG.out];rfl
 clear HP O hm hq hfc hG hw3 hhb R3 B3 k3 Rw Rr
 go_enter Try.func11,Try.ntmps11
 go_wp2
 rw [H3.out,HHB.out]
 clear HW H3 HHB
 go_loopw [10] (fun sv wr=> ∃ (c:Ce) (x y:Int) (st k:Nat),c∈S.C∧sv= .int .i64 (st:Int)∧Hid (st+k=K)∧Hid (G=((goW S q1 q2 k c x y).1,(goW S q1 q2 k c x y).2+st))∧Hid (Row wr hb [.int .i64 c.no, .int .i64 x, .int .i64 y])∧Keep (fun k=>k=hb) w3 wr) (fun sv _=>K- (Go.RowKit.intOf sv).toNat)
 case atStart=>exact⟨c0,0,0,0,K,hc0,rfl,by unfold Hid;omega,HGS,RH3,Keep.refl _ _⟩
 case round=>
  clear HGS HGG RH3 HFC
  obtain⟨c,x,y,st,k,hc,rfl,HK,HG,HRH,kr⟩:=hrel
  obtain⟨wv,hwv⟩: ∃ w,w=wr:=⟨_,rfl⟩
  rw [←hwv]at kr HRH ⊢
  clear hwv
  have zv:=kr.size
  have kv:Below w.heap.size w wv:=HB3.out.trans (kr.below (B:=w.heap.size) (by omega) (fun k e=>by omega))
  have hst:st≤1000:=by have:=HK.out;omega
  obtain⟨no,hno⟩: ∃ f,f=c.no:=⟨_,rfl⟩
  have HC:Hid _:=hc
  have CCx:Hid (Calls Try.prog 21 #[.agg #[ptR pp, .int .i64 q1, .int .i64 q2], .agg #[.int .i64 no, .int .i64 x, .int .i64 y]] wv fun e w''=>CornIs S c.t x y e∧Below wv.heap.size wv w''):=by
   rw [hno]
   exact CC.out wv c x y hc kv
  have RHv:Row wv hb [.int .i64 no, .int .i64 x, .int .i64 y]:=by rw [hno];exact HRH.out
  have RWv:=HRW.out.keep kr (by omega) (by omega)
  have RRv:=HRR.out.keep kr (by omega) (by omega)
  have v0:=RWv.cell 0 _ rfl
  have v1:=RWv.cell 1 _ rfl
  have v2:=RWv.cell 2 _ rfl
  have h0:=RHv.cell 0 _ rfl
  have h1:=RHv.cell 1 _ rfl
  have h2:=RHv.cell 2 _ rfl
  have HNO:Hid _:=hno
  have lbv:hb<wv.heap.size:=by omega
  have lwv:w.heap.size<wv.heap.size:=by omega
  have lrv:w.heap.size+1<wv.heap.size:=by omega
  clear hno hc HRH
  go_wp2_with (go_at_call 21;fail)
  refine Calls.mono CCx.out ?_
  rintro e w4 ⟨he,b4⟩
  have z4:=b4.size
  have k4:Keep (fun k=>k=hb) w3 w4:=kr.to b4
  have kv4:Below w.heap.size w w4:=kv.trans (b4.mono (by omega))
  have RH4:=RHv.below b4 lbv
  have RW4:=RWv.below b4 lwv
  have RR4:=RRv.below b4 lrv
  unfold CornIs at he
  clear CCx v0 v1 v2 h0 h1 h2 RHv RWv RRv kr kv b4
  cases hma:mvAll S c.t x y with
  |false=>
   unfold coV coX coY at he
   rw [hma]at he
   have he:e= .returned (.tuple #[.agg #[.int .i64 0, .int .i64 0, .int .i64 0, .int .i64 0, .int .i64 0, .int .i64 0], .bool false]):=he
   subst he
   have HFI:Hid (GoIs G (.returned (.tuple #[.agg #[.int .i64 0, .int .i64 0, .int .i64 0], .int .i64 (st:Int), .bool false]))):=by
    unfold Hid
    rw [HG.out,goW_far (by unfold outI;rw [if_neg (by rw [hma];decide)])]
    unfold GoIs
    simp
   have k5:Below w4.heap.size w4 (w4.alloc (.cells #[.int .i64 0, .int .i64 0, .int .i64 0, .int .i64 0, .int .i64 0, .int .i64 0] 75)):=(Below.refl _ _).alloc (Nat.le_refl _) _
   have RR5:=RR4.below k5 (by omega)
   have B5:=kv4.trans (k5.mono (by omega))
   clear HG hma RH4 RW4 RR4 k5
   have o0:=RR5.cell 0 _ rfl
   have f0:=RR5.free 0 (by simp)
   have o1:=RR5.cell 1 _ rfl
   have f1:=RR5.free 1 (by simp)
   have o2:=RR5.cell 2 _ rfl
   have f2:=RR5.free 2 (by simp)
   have RX:=(((RR5.set 0 (.int .i64 0) (by simp)).set 1 (.int .i64 0) (by simp)).set 2 (.int .i64 0) (by simp))
   have BZ:=(((B5.setCell (p:=⟨w.heap.size+1,0,none⟩) (by simp) (.int .i64 0)).setCell (p:=⟨w.heap.size+1,1,none⟩) (by simp) (.int .i64 0)).setCell (p:=⟨w.heap.size+1,2,none⟩) (by simp) (.int .i64 0))
   have n0:=RX.cell 0 _ rfl
   have n1:=RX.cell 1 _ rfl
   have n2:=RX.cell 2 _ rfl
   clear RX RR5
   go_wp2
   exact bodyPost_ret (v:= .tuple #[.agg #[.int .i64 0, .int .i64 0, .int .i64 0], .int .i64 (st:Int), .bool false]) (by simp [results,Try.results11,go_sem, *]) rfl ⟨HFI.out,BZ⟩
  |true=>
   rw [hma,corn_all hma]at he
   obtain⟨a0,ha0⟩: ∃ a,a=mvX S c.t 0 x:=⟨_,rfl⟩
   obtain⟨b0,hb0⟩: ∃ a,a=mvY S c.t 0 y:=⟨_,rfl⟩
   obtain⟨a1,ha1⟩: ∃ a,a=mvX S c.t 1 x:=⟨_,rfl⟩
   obtain⟨b1,hb1⟩: ∃ a,a=mvY S c.t 1 y:=⟨_,rfl⟩
   obtain⟨a2,ha2⟩: ∃ a,a=mvX S c.t 2 x:=⟨_,rfl⟩
   obtain⟨b2,hb2⟩: ∃ a,a=mvY S c.t 2 y:=⟨_,rfl⟩
   have he:e= .returned (.tuple #[.agg #[.int .i64 a0, .int .i64 b0, .int .i64 a1, .int .i64 b1, .int .i64 a2, .int .i64 b2], .bool true]):=by rw [ha0,hb0,ha1,hb1,ha2,hb2];exact he
   subst he
   obtain⟨i,hi⟩: ∃ i,i=outK S c.t x y q1 q2:=⟨_,rfl⟩
   have HI:Hid (outI S c.t x y q1 q2=i):=by unfold Hid outI;rw [if_pos hma,hi]
   have hcs:i= -1∨0≤i∧i<3:=by
    rcases out_cases S c.t x y q1 q2 with⟨h,_⟩|⟨_,_,h⟩
    ·rw [hma]at h;cases h
    ·rw [←hi]at h;omega
   have COx:Hid (∀ w',Calls Try.prog 22 #[.agg #[ptR pp, .int .i64 q1, .int .i64 q2], .agg #[.int .i64 a0, .int .i64 b0, .int .i64 a1, .int .i64 b1, .int .i64 a2, .int .i64 b2]] w' fun e w''=>e= .returned (.int .i64 i)∧Below w'.heap.size w' w''):=fun w'=>by
    rw [ha0,hb0,ha1,hb1,ha2,hb2]
    exact CO.out w' c x y i hma hi
   have hmv:=mv_small (mvAll_iff.1 hma).1
   obtain⟨ab,hab⟩: ∃ x,x=w4.heap.size:=⟨_,rfl⟩
   obtain⟨w5,hw5⟩: ∃ w5,w5=w4.alloc (.cells #[.int .i64 a0, .int .i64 b0, .int .i64 a1, .int .i64 b1, .int .i64 a2, .int .i64 b2] 75):=⟨_,rfl⟩
   have k5:Below w4.heap.size w4 w5:=by rw [hw5];exact(Below.refl _ _).alloc (Nat.le_refl _) _
   have RA5:Row w5 ab [.int .i64 a0, .int .i64 b0, .int .i64 a1, .int .i64 b1, .int .i64 a2, .int .i64 b2]:=by rw [hw5,hab];exact Row.new w4 [.int .i64 a0, .int .i64 b0, .int .i64 a1, .int .i64 b1, .int .i64 a2, .int .i64 b2] _
   have z5:=k5.size
   have RH5:=RH4.below k5 (by omega)
   have RW5:=RW4.below k5 (by omega)
   have RR5:=RR4.below k5 (by omega)
   have kv5:Below w.heap.size w w5:=kv4.trans (k5.mono (by omega))
   have kr5:Keep (fun k=>k=hb) w3 w5:=k4.to k5
   have H5:Hid _:=hw5.symm
   have HAB:Hid _:=hab.symm
   have v0:=RW5.cell 0 _ rfl
   have v1:=RW5.cell 1 _ rfl
   have v2:=RW5.cell 2 _ rfl
   have s0:=RA5.cell 0 _ rfl
   have s1:=RA5.cell 1 _ rfl
   have s2:=RA5.cell 2 _ rfl
   have s3:=RA5.cell 3 _ rfl
   have s4:=RA5.cell 4 _ rfl
   have s5:=RA5.cell 5 _ rfl
   clear hi ha0 hb0 ha1 hb1 ha2 hb2 hma hab hw5 RH4 RW4 RR4 k4 k5 kv4 RA5
   go_upto_region 5 with fail
   rw [H5.out,HAB.out]
   clear H5 HAB
   go_wp2_with (go_at_call 22;fail)
   refine Calls.mono (COx.out _) ?_
   rintro e w6 ⟨rfl,b6⟩
   have z6:=b6.size
   have k6:Keep (fun k=>k=hb) w3 w6:=kr5.to b6
   have kv6:Below w.heap.size w w6:=kv5.trans (b6.mono (by omega))
   have RH6:=RH5.below b6 (by omega)
   have RW6:=RW5.below b6 (by omega)
   have RR6:=RR5.below b6 (by omega)
   have h0:=RH6.cell 0 _ rfl
   have h1:=RH6.cell 1 _ rfl
   have h2:=RH6.cell 2 _ rfl
   clear COx v0 v1 v2 s0 s1 s2 s3 s4 s5 RH5 RW5 RR5 kr5 kv5 b6
   by_cases hin:i= -1
   ·have HFI:Hid (GoIs G (.returned (.tuple #[.agg #[.int .i64 no, .int .i64 x, .int .i64 y], .int .i64 (st:Int), .bool true]))):=by
     unfold Hid
     rw [HG.out,goW_here (HI.out.trans hin),HNO.out]
     unfold GoIs
     simp
    subst hin
    clear HG HI hcs hmv
    have o0:=RR6.cell 0 _ rfl
    have f0:=RR6.free 0 (by simp)
    have o1:=RR6.cell 1 _ rfl
    have f1:=RR6.free 1 (by simp)
    have o2:=RR6.cell 2 _ rfl
    have f2:=RR6.free 2 (by simp)
    have RX:=(((RR6.set 0 (.int .i64 no) (by simp)).set 1 (.int .i64 x) (by simp)).set 2 (.int .i64 y) (by simp))
    have BZ:=(((kv6.setCell (p:=⟨w.heap.size+1,0,none⟩) (by simp) (.int .i64 no)).setCell (p:=⟨w.heap.size+1,1,none⟩) (by simp) (.int .i64 x)).setCell (p:=⟨w.heap.size+1,2,none⟩) (by simp) (.int .i64 y))
    have n0:=RX.cell 0 _ rfl
    have n1:=RX.cell 1 _ rfl
    have n2:=RX.cell 2 _ rfl
    clear RX RR6
    go_wp2
    exact bodyPost_ret (v:= .tuple #[.agg #[.int .i64 no, .int .i64 x, .int .i64 y], .int .i64 (st:Int), .bool true]) (by simp [results,Try.results11,go_sem, *]) rfl ⟨HFI.out,BZ⟩
   ·obtain⟨j,hj⟩: ∃ j:Nat,i=(j:Int):=⟨i.toNat,by omega⟩
    have hj3:j<3:=by omega
    have hpos: ¬(i<0):=by omega
    have HJ:Hid _:=hj
    clear hcs hin hj
    by_cases hk0:k=0
    ·have HFI:Hid (GoIs G (.returned (.tuple #[.agg #[.int .i64 0, .int .i64 0, .int .i64 0], .int .i64 (st:Int), .bool false]))):=by
      unfold Hid
      rw [HG.out,hk0,goW_dry (by rw [HI.out];omega)]
      unfold GoIs
      simp
     have heq:((st:Int)==(K:Int))=true:=by have:=HK.out;simp;omega
     clear HG HI hmv
     have o0:=RR6.cell 0 _ rfl
     have f0:=RR6.free 0 (by simp)
     have o1:=RR6.cell 1 _ rfl
     have f1:=RR6.free 1 (by simp)
     have o2:=RR6.cell 2 _ rfl
     have f2:=RR6.free 2 (by simp)
     have RX:=(((RR6.set 0 (.int .i64 0) (by simp)).set 1 (.int .i64 0) (by simp)).set 2 (.int .i64 0) (by simp))
     have BZ:=(((kv6.setCell (p:=⟨w.heap.size+1,0,none⟩) (by simp) (.int .i64 0)).setCell (p:=⟨w.heap.size+1,1,none⟩) (by simp) (.int .i64 0)).setCell (p:=⟨w.heap.size+1,2,none⟩) (by simp) (.int .i64 0))
     have n0:=RX.cell 0 _ rfl
     have n1:=RX.cell 1 _ rfl
     have n2:=RX.cell 2 _ rfl
     clear RX RR6
     go_wp2
     exact bodyPost_ret (v:= .tuple #[.agg #[.int .i64 0, .int .i64 0, .int .i64 0], .int .i64 (st:Int), .bool false]) (by simp [results,Try.results11,go_sem, *]) rfl ⟨HFI.out,BZ⟩
    ·obtain⟨k',rfl⟩: ∃ k',k=k'+1:=⟨k- 1,by omega⟩
     have heq:((st:Int)==(K:Int))=false:=beq_eq_false_iff_ne.2 (by have:=HK.out;omega)
     have v0:=RW6.cell 0 _ rfl
     have v1:=RW6.cell 1 _ rfl
     have v2:=RW6.cell 2 _ rfl
     have CX:Hid (Calls Try.prog 23 #[.agg #[ptR pp, .int .i64 q1, .int .i64 q2], .agg #[.int .i64 no, .int .i64 x, .int .i64 y], .int .i64 i] w6 fun e w''=>StepIs (stepC S c j) x y e∧Below w6.heap.size w6 w''):=by
      rw [HNO.out,HJ.out]
      exact CA.out w6 c x y j HC.out kv6 hj3 (by omega) (by omega)
     go_wp2_with (go_at_call 23;fail)
     refine Calls.mono CX.out ?_
     rintro e w7 ⟨he,b7⟩
     have k7:Keep (fun k=>k=hb) w3 w7:=k6.to b7
     have z7:=b7.size
     have kv7:Below w.heap.size w w7:=kv6.trans (b7.mono (by have:=kv6.size;omega))
     have RH7:=RH6.below b7 (by omega)
     have RR7:=RR6.below b7 (by omega)
     have zk7:=kv7.size
     clear CX v0 v1 v2 h0 h1 h2 RH6 RW6 RR6 b7 kv6 k6
     cases hs:stepC S c j with
     |none=>
      rw [hs]at he
      have he:e=_:=he
      subst he
      have HFI:Hid (GoIs G (.returned (.tuple #[.agg #[.int .i64 0, .int .i64 0, .int .i64 0], .int .i64 (st:Int), .bool false]))):=by
       unfold Hid
       rw [HG.out,goW_out (by rw [HI.out];omega) (by rw [HI.out,HJ.out];exact hs)]
       unfold GoIs
       simp
      have k8:Below w7.heap.size w7 (w7.alloc (.cells #[.int .i64 0, .int .i64 0, .int .i64 0] 43)):=(Below.refl _ _).alloc (Nat.le_refl _) _
      have RR8:=RR7.below k8 (by omega)
      have B8:=kv7.trans (k8.mono zk7)
      clear HG HI hs hmv
      have o0:=RR8.cell 0 _ rfl
      have f0:=RR8.free 0 (by simp)
      have o1:=RR8.cell 1 _ rfl
      have f1:=RR8.free 1 (by simp)
      have o2:=RR8.cell 2 _ rfl
      have f2:=RR8.free 2 (by simp)
      have RX:=(((RR8.set 0 (.int .i64 0) (by simp)).set 1 (.int .i64 0) (by simp)).set 2 (.int .i64 0) (by simp))
      have BZ:=(((B8.setCell (p:=⟨w.heap.size+1,0,none⟩) (by simp) (.int .i64 0)).setCell (p:=⟨w.heap.size+1,1,none⟩) (by simp) (.int .i64 0)).setCell (p:=⟨w.heap.size+1,2,none⟩) (by simp) (.int .i64 0))
      have n0:=RX.cell 0 _ rfl
      have n1:=RX.cell 1 _ rfl
      have n2:=RX.cell 2 _ rfl
      clear RX RR8
      go_wp2
      exact bodyPost_ret (v:= .tuple #[.agg #[.int .i64 0, .int .i64 0, .int .i64 0], .int .i64 (st:Int), .bool false]) (by simp [results,Try.results11,go_sem, *]) rfl ⟨HFI.out,BZ⟩
     |some r=>
      obtain⟨d,dx,dy⟩:=r
      have hsm:=stepC_small HO.out HC.out hj3 hs
      obtain⟨hdm,hs1,hs2⟩:=hsm
      have hdm:d∈S.C:=hdm
      obtain⟨X,hX⟩: ∃ X,X=x+dx:=⟨_,rfl⟩
      obtain⟨Y,hY⟩: ∃ Y,Y=y+dy:=⟨_,rfl⟩
      obtain⟨gn,hgn⟩: ∃ g,g=d.no:=⟨_,rfl⟩
      rw [hs]at he
      have he:e= .returned (.tuple #[.agg #[.int .i64 d.no, .int .i64 (x+dx), .int .i64 (y+dy)], .bool true]):=he
      rw [←hX,←hY,←hgn]at he
      subst he
      have HG1:Hid (G=((goW S q1 q2 k' d X Y).1,(goW S q1 q2 k' d X Y).2+(st+1))):=by
       unfold Hid
       rw [HG.out,goW_step (r:=(d,dx,dy)) (by rw [HI.out];omega) (by rw [HI.out,HJ.out];exact hs),hX,hY]
       simp only
       rw [Nat.add_assoc,Nat.add_comm 1 st]
      obtain⟨nb,hnb⟩: ∃ x,x=w7.heap.size:=⟨_,rfl⟩
      obtain⟨w8,hw8⟩: ∃ w8,w8=w7.alloc (.cells #[.int .i64 gn, .int .i64 X, .int .i64 Y] 43):=⟨_,rfl⟩
      have k8:Below w7.heap.size w7 w8:=by rw [hw8];exact(Below.refl _ _).alloc (Nat.le_refl _) _
      have R8:Row w8 nb [.int .i64 gn, .int .i64 X, .int .i64 Y]:=by rw [hw8,hnb];exact Row.new w7 [.int .i64 gn, .int .i64 X, .int .i64 Y] _
      have lnh:hb<nb:=by omega
      have K8:Keep (fun k=>k=hb) w3 w8:=k7.to k8
      have RH8:=RH7.below k8 (by omega)
      have e0:=R8.cell 0 _ rfl
      have e1:=R8.cell 1 _ rfl
      have e2:=R8.cell 2 _ rfl
      have u0:=RH8.cell 0 _ rfl
      have u1:=RH8.cell 1 _ rfl
      have u2:=RH8.cell 2 _ rfl
      have u3:=RH8.free 0 (by simp)
      have u4:=RH8.free 1 (by simp)
      have u5:=RH8.free 2 (by simp)
      have KF:Keep (fun k=>k=hb) w3 (((w8.setCell ⟨hb,0,none⟩ (.int .i64 gn)).setCell ⟨hb,1,none⟩ (.int .i64 X)).setCell ⟨hb,2,none⟩ (.int .i64 Y)):=((K8.set (p:=⟨hb,0,none⟩) (Or.inl rfl) _).set (p:=⟨hb,1,none⟩) (Or.inl rfl) _).set (p:=⟨hb,2,none⟩) (Or.inl rfl) _
      have RHF:Hid (Row (((w8.setCell ⟨hb,0,none⟩ (.int .i64 gn)).setCell ⟨hb,1,none⟩ (.int .i64 X)).setCell ⟨hb,2,none⟩ (.int .i64 Y)) hb [.int .i64 d.no, .int .i64 X, .int .i64 Y]):=by
       have:=((RH8.set 0 (.int .i64 gn) (by simp)).set 1 (.int .i64 X) (by simp)).set 2 (.int .i64 Y) (by simp)
       rw [←hgn]
       exact this
      have HKK:Hid (st+1+k'=K):=by unfold Hid;rw [←HK.out];omega
      have H8:Hid _:=hw8.symm
      have HNB:Hid _:=hnb.symm
      have HKF:Hid _:=KF
      clear HG HI hs hmv hs1 hs2 hX hY hgn hw8 hnb R8 RH8 RH7 RR7 kv7 k7 K8 KF k8
      go_upto_region 13 with fail
      rw [H8.out,HNB.out]
      clear H8 HNB
      go_wp2
      go_roundw
      case rel=>exact⟨d,X,Y,st+1,k',hdm,by simp,HKK,HG1,RHF,HKF.out⟩
      case measure=>have:=HKK.out;simp [Go.RowKit.intOf];omega
set_option maxRecDepth 100000 in
set_option maxHeartbeats 8000000 in
theorem wFindNil(HN:MeNone)(w:World)(f p1 p2 fuel:Int):
  Calls Try.prog 4 #[.pointer none, .int .i64 f, .agg #[.int .i64 p1, .int .i64 p2], .int .i64 fuel] w fun e w'=>FindIs noFnd e∧Below w.heap.size w w':=by
 obtain⟨W,hW⟩: ∃ W,W=((w.alloc (.cells #[.int .i64 p1, .int .i64 p2] 23)).alloc (.cells #[.int .i64 0, .int .i64 0] 27)):=⟨_,rfl⟩
 have bW:Below w.heap.size w W:=by rw [hW];exact(((Below.refl _ _).alloc (Nat.le_refl _) _).alloc (by simp<;>omega) _)
 have zW:W.heap.size=w.heap.size+2:=by rw [hW];simp
 have Rp:Row W (w.heap.size) [.int .i64 p1, .int .i64 p2]:=by
  have h0:=Row.new w [.int .i64 p1, .int .i64 p2] 23
  rw [hW];exact(h0.alloc _ (by simp<;>omega))
 have lp:w.heap.size<W.heap.size:=by omega
 have Rr:Row W (w.heap.size+1) [.int .i64 0, .int .i64 0]:=by
  have h0:=Row.new (w.alloc (.cells #[.int .i64 p1, .int .i64 p2] 23)) [.int .i64 0, .int .i64 0] 27
  simp only [World.size_alloc]at h0
  rw [hW];exact h0
 have lr:w.heap.size+1<W.heap.size:=by omega
 have HW:((w.alloc (.cells #[.int .i64 p1, .int .i64 p2] 23)).alloc (.cells #[.int .i64 0, .int .i64 0] 27))=W:=hW.symm
 clear hW
 have CS:Hid (∀ w',Below W.heap.size W w'→Calls Try.prog 9 #[.pointer none] w' fun e w''=>e= .returned (.int .i64 0)∧Below w'.heap.size w' w''):=fun w' _=>HN.side w'
 have CH:Hid (∀ w',Calls Try.prog 8 #[.agg #[.int .i64 p1, .int .i64 p2], .int .i64 0] w' fun e w''=>e= .returned (.tuple #[.agg #[.int .i64 0, .int .i64 0], .agg #[.int .i64 0, .int .i64 0], .bool false])∧Below w'.heap.size w' w''):=fun w'=>lHome p1 p2 0 w' (b:=false) (by unfold homeC;rfl) rfl rfl rfl rfl
 have HR:Hid (FindIs noFnd (.returned (.tuple #[.int .i64 (-1), .agg #[.int .i64 0, .int .i64 0], .int .i64 0, .bool false]))):=rfl
 have d0:=Rp.cell 0 _ rfl
 have d1:=Rp.cell 1 _ rfl
 clear HN
 go_enter Try.func4,Try.ntmps4
 go_wp2
 clear HW
 have HSh:Hid (∀ w',Below W.heap.size W w'→(fun w'=>w'.cell? ⟨w.heap.size,0,none⟩=some (.int .i64 p1)∧w'.cell? ⟨w.heap.size,1,none⟩=some (.int .i64 p2)∧Below W.heap.size W w') w'):=by
  unfold Hid
  intro w' hb
  exact⟨(hb.cell (p:=⟨w.heap.size,0,none⟩) lp).trans d0,(hb.cell (p:=⟨w.heap.size,1,none⟩) lp).trans d1,hb⟩
 obtain⟨QQ,hQQ⟩: ∃ QQ:Exit→Go.Act→World→Prop,QQ=fun e act wz=>e= .normal∧ ∃ pa pc:Nat,act=⟨#[.pointer none, .int .i64 f, .agg #[.int .i64 p1, .int .i64 p2], .int .i64 fuel,undef,undef, .pointer (some ⟨w.heap.size,0,none⟩),undef, .int .i64 0, .pointer (some ⟨w.heap.size+1,0,none⟩), .int .i64 0, .bool false, .pointer (some ⟨pa,0,none⟩), .pointer (some ⟨pc,0,none⟩), .bool false,undef,undef,undef,undef, .tuple #[.agg #[.int .i64 0, .int .i64 0], .agg #[.int .i64 0, .int .i64 0], .bool false], .agg #[.int .i64 p1, .int .i64 p2], .pointer none, .int .i64 0, .tuple #[.agg #[.int .i64 0, .int .i64 0], .agg #[.int .i64 0, .int .i64 0], .bool false], .agg #[.int .i64 0, .int .i64 0], .agg #[.int .i64 0, .int .i64 0], .bool false,undef,undef,undef,undef,undef,undef,undef,undef,undef,undef,undef,undef,undef,undef,undef,undef,undef,undef,undef,undef,undef,undef,undef,undef,undef,undef,undef,undef,undef,undef,undef,undef,undef,undef,undef,undef,undef,undef,undef,undef,undef,undef], []⟩∧Row wz pa [.int .i64 0, .int .i64 0]∧Row wz pc [.int .i64 0, .int .i64 0]∧Below W.heap.size W wz∧W.heap.size≤pa∧pa<wz.heap.size∧W.heap.size≤pc∧pc<wz.heap.size:=⟨_,rfl⟩
 have HQQ:Hid _:=hQQ
 clear hQQ
 refine wp_mono (Q:=QQ) ?_ ?_
 ·refine wp_region_held_drew (S:=fun w'=>w'.cell? ⟨w.heap.size,0,none⟩=some (.int .i64 p1)∧w'.cell? ⟨w.heap.size,1,none⟩=some (.int .i64 p2)∧Below W.heap.size W w') (by kernel_rfl) ?_ (fun hHeld=>?_)
  ·exact HSh.out _ (Below.refl _ _).drew
  refine tQ 0 ?_
  simp only [Act.put,ps1,ps2,ps3]
  refine tQ 1 ?_
  simp only [Act.put,ps1,ps2,ps3]
  generalize W.drew=X0h at hHeld ⊢
  have gw:W.heap.size≤X0h.heap.size:=hHeld.2.2.size
  refine wpAnyH_ready (rs:= [2,8,9]) (by kernel_rfl) (by simp) (AllReadyH.cons (i:=2) rfl (fun Kc hK=>?_) (AllReadyH.cons (i:=8) rfl (fun Kc hK=>?_) (AllReadyH.cons (i:=9) rfl (fun Kc hK=>?_) AllReadyH.nil)))
  ·skip
   go_simp
   (go_at_call 9;refine Calls.mono (CS.out _ hHeld.2.2) ?_;rintro e X1h ⟨rfl,e1h⟩)
   refine hK.out _ _ (HSh.out _ (hHeld.2.2.trans (e1h.mono hHeld.2.2.size))) (fun hHeld=>?_)
   clear hK Kc
   replace gw:=Nat.le_trans gw e1h.size
   refine wpAnyH_ready (rs:= [3,8,9]) (by kernel_rfl) (by simp) (AllReadyH.cons (i:=3) rfl (fun Kc hK=>?_) (AllReadyH.cons (i:=8) rfl (fun Kc hK=>?_) (AllReadyH.cons (i:=9) rfl (fun Kc hK=>?_) AllReadyH.nil)))
   ·skip
    go_simp
    (go_at_call 8;refine Calls.mono (CH.out _) ?_;rintro e X2h ⟨rfl,e2h⟩)
    refine hK.out _ _ (HSh.out _ (hHeld.2.2.trans (e2h.mono hHeld.2.2.size))) (fun hHeld=>?_)
    clear hK Kc
    replace gw:=Nat.le_trans gw e2h.size
    refine tQ 4 ?_
    simp only [Act.put,ps1,ps2,ps3]
    refine tQ 5 ?_
    simp only [Act.put,ps1,ps2,ps3]
    refine tQ 6 ?_
    simp only [Act.put,ps1,ps2,ps3]
    refine tQ 7 ?_
    simp only [Act.put,ps1,ps2,ps3]
    refine wpAnyH_ready (rs:= [8,9]) (by kernel_rfl) (by simp) (AllReadyH.cons (i:=8) rfl (fun Kc hK=>?_) (AllReadyH.cons (i:=9) rfl (fun Kc hK=>?_) AllReadyH.nil))
    ·skip
     go_simp
     refine hK.out _ _ (HSh.out _ (hHeld.2.2.alloc hHeld.2.2.size _)) (fun hHeld=>?_)
     clear hK Kc
     have ypa:Row (X2h.alloc (.cells #[.int .i64 0, .int .i64 0] 23)) X2h.heap.size [.int .i64 0, .int .i64 0]:=Row.new X2h [.int .i64 0, .int .i64 0] 23
     have lpa:X2h.heap.size<(X2h.alloc (.cells #[.int .i64 0, .int .i64 0] 23)).heap.size:=by simp
     have gpa:W.heap.size≤X2h.heap.size:=gw
     replace gw:W.heap.size≤(X2h.alloc (.cells #[.int .i64 0, .int .i64 0] 23)).heap.size:=by simp;omega
     generalize X2h.alloc (.cells #[.int .i64 0, .int .i64 0] 23)=X3h at ypa lpa gw hHeld ⊢
     generalize X2h.heap.size=pa at ypa lpa gpa  ⊢
     refine tcl 9 fun Kc hK=>?_
     go_simp
     refine hK.out _ _ (HSh.out _ (hHeld.2.2.alloc hHeld.2.2.size _)) (fun hHeld=>?_)
     clear hK Kc
     have ypc:Row (X3h.alloc (.cells #[.int .i64 0, .int .i64 0] 27)) X3h.heap.size [.int .i64 0, .int .i64 0]:=Row.new X3h [.int .i64 0, .int .i64 0] 27
     have lpc:X3h.heap.size<(X3h.alloc (.cells #[.int .i64 0, .int .i64 0] 27)).heap.size:=by simp
     have gpc:W.heap.size≤X3h.heap.size:=gw
     have dpapc:pa<X3h.heap.size:=lpa
     replace ypa:=ypa.alloc (.cells #[.int .i64 0, .int .i64 0] 27) lpa
     replace lpa:pa<(X3h.alloc (.cells #[.int .i64 0, .int .i64 0] 27)).heap.size:=by simp;omega
     replace gw:W.heap.size≤(X3h.alloc (.cells #[.int .i64 0, .int .i64 0] 27)).heap.size:=by simp;omega
     generalize X3h.alloc (.cells #[.int .i64 0, .int .i64 0] 27)=X4h at ypa lpa ypc lpc gw hHeld ⊢
     generalize X3h.heap.size=pc at ypc lpc gpc dpapc ⊢
     have sc0:=ypa.cell 0 _ rfl
     have sf0:=ypa.free 0 (by simp)
     have sc1:=ypa.cell 1 _ rfl
     have sf1:=ypa.free 1 (by simp)
     refine tcl 10 fun Kc hK=>?_
     go_simp
     refine hK.out _ _ (HSh.out _ (((hHeld.2.2.setCell gpa _).setCell gpa _))) (fun hHeld=>?_)
     clear hK Kc sc0 sf0 sc1 sf1
     have zpa:=((ypa.set 0 (.int .i64 0) (by simp)).set 1 (.int .i64 0) (by simp))
     have vpcpa:=Row.keep ypc (((Keep.refl (fun z=>z=pa) _).set (p:=⟨pa,0,none⟩) (Or.inl rfl) (.int .i64 0)).set (p:=⟨pa,1,none⟩) (Or.inl rfl) (.int .i64 0)) (by first|exact lpc|simpa using lpc) (by omega)
     have sc0:=vpcpa.cell 0 _ rfl
     have sf0:=vpcpa.free 0 (by simp)
     have sc1:=vpcpa.cell 1 _ rfl
     have sf1:=vpcpa.free 1 (by simp)
     refine tcl 11 fun Kc hK=>?_
     go_simp
     refine hK.out _ _ (HSh.out _ (((hHeld.2.2.setCell gpc _).setCell gpc _))) (fun hHeld=>?_)
     clear hK Kc sc0 sf0 sc1 sf1
     have zpc:=((vpcpa.set 0 (.int .i64 0) (by simp)).set 1 (.int .i64 0) (by simp))
     have vpapc:=Row.keep zpa (((Keep.refl (fun z=>z=pc) _).set (p:=⟨pc,0,none⟩) (Or.inl rfl) (.int .i64 0)).set (p:=⟨pc,1,none⟩) (Or.inl rfl) (.int .i64 0)) (by first|exact lpa|simpa using lpa) (by omega)
     refine tQ 12 ?_
     simp only [Act.put,ps1,ps2,ps3]
     refine wpAnyH_done (by kernel_rfl) ?_ _
     rw [HQQ.out]
     exact⟨rfl,pa,pc,rfl,vpapc,zpc,hHeld.2.2,gpa,by simp only [World.size_setCell];exact lpa,gpc,by simp only [World.size_setCell];exact lpc⟩
    ·skip
     go_simp
     refine hK.out _ _ (HSh.out _ (hHeld.2.2.alloc hHeld.2.2.size _)) (fun hHeld=>?_)
     clear hK Kc
     have ypc:Row (X2h.alloc (.cells #[.int .i64 0, .int .i64 0] 27)) X2h.heap.size [.int .i64 0, .int .i64 0]:=Row.new X2h [.int .i64 0, .int .i64 0] 27
     have lpc:X2h.heap.size<(X2h.alloc (.cells #[.int .i64 0, .int .i64 0] 27)).heap.size:=by simp
     have gpc:W.heap.size≤X2h.heap.size:=gw
     replace gw:W.heap.size≤(X2h.alloc (.cells #[.int .i64 0, .int .i64 0] 27)).heap.size:=by simp;omega
     generalize X2h.alloc (.cells #[.int .i64 0, .int .i64 0] 27)=X5h at ypc lpc gw hHeld ⊢
     generalize X2h.heap.size=pc at ypc lpc gpc  ⊢
     refine tcl 8 fun Kc hK=>?_
     go_simp
     refine hK.out _ _ (HSh.out _ (hHeld.2.2.alloc hHeld.2.2.size _)) (fun hHeld=>?_)
     clear hK Kc
     have ypa:Row (X5h.alloc (.cells #[.int .i64 0, .int .i64 0] 23)) X5h.heap.size [.int .i64 0, .int .i64 0]:=Row.new X5h [.int .i64 0, .int .i64 0] 23
     have lpa:X5h.heap.size<(X5h.alloc (.cells #[.int .i64 0, .int .i64 0] 23)).heap.size:=by simp
     have gpa:W.heap.size≤X5h.heap.size:=gw
     have dpcpa:pc<X5h.heap.size:=lpc
     replace ypc:=ypc.alloc (.cells #[.int .i64 0, .int .i64 0] 23) lpc
     replace lpc:pc<(X5h.alloc (.cells #[.int .i64 0, .int .i64 0] 23)).heap.size:=by simp;omega
     replace gw:W.heap.size≤(X5h.alloc (.cells #[.int .i64 0, .int .i64 0] 23)).heap.size:=by simp;omega
     generalize X5h.alloc (.cells #[.int .i64 0, .int .i64 0] 23)=X6h at ypc lpc ypa lpa gw hHeld ⊢
     generalize X5h.heap.size=pa at ypa lpa gpa dpcpa ⊢
     have sc0:=ypa.cell 0 _ rfl
     have sf0:=ypa.free 0 (by simp)
     have sc1:=ypa.cell 1 _ rfl
     have sf1:=ypa.free 1 (by simp)
     refine tcl 10 fun Kc hK=>?_
     go_simp
     refine hK.out _ _ (HSh.out _ (((hHeld.2.2.setCell gpa _).setCell gpa _))) (fun hHeld=>?_)
     clear hK Kc sc0 sf0 sc1 sf1
     have zpa:=((ypa.set 0 (.int .i64 0) (by simp)).set 1 (.int .i64 0) (by simp))
     have vpcpa:=Row.keep ypc (((Keep.refl (fun z=>z=pa) _).set (p:=⟨pa,0,none⟩) (Or.inl rfl) (.int .i64 0)).set (p:=⟨pa,1,none⟩) (Or.inl rfl) (.int .i64 0)) (by first|exact lpc|simpa using lpc) (by omega)
     have sc0:=vpcpa.cell 0 _ rfl
     have sf0:=vpcpa.free 0 (by simp)
     have sc1:=vpcpa.cell 1 _ rfl
     have sf1:=vpcpa.free 1 (by simp)
     refine tcl 11 fun Kc hK=>?_
     go_simp
     refine hK.out _ _ (HSh.out _ (((hHeld.2.2.setCell gpc _).setCell gpc _))) (fun hHeld=>?_)
     clear hK Kc sc0 sf0 sc1 sf1
     have zpc:=((vpcpa.set 0 (.int .i64 0) (by simp)).set 1 (.int .i64 0) (by simp))
     have vpapc:=Row.keep zpa (((Keep.refl (fun z=>z=pc) _).set (p:=⟨pc,0,none⟩) (Or.inl rfl) (.int .i64 0)).set (p:=⟨pc,1,none⟩) (Or.inl rfl) (.int .i64 0)) (by first|exact lpa|simpa using lpa) (by omega)
     refine tQ 12 ?_
     simp only [Act.put,ps1,ps2,ps3]
     refine wpAnyH_done (by kernel_rfl) ?_ _
     rw [HQQ.out]
     exact⟨rfl,pa,pc,rfl,vpapc,zpc,hHeld.2.2,gpa,by simp only [World.size_setCell];exact lpa,gpc,by simp only [World.size_setCell];exact lpc⟩
   ·skip
    go_simp
    refine hK.out _ _ (HSh.out _ (hHeld.2.2.alloc hHeld.2.2.size _)) (fun hHeld=>?_)
    clear hK Kc
    have ypa:Row (X1h.alloc (.cells #[.int .i64 0, .int .i64 0] 23)) X1h.heap.size [.int .i64 0, .int .i64 0]:=Row.new X1h [.int .i64 0, .int .i64 0] 23
    have lpa:X1h.heap.size<(X1h.alloc (.cells #[.int .i64 0, .int .i64 0] 23)).heap.size:=by simp
    have gpa:W.heap.size≤X1h.heap.size:=gw
    replace gw:W.heap.size≤(X1h.alloc (.cells #[.int .i64 0, .int .i64 0] 23)).heap.size:=by simp;omega
    generalize X1h.alloc (.cells #[.int .i64 0, .int .i64 0] 23)=X7h at ypa lpa gw hHeld ⊢
    generalize X1h.heap.size=pa at ypa lpa gpa  ⊢
    refine wpAnyH_ready (rs:= [3,9]) (by kernel_rfl) (by simp) (AllReadyH.cons (i:=3) rfl (fun Kc hK=>?_) (AllReadyH.cons (i:=9) rfl (fun Kc hK=>?_) AllReadyH.nil))
    ·skip
     go_simp
     (go_at_call 8;refine Calls.mono (CH.out _) ?_;rintro e X8h ⟨rfl,e8h⟩)
     refine hK.out _ _ (HSh.out _ (hHeld.2.2.trans (e8h.mono hHeld.2.2.size))) (fun hHeld=>?_)
     clear hK Kc
     replace ypa:=ypa.below e8h lpa
     replace lpa:=Nat.lt_of_lt_of_le lpa e8h.size
     replace gw:=Nat.le_trans gw e8h.size
     refine tQ 4 ?_
     simp only [Act.put,ps1,ps2,ps3]
     refine tQ 5 ?_
     simp only [Act.put,ps1,ps2,ps3]
     refine tQ 6 ?_
     simp only [Act.put,ps1,ps2,ps3]
     refine tQ 7 ?_
     simp only [Act.put,ps1,ps2,ps3]
     refine tcl 9 fun Kc hK=>?_
     go_simp
     refine hK.out _ _ (HSh.out _ (hHeld.2.2.alloc hHeld.2.2.size _)) (fun hHeld=>?_)
     clear hK Kc
     have ypc:Row (X8h.alloc (.cells #[.int .i64 0, .int .i64 0] 27)) X8h.heap.size [.int .i64 0, .int .i64 0]:=Row.new X8h [.int .i64 0, .int .i64 0] 27
     have lpc:X8h.heap.size<(X8h.alloc (.cells #[.int .i64 0, .int .i64 0] 27)).heap.size:=by simp
     have gpc:W.heap.size≤X8h.heap.size:=gw
     have dpapc:pa<X8h.heap.size:=lpa
     replace ypa:=ypa.alloc (.cells #[.int .i64 0, .int .i64 0] 27) lpa
     replace lpa:pa<(X8h.alloc (.cells #[.int .i64 0, .int .i64 0] 27)).heap.size:=by simp;omega
     replace gw:W.heap.size≤(X8h.alloc (.cells #[.int .i64 0, .int .i64 0] 27)).heap.size:=by simp;omega
     generalize X8h.alloc (.cells #[.int .i64 0, .int .i64 0] 27)=X9h at ypa lpa ypc lpc gw hHeld ⊢
     generalize X8h.heap.size=pc at ypc lpc gpc dpapc ⊢
     have sc0:=ypa.cell 0 _ rfl
     have sf0:=ypa.free 0 (by simp)
     have sc1:=ypa.cell 1 _ rfl
     have sf1:=ypa.free 1 (by simp)
     refine tcl 10 fun Kc hK=>?_
     go_simp
     refine hK.out _ _ (HSh.out _ (((hHeld.2.2.setCell gpa _).setCell gpa _))) (fun hHeld=>?_)
     clear hK Kc sc0 sf0 sc1 sf1
     have zpa:=((ypa.set 0 (.int .i64 0) (by simp)).set 1 (.int .i64 0) (by simp))
     have vpcpa:=Row.keep ypc (((Keep.refl (fun z=>z=pa) _).set (p:=⟨pa,0,none⟩) (Or.inl rfl) (.int .i64 0)).set (p:=⟨pa,1,none⟩) (Or.inl rfl) (.int .i64 0)) (by first|exact lpc|simpa using lpc) (by omega)
     have sc0:=vpcpa.cell 0 _ rfl
     have sf0:=vpcpa.free 0 (by simp)
     have sc1:=vpcpa.cell 1 _ rfl
     have sf1:=vpcpa.free 1 (by simp)
     refine tcl 11 fun Kc hK=>?_
     go_simp
     refine hK.out _ _ (HSh.out _ (((hHeld.2.2.setCell gpc _).setCell gpc _))) (fun hHeld=>?_)
     clear hK Kc sc0 sf0 sc1 sf1
     have zpc:=((vpcpa.set 0 (.int .i64 0) (by simp)).set 1 (.int .i64 0) (by simp))
     have vpapc:=Row.keep zpa (((Keep.refl (fun z=>z=pc) _).set (p:=⟨pc,0,none⟩) (Or.inl rfl) (.int .i64 0)).set (p:=⟨pc,1,none⟩) (Or.inl rfl) (.int .i64 0)) (by first|exact lpa|simpa using lpa) (by omega)
     refine tQ 12 ?_
     simp only [Act.put,ps1,ps2,ps3]
     refine wpAnyH_done (by kernel_rfl) ?_ _
     rw [HQQ.out]
     exact⟨rfl,pa,pc,rfl,vpapc,zpc,hHeld.2.2,gpa,by simp only [World.size_setCell];exact lpa,gpc,by simp only [World.size_setCell];exact lpc⟩
    ·skip
     go_simp
     refine hK.out _ _ (HSh.out _ (hHeld.2.2.alloc hHeld.2.2.size _)) (fun hHeld=>?_)
     clear hK Kc
     have ypc:Row (X7h.alloc (.cells #[.int .i64 0, .int .i64 0] 27)) X7h.heap.size [.int .i64 0, .int .i64 0]:=Row.new X7h [.int .i64 0, .int .i64 0] 27
     have lpc:X7h.heap.size<(X7h.alloc (.cells #[.int .i64 0, .int .i64 0] 27)).heap.size:=by simp
     have gpc:W.heap.size≤X7h.heap.size:=gw
     have dpapc:pa<X7h.heap.size:=lpa
     replace ypa:=ypa.alloc (.cells #[.int .i64 0, .int .i64 0] 27) lpa
     replace lpa:pa<(X7h.alloc (.cells #[.int .i64 0, .int .i64 0] 27)).heap.size:=by simp;omega
     replace gw:W.heap.size≤(X7h.alloc (.cells #[.int .i64 0, .int .i64 0] 27)).heap.size:=by simp;omega
     generalize X7h.alloc (.cells #[.int .i64 0, .int .i64 0] 27)=X10h at ypa lpa ypc lpc gw hHeld ⊢
     generalize X7h.heap.size=pc at ypc lpc gpc dpapc ⊢
     refine tcl 3 fun Kc hK=>?_
     go_simp
     (go_at_call 8;refine Calls.mono (CH.out _) ?_;rintro e X11h ⟨rfl,e11h⟩)
     refine hK.out _ _ (HSh.out _ (hHeld.2.2.trans (e11h.mono hHeld.2.2.size))) (fun hHeld=>?_)
     clear hK Kc
     replace ypa:=ypa.below e11h lpa
     replace lpa:=Nat.lt_of_lt_of_le lpa e11h.size
     replace ypc:=ypc.below e11h lpc
     replace lpc:=Nat.lt_of_lt_of_le lpc e11h.size
     replace gw:=Nat.le_trans gw e11h.size
     refine tQ 4 ?_
     simp only [Act.put,ps1,ps2,ps3]
     refine tQ 5 ?_
     simp only [Act.put,ps1,ps2,ps3]
     refine tQ 6 ?_
     simp only [Act.put,ps1,ps2,ps3]
     refine tQ 7 ?_
     simp only [Act.put,ps1,ps2,ps3]
     have sc0:=ypa.cell 0 _ rfl
     have sf0:=ypa.free 0 (by simp)
     have sc1:=ypa.cell 1 _ rfl
     have sf1:=ypa.free 1 (by simp)
     refine tcl 10 fun Kc hK=>?_
     go_simp
     refine hK.out _ _ (HSh.out _ (((hHeld.2.2.setCell gpa _).setCell gpa _))) (fun hHeld=>?_)
     clear hK Kc sc0 sf0 sc1 sf1
     have zpa:=((ypa.set 0 (.int .i64 0) (by simp)).set 1 (.int .i64 0) (by simp))
     have vpcpa:=Row.keep ypc (((Keep.refl (fun z=>z=pa) _).set (p:=⟨pa,0,none⟩) (Or.inl rfl) (.int .i64 0)).set (p:=⟨pa,1,none⟩) (Or.inl rfl) (.int .i64 0)) (by first|exact lpc|simpa using lpc) (by omega)
     have sc0:=vpcpa.cell 0 _ rfl
     have sf0:=vpcpa.free 0 (by simp)
     have sc1:=vpcpa.cell 1 _ rfl
     have sf1:=vpcpa.free 1 (by simp)
     refine tcl 11 fun Kc hK=>?_
     go_simp
     refine hK.out _ _ (HSh.out _ (((hHeld.2.2.setCell gpc _).setCell gpc _))) (fun hHeld=>?_)
     clear hK Kc sc0 sf0 sc1 sf1
     have zpc:=((vpcpa.set 0 (.int .i64 0) (by simp)).set 1 (.int .i64 0) (by simp))
     have vpapc:=Row.keep zpa (((Keep.refl (fun z=>z=pc) _).set (p:=⟨pc,0,none⟩) (Or.inl rfl) (.int .i64 0)).set (p:=⟨pc,1,none⟩) (Or.inl rfl) (.int .i64 0)) (by first|exact lpa|simpa using lpa) (by omega)
     refine tQ 12 ?_
     simp only [Act.put,ps1,ps2,ps3]
     refine wpAnyH_done (by kernel_rfl) ?_ _
     rw [HQQ.out]
     exact⟨rfl,pa,pc,rfl,vpapc,zpc,hHeld.2.2,gpa,by simp only [World.size_setCell];exact lpa,gpc,by simp only [World.size_setCell];exact lpc⟩
   ·skip
    go_simp
    refine hK.out _ _ (HSh.out _ (hHeld.2.2.alloc hHeld.2.2.size _)) (fun hHeld=>?_)
    clear hK Kc
    have ypc:Row (X1h.alloc (.cells #[.int .i64 0, .int .i64 0] 27)) X1h.heap.size [.int .i64 0, .int .i64 0]:=Row.new X1h [.int .i64 0, .int .i64 0] 27
    have lpc:X1h.heap.size<(X1h.alloc (.cells #[.int .i64 0, .int .i64 0] 27)).heap.size:=by simp
    have gpc:W.heap.size≤X1h.heap.size:=gw
    replace gw:W.heap.size≤(X1h.alloc (.cells #[.int .i64 0, .int .i64 0] 27)).heap.size:=by simp;omega
    generalize X1h.alloc (.cells #[.int .i64 0, .int .i64 0] 27)=X12h at ypc lpc gw hHeld ⊢
    generalize X1h.heap.size=pc at ypc lpc gpc  ⊢
    refine wpAnyH_ready (rs:= [3,8]) (by kernel_rfl) (by simp) (AllReadyH.cons (i:=3) rfl (fun Kc hK=>?_) (AllReadyH.cons (i:=8) rfl (fun Kc hK=>?_) AllReadyH.nil))
    ·skip
     go_simp
     (go_at_call 8;refine Calls.mono (CH.out _) ?_;rintro e X13h ⟨rfl,e13h⟩)
     refine hK.out _ _ (HSh.out _ (hHeld.2.2.trans (e13h.mono hHeld.2.2.size))) (fun hHeld=>?_)
     clear hK Kc
     replace ypc:=ypc.below e13h lpc
     replace lpc:=Nat.lt_of_lt_of_le lpc e13h.size
     replace gw:=Nat.le_trans gw e13h.size
     refine tQ 4 ?_
     simp only [Act.put,ps1,ps2,ps3]
     refine tQ 5 ?_
     simp only [Act.put,ps1,ps2,ps3]
     refine tQ 6 ?_
     simp only [Act.put,ps1,ps2,ps3]
     refine tQ 7 ?_
     simp only [Act.put,ps1,ps2,ps3]
     refine tcl 8 fun Kc hK=>?_
     go_simp
     refine hK.out _ _ (HSh.out _ (hHeld.2.2.alloc hHeld.2.2.size _)) (fun hHeld=>?_)
     clear hK Kc
     have ypa:Row (X13h.alloc (.cells #[.int .i64 0, .int .i64 0] 23)) X13h.heap.size [.int .i64 0, .int .i64 0]:=Row.new X13h [.int .i64 0, .int .i64 0] 23
     have lpa:X13h.heap.size<(X13h.alloc (.cells #[.int .i64 0, .int .i64 0] 23)).heap.size:=by simp
     have gpa:W.heap.size≤X13h.heap.size:=gw
     have dpcpa:pc<X13h.heap.size:=lpc
     replace ypc:=ypc.alloc (.cells #[.int .i64 0, .int .i64 0] 23) lpc
     replace lpc:pc<(X13h.alloc (.cells #[.int .i64 0, .int .i64 0] 23)).heap.size:=by simp;omega
     replace gw:W.heap.size≤(X13h.alloc (.cells #[.int .i64 0, .int .i64 0] 23)).heap.size:=by simp;omega
     generalize X13h.alloc (.cells #[.int .i64 0, .int .i64 0] 23)=X14h at ypc lpc ypa lpa gw hHeld ⊢
     generalize X13h.heap.size=pa at ypa lpa gpa dpcpa ⊢
     have sc0:=ypa.cell 0 _ rfl
     have sf0:=ypa.free 0 (by simp)
     have sc1:=ypa.cell 1 _ rfl
     have sf1:=ypa.free 1 (by simp)
     refine tcl 10 fun Kc hK=>?_
     go_simp
     refine hK.out _ _ (HSh.out _ (((hHeld.2.2.setCell gpa _).setCell gpa _))) (fun hHeld=>?_)
     clear hK Kc sc0 sf0 sc1 sf1
     have zpa:=((ypa.set 0 (.int .i64 0) (by simp)).set 1 (.int .i64 0) (by simp))
     have vpcpa:=Row.keep ypc (((Keep.refl (fun z=>z=pa) _).set (p:=⟨pa,0,none⟩) (Or.inl rfl) (.int .i64 0)).set (p:=⟨pa,1,none⟩) (Or.inl rfl) (.int .i64 0)) (by first|exact lpc|simpa using lpc) (by omega)
     have sc0:=vpcpa.cell 0 _ rfl
     have sf0:=vpcpa.free 0 (by simp)
     have sc1:=vpcpa.cell 1 _ rfl
     have sf1:=vpcpa.free 1 (by simp)
     refine tcl 11 fun Kc hK=>?_
     go_simp
     refine hK.out _ _ (HSh.out _ (((hHeld.2.2.setCell gpc _).setCell gpc _))) (fun hHeld=>?_)
     clear hK Kc sc0 sf0 sc1 sf1
     have zpc:=((vpcpa.set 0 (.int .i64 0) (by simp)).set 1 (.int .i64 0) (by simp))
     have vpapc:=Row.keep zpa (((Keep.refl (fun z=>z=pc) _).set (p:=⟨pc,0,none⟩) (Or.inl rfl) (.int .i64 0)).set (p:=⟨pc,1,none⟩) (Or.inl rfl) (.int .i64 0)) (by first|exact lpa|simpa using lpa) (by omega)
     refine tQ 12 ?_
     simp only [Act.put,ps1,ps2,ps3]
     refine wpAnyH_done (by kernel_rfl) ?_ _
     rw [HQQ.out]
     exact⟨rfl,pa,pc,rfl,vpapc,zpc,hHeld.2.2,gpa,by simp only [World.size_setCell];exact lpa,gpc,by simp only [World.size_setCell];exact lpc⟩
    ·skip
     go_simp
     refine hK.out _ _ (HSh.out _ (hHeld.2.2.alloc hHeld.2.2.size _)) (fun hHeld=>?_)
     clear hK Kc
     have ypa:Row (X12h.alloc (.cells #[.int .i64 0, .int .i64 0] 23)) X12h.heap.size [.int .i64 0, .int .i64 0]:=Row.new X12h [.int .i64 0, .int .i64 0] 23
     have lpa:X12h.heap.size<(X12h.alloc (.cells #[.int .i64 0, .int .i64 0] 23)).heap.size:=by simp
     have gpa:W.heap.size≤X12h.heap.size:=gw
     have dpcpa:pc<X12h.heap.size:=lpc
     replace ypc:=ypc.alloc (.cells #[.int .i64 0, .int .i64 0] 23) lpc
     replace lpc:pc<(X12h.alloc (.cells #[.int .i64 0, .int .i64 0] 23)).heap.size:=by simp;omega
     replace gw:W.heap.size≤(X12h.alloc (.cells #[.int .i64 0, .int .i64 0] 23)).heap.size:=by simp;omega
     generalize X12h.alloc (.cells #[.int .i64 0, .int .i64 0] 23)=X15h at ypc lpc ypa lpa gw hHeld ⊢
     generalize X12h.heap.size=pa at ypa lpa gpa dpcpa ⊢
     refine tcl 3 fun Kc hK=>?_
     go_simp
     (go_at_call 8;refine Calls.mono (CH.out _) ?_;rintro e X16h ⟨rfl,e16h⟩)
     refine hK.out _ _ (HSh.out _ (hHeld.2.2.trans (e16h.mono hHeld.2.2.size))) (fun hHeld=>?_)
     clear hK Kc
     replace ypc:=ypc.below e16h lpc
     replace lpc:=Nat.lt_of_lt_of_le lpc e16h.size
     replace ypa:=ypa.below e16h lpa
     replace lpa:=Nat.lt_of_lt_of_le lpa e16h.size
     replace gw:=Nat.le_trans gw e16h.size
     refine tQ 4 ?_
     simp only [Act.put,ps1,ps2,ps3]
     refine tQ 5 ?_
     simp only [Act.put,ps1,ps2,ps3]
     refine tQ 6 ?_
     simp only [Act.put,ps1,ps2,ps3]
     refine tQ 7 ?_
     simp only [Act.put,ps1,ps2,ps3]
     have sc0:=ypa.cell 0 _ rfl
     have sf0:=ypa.free 0 (by simp)
     have sc1:=ypa.cell 1 _ rfl
     have sf1:=ypa.free 1 (by simp)
     refine tcl 10 fun Kc hK=>?_
     go_simp
     refine hK.out _ _ (HSh.out _ (((hHeld.2.2.setCell gpa _).setCell gpa _))) (fun hHeld=>?_)
     clear hK Kc sc0 sf0 sc1 sf1
     have zpa:=((ypa.set 0 (.int .i64 0) (by simp)).set 1 (.int .i64 0) (by simp))
     have vpcpa:=Row.keep ypc (((Keep.refl (fun z=>z=pa) _).set (p:=⟨pa,0,none⟩) (Or.inl rfl) (.int .i64 0)).set (p:=⟨pa,1,none⟩) (Or.inl rfl) (.int .i64 0)) (by first|exact lpc|simpa using lpc) (by omega)
     have sc0:=vpcpa.cell 0 _ rfl
     have sf0:=vpcpa.free 0 (by simp)
     have sc1:=vpcpa.cell 1 _ rfl
     have sf1:=vpcpa.free 1 (by simp)
     refine tcl 11 fun Kc hK=>?_
     go_simp
     refine hK.out _ _ (HSh.out _ (((hHeld.2.2.setCell gpc _).setCell gpc _))) (fun hHeld=>?_)
     clear hK Kc sc0 sf0 sc1 sf1
     have zpc:=((vpcpa.set 0 (.int .i64 0) (by simp)).set 1 (.int .i64 0) (by simp))
     have vpapc:=Row.keep zpa (((Keep.refl (fun z=>z=pc) _).set (p:=⟨pc,0,none⟩) (Or.inl rfl) (.int .i64 0)).set (p:=⟨pc,1,none⟩) (Or.inl rfl) (.int .i64 0)) (by first|exact lpa|simpa using lpa) (by omega)
     refine tQ 12 ?_
     simp only [Act.put,ps1,ps2,ps3]
     refine wpAnyH_done (by kernel_rfl) ?_ _
     rw [HQQ.out]
     exact⟨rfl,pa,pc,rfl,vpapc,zpc,hHeld.2.2,gpa,by simp only [World.size_setCell];exact lpa,gpc,by simp only [World.size_setCell];exact lpc⟩
  ·skip
   go_simp
   refine hK.out _ _ (HSh.out _ (hHeld.2.2.alloc hHeld.2.2.size _)) (fun hHeld=>?_)
   clear hK Kc
   have ypa:Row (X0h.alloc (.cells #[.int .i64 0, .int .i64 0] 23)) X0h.heap.size [.int .i64 0, .int .i64 0]:=Row.new X0h [.int .i64 0, .int .i64 0] 23
   have lpa:X0h.heap.size<(X0h.alloc (.cells #[.int .i64 0, .int .i64 0] 23)).heap.size:=by simp
   have gpa:W.heap.size≤X0h.heap.size:=gw
   replace gw:W.heap.size≤(X0h.alloc (.cells #[.int .i64 0, .int .i64 0] 23)).heap.size:=by simp;omega
   generalize X0h.alloc (.cells #[.int .i64 0, .int .i64 0] 23)=X17h at ypa lpa gw hHeld ⊢
   generalize X0h.heap.size=pa at ypa lpa gpa  ⊢
   refine wpAnyH_ready (rs:= [2,9]) (by kernel_rfl) (by simp) (AllReadyH.cons (i:=2) rfl (fun Kc hK=>?_) (AllReadyH.cons (i:=9) rfl (fun Kc hK=>?_) AllReadyH.nil))
   ·skip
    go_simp
    (go_at_call 9;refine Calls.mono (CS.out _ hHeld.2.2) ?_;rintro e X18h ⟨rfl,e18h⟩)
    refine hK.out _ _ (HSh.out _ (hHeld.2.2.trans (e18h.mono hHeld.2.2.size))) (fun hHeld=>?_)
    clear hK Kc
    replace ypa:=ypa.below e18h lpa
    replace lpa:=Nat.lt_of_lt_of_le lpa e18h.size
    replace gw:=Nat.le_trans gw e18h.size
    refine wpAnyH_ready (rs:= [3,9]) (by kernel_rfl) (by simp) (AllReadyH.cons (i:=3) rfl (fun Kc hK=>?_) (AllReadyH.cons (i:=9) rfl (fun Kc hK=>?_) AllReadyH.nil))
    ·skip
     go_simp
     (go_at_call 8;refine Calls.mono (CH.out _) ?_;rintro e X19h ⟨rfl,e19h⟩)
     refine hK.out _ _ (HSh.out _ (hHeld.2.2.trans (e19h.mono hHeld.2.2.size))) (fun hHeld=>?_)
     clear hK Kc
     replace ypa:=ypa.below e19h lpa
     replace lpa:=Nat.lt_of_lt_of_le lpa e19h.size
     replace gw:=Nat.le_trans gw e19h.size
     refine tQ 4 ?_
     simp only [Act.put,ps1,ps2,ps3]
     refine tQ 5 ?_
     simp only [Act.put,ps1,ps2,ps3]
     refine tQ 6 ?_
     simp only [Act.put,ps1,ps2,ps3]
     refine tQ 7 ?_
     simp only [Act.put,ps1,ps2,ps3]
     refine tcl 9 fun Kc hK=>?_
     go_simp
     refine hK.out _ _ (HSh.out _ (hHeld.2.2.alloc hHeld.2.2.size _)) (fun hHeld=>?_)
     clear hK Kc
     have ypc:Row (X19h.alloc (.cells #[.int .i64 0, .int .i64 0] 27)) X19h.heap.size [.int .i64 0, .int .i64 0]:=Row.new X19h [.int .i64 0, .int .i64 0] 27
     have lpc:X19h.heap.size<(X19h.alloc (.cells #[.int .i64 0, .int .i64 0] 27)).heap.size:=by simp
     have gpc:W.heap.size≤X19h.heap.size:=gw
     have dpapc:pa<X19h.heap.size:=lpa
     replace ypa:=ypa.alloc (.cells #[.int .i64 0, .int .i64 0] 27) lpa
     replace lpa:pa<(X19h.alloc (.cells #[.int .i64 0, .int .i64 0] 27)).heap.size:=by simp;omega
     replace gw:W.heap.size≤(X19h.alloc (.cells #[.int .i64 0, .int .i64 0] 27)).heap.size:=by simp;omega
     generalize X19h.alloc (.cells #[.int .i64 0, .int .i64 0] 27)=X20h at ypa lpa ypc lpc gw hHeld ⊢
     generalize X19h.heap.size=pc at ypc lpc gpc dpapc ⊢
     have sc0:=ypa.cell 0 _ rfl
     have sf0:=ypa.free 0 (by simp)
     have sc1:=ypa.cell 1 _ rfl
     have sf1:=ypa.free 1 (by simp)
     refine tcl 10 fun Kc hK=>?_
     go_simp
     refine hK.out _ _ (HSh.out _ (((hHeld.2.2.setCell gpa _).setCell gpa _))) (fun hHeld=>?_)
     clear hK Kc sc0 sf0 sc1 sf1
     have zpa:=((ypa.set 0 (.int .i64 0) (by simp)).set 1 (.int .i64 0) (by simp))
     have vpcpa:=Row.keep ypc (((Keep.refl (fun z=>z=pa) _).set (p:=⟨pa,0,none⟩) (Or.inl rfl) (.int .i64 0)).set (p:=⟨pa,1,none⟩) (Or.inl rfl) (.int .i64 0)) (by first|exact lpc|simpa using lpc) (by omega)
     have sc0:=vpcpa.cell 0 _ rfl
     have sf0:=vpcpa.free 0 (by simp)
     have sc1:=vpcpa.cell 1 _ rfl
     have sf1:=vpcpa.free 1 (by simp)
     refine tcl 11 fun Kc hK=>?_
     go_simp
     refine hK.out _ _ (HSh.out _ (((hHeld.2.2.setCell gpc _).setCell gpc _))) (fun hHeld=>?_)
     clear hK Kc sc0 sf0 sc1 sf1
     have zpc:=((vpcpa.set 0 (.int .i64 0) (by simp)).set 1 (.int .i64 0) (by simp))
     have vpapc:=Row.keep zpa (((Keep.refl (fun z=>z=pc) _).set (p:=⟨pc,0,none⟩) (Or.inl rfl) (.int .i64 0)).set (p:=⟨pc,1,none⟩) (Or.inl rfl) (.int .i64 0)) (by first|exact lpa|simpa using lpa) (by omega)
     refine tQ 12 ?_
     simp only [Act.put,ps1,ps2,ps3]
     refine wpAnyH_done (by kernel_rfl) ?_ _
     rw [HQQ.out]
     exact⟨rfl,pa,pc,rfl,vpapc,zpc,hHeld.2.2,gpa,by simp only [World.size_setCell];exact lpa,gpc,by simp only [World.size_setCell];exact lpc⟩
    ·skip
     go_simp
     refine hK.out _ _ (HSh.out _ (hHeld.2.2.alloc hHeld.2.2.size _)) (fun hHeld=>?_)
     clear hK Kc
     have ypc:Row (X18h.alloc (.cells #[.int .i64 0, .int .i64 0] 27)) X18h.heap.size [.int .i64 0, .int .i64 0]:=Row.new X18h [.int .i64 0, .int .i64 0] 27
     have lpc:X18h.heap.size<(X18h.alloc (.cells #[.int .i64 0, .int .i64 0] 27)).heap.size:=by simp
     have gpc:W.heap.size≤X18h.heap.size:=gw
     have dpapc:pa<X18h.heap.size:=lpa
     replace ypa:=ypa.alloc (.cells #[.int .i64 0, .int .i64 0] 27) lpa
     replace lpa:pa<(X18h.alloc (.cells #[.int .i64 0, .int .i64 0] 27)).heap.size:=by simp;omega
     replace gw:W.heap.size≤(X18h.alloc (.cells #[.int .i64 0, .int .i64 0] 27)).heap.size:=by simp;omega
     generalize X18h.alloc (.cells #[.int .i64 0, .int .i64 0] 27)=X21h at ypa lpa ypc lpc gw hHeld ⊢
     generalize X18h.heap.size=pc at ypc lpc gpc dpapc ⊢
     refine tcl 3 fun Kc hK=>?_
     go_simp
     (go_at_call 8;refine Calls.mono (CH.out _) ?_;rintro e X22h ⟨rfl,e22h⟩)
     refine hK.out _ _ (HSh.out _ (hHeld.2.2.trans (e22h.mono hHeld.2.2.size))) (fun hHeld=>?_)
     clear hK Kc
     replace ypa:=ypa.below e22h lpa
     replace lpa:=Nat.lt_of_lt_of_le lpa e22h.size
     replace ypc:=ypc.below e22h lpc
     replace lpc:=Nat.lt_of_lt_of_le lpc e22h.size
     replace gw:=Nat.le_trans gw e22h.size
     refine tQ 4 ?_
     simp only [Act.put,ps1,ps2,ps3]
     refine tQ 5 ?_
     simp only [Act.put,ps1,ps2,ps3]
     refine tQ 6 ?_
     simp only [Act.put,ps1,ps2,ps3]
     refine tQ 7 ?_
     simp only [Act.put,ps1,ps2,ps3]
     have sc0:=ypa.cell 0 _ rfl
     have sf0:=ypa.free 0 (by simp)
     have sc1:=ypa.cell 1 _ rfl
     have sf1:=ypa.free 1 (by simp)
     refine tcl 10 fun Kc hK=>?_
     go_simp
     refine hK.out _ _ (HSh.out _ (((hHeld.2.2.setCell gpa _).setCell gpa _))) (fun hHeld=>?_)
     clear hK Kc sc0 sf0 sc1 sf1
     have zpa:=((ypa.set 0 (.int .i64 0) (by simp)).set 1 (.int .i64 0) (by simp))
     have vpcpa:=Row.keep ypc (((Keep.refl (fun z=>z=pa) _).set (p:=⟨pa,0,none⟩) (Or.inl rfl) (.int .i64 0)).set (p:=⟨pa,1,none⟩) (Or.inl rfl) (.int .i64 0)) (by first|exact lpc|simpa using lpc) (by omega)
     have sc0:=vpcpa.cell 0 _ rfl
     have sf0:=vpcpa.free 0 (by simp)
     have sc1:=vpcpa.cell 1 _ rfl
     have sf1:=vpcpa.free 1 (by simp)
     refine tcl 11 fun Kc hK=>?_
     go_simp
     refine hK.out _ _ (HSh.out _ (((hHeld.2.2.setCell gpc _).setCell gpc _))) (fun hHeld=>?_)
     clear hK Kc sc0 sf0 sc1 sf1
     have zpc:=((vpcpa.set 0 (.int .i64 0) (by simp)).set 1 (.int .i64 0) (by simp))
     have vpapc:=Row.keep zpa (((Keep.refl (fun z=>z=pc) _).set (p:=⟨pc,0,none⟩) (Or.inl rfl) (.int .i64 0)).set (p:=⟨pc,1,none⟩) (Or.inl rfl) (.int .i64 0)) (by first|exact lpa|simpa using lpa) (by omega)
     refine tQ 12 ?_
     simp only [Act.put,ps1,ps2,ps3]
     refine wpAnyH_done (by kernel_rfl) ?_ _
     rw [HQQ.out]
     exact⟨rfl,pa,pc,rfl,vpapc,zpc,hHeld.2.2,gpa,by simp only [World.size_setCell];exact lpa,gpc,by simp only [World.size_setCell];exact lpc⟩
   ·skip
    go_simp
    refine hK.out _ _ (HSh.out _ (hHeld.2.2.alloc hHeld.2.2.size _)) (fun hHeld=>?_)
    clear hK Kc
    have ypc:Row (X17h.alloc (.cells #[.int .i64 0, .int .i64 0] 27)) X17h.heap.size [.int .i64 0, .int .i64 0]:=Row.new X17h [.int .i64 0, .int .i64 0] 27
    have lpc:X17h.heap.size<(X17h.alloc (.cells #[.int .i64 0, .int .i64 0] 27)).heap.size:=by simp
    have gpc:W.heap.size≤X17h.heap.size:=gw
    have dpapc:pa<X17h.heap.size:=lpa
    replace ypa:=ypa.alloc (.cells #[.int .i64 0, .int .i64 0] 27) lpa
    replace lpa:pa<(X17h.alloc (.cells #[.int .i64 0, .int .i64 0] 27)).heap.size:=by simp;omega
    replace gw:W.heap.size≤(X17h.alloc (.cells #[.int .i64 0, .int .i64 0] 27)).heap.size:=by simp;omega
    generalize X17h.alloc (.cells #[.int .i64 0, .int .i64 0] 27)=X23h at ypa lpa ypc lpc gw hHeld ⊢
    generalize X17h.heap.size=pc at ypc lpc gpc dpapc ⊢
    refine tcl 2 fun Kc hK=>?_
    go_simp
    (go_at_call 9;refine Calls.mono (CS.out _ hHeld.2.2) ?_;rintro e X24h ⟨rfl,e24h⟩)
    refine hK.out _ _ (HSh.out _ (hHeld.2.2.trans (e24h.mono hHeld.2.2.size))) (fun hHeld=>?_)
    clear hK Kc
    replace ypa:=ypa.below e24h lpa
    replace lpa:=Nat.lt_of_lt_of_le lpa e24h.size
    replace ypc:=ypc.below e24h lpc
    replace lpc:=Nat.lt_of_lt_of_le lpc e24h.size
    replace gw:=Nat.le_trans gw e24h.size
    refine tcl 3 fun Kc hK=>?_
    go_simp
    (go_at_call 8;refine Calls.mono (CH.out _) ?_;rintro e X25h ⟨rfl,e25h⟩)
    refine hK.out _ _ (HSh.out _ (hHeld.2.2.trans (e25h.mono hHeld.2.2.size))) (fun hHeld=>?_)
    clear hK Kc
    replace ypa:=ypa.below e25h lpa
    replace lpa:=Nat.lt_of_lt_of_le lpa e25h.size
    replace ypc:=ypc.below e25h lpc
    replace lpc:=Nat.lt_of_lt_of_le lpc e25h.size
    replace gw:=Nat.le_trans gw e25h.size
    refine tQ 4 ?_
    simp only [Act.put,ps1,ps2,ps3]
    refine tQ 5 ?_
    simp only [Act.put,ps1,ps2,ps3]
    refine tQ 6 ?_
    simp only [Act.put,ps1,ps2,ps3]
    refine tQ 7 ?_
    simp only [Act.put,ps1,ps2,ps3]
    have sc0:=ypa.cell 0 _ rfl
    have sf0:=ypa.free 0 (by simp)
    have sc1:=ypa.cell 1 _ rfl
    have sf1:=ypa.free 1 (by simp)
    refine tcl 10 fun Kc hK=>?_
    go_simp
    refine hK.out _ _ (HSh.out _ (((hHeld.2.2.setCell gpa _).setCell gpa _))) (fun hHeld=>?_)
    clear hK Kc sc0 sf0 sc1 sf1
    have zpa:=((ypa.set 0 (.int .i64 0) (by simp)).set 1 (.int .i64 0) (by simp))
    have vpcpa:=Row.keep ypc (((Keep.refl (fun z=>z=pa) _).set (p:=⟨pa,0,none⟩) (Or.inl rfl) (.int .i64 0)).set (p:=⟨pa,1,none⟩) (Or.inl rfl) (.int .i64 0)) (by first|exact lpc|simpa using lpc) (by omega)
    have sc0:=vpcpa.cell 0 _ rfl
    have sf0:=vpcpa.free 0 (by simp)
    have sc1:=vpcpa.cell 1 _ rfl
    have sf1:=vpcpa.free 1 (by simp)
    refine tcl 11 fun Kc hK=>?_
    go_simp
    refine hK.out _ _ (HSh.out _ (((hHeld.2.2.setCell gpc _).setCell gpc _))) (fun hHeld=>?_)
    clear hK Kc sc0 sf0 sc1 sf1
    have zpc:=((vpcpa.set 0 (.int .i64 0) (by simp)).set 1 (.int .i64 0) (by simp))
    have vpapc:=Row.keep zpa (((Keep.refl (fun z=>z=pc) _).set (p:=⟨pc,0,none⟩) (Or.inl rfl) (.int .i64 0)).set (p:=⟨pc,1,none⟩) (Or.inl rfl) (.int .i64 0)) (by first|exact lpa|simpa using lpa) (by omega)
    refine tQ 12 ?_
    simp only [Act.put,ps1,ps2,ps3]
    refine wpAnyH_done (by kernel_rfl) ?_ _
    rw [HQQ.out]
    exact⟨rfl,pa,pc,rfl,vpapc,zpc,hHeld.2.2,gpa,by simp only [World.size_setCell];exact lpa,gpc,by simp only [World.size_setCell];exact lpc⟩
  ·skip
   go_simp
   refine hK.out _ _ (HSh.out _ (hHeld.2.2.alloc hHeld.2.2.size _)) (fun hHeld=>?_)
   clear hK Kc
   have ypc:Row (X0h.alloc (.cells #[.int .i64 0, .int .i64 0] 27)) X0h.heap.size [.int .i64 0, .int .i64 0]:=Row.new X0h [.int .i64 0, .int .i64 0] 27
   have lpc:X0h.heap.size<(X0h.alloc (.cells #[.int .i64 0, .int .i64 0] 27)).heap.size:=by simp
   have gpc:W.heap.size≤X0h.heap.size:=gw
   replace gw:W.heap.size≤(X0h.alloc (.cells #[.int .i64 0, .int .i64 0] 27)).heap.size:=by simp;omega
   generalize X0h.alloc (.cells #[.int .i64 0, .int .i64 0] 27)=X26h at ypc lpc gw hHeld ⊢
   generalize X0h.heap.size=pc at ypc lpc gpc  ⊢
   refine wpAnyH_ready (rs:= [2,8]) (by kernel_rfl) (by simp) (AllReadyH.cons (i:=2) rfl (fun Kc hK=>?_) (AllReadyH.cons (i:=8) rfl (fun Kc hK=>?_) AllReadyH.nil))
   ·skip
    go_simp
    (go_at_call 9;refine Calls.mono (CS.out _ hHeld.2.2) ?_;rintro e X27h ⟨rfl,e27h⟩)
    refine hK.out _ _ (HSh.out _ (hHeld.2.2.trans (e27h.mono hHeld.2.2.size))) (fun hHeld=>?_)
    clear hK Kc
    replace ypc:=ypc.below e27h lpc
    replace lpc:=Nat.lt_of_lt_of_le lpc e27h.size
    replace gw:=Nat.le_trans gw e27h.size
    refine wpAnyH_ready (rs:= [3,8]) (by kernel_rfl) (by simp) (AllReadyH.cons (i:=3) rfl (fun Kc hK=>?_) (AllReadyH.cons (i:=8) rfl (fun Kc hK=>?_) AllReadyH.nil))
    ·skip
     go_simp
     (go_at_call 8;refine Calls.mono (CH.out _) ?_;rintro e X28h ⟨rfl,e28h⟩)
     refine hK.out _ _ (HSh.out _ (hHeld.2.2.trans (e28h.mono hHeld.2.2.size))) (fun hHeld=>?_)
     clear hK Kc
     replace ypc:=ypc.below e28h lpc
     replace lpc:=Nat.lt_of_lt_of_le lpc e28h.size
     replace gw:=Nat.le_trans gw e28h.size
     refine tQ 4 ?_
     simp only [Act.put,ps1,ps2,ps3]
     refine tQ 5 ?_
     simp only [Act.put,ps1,ps2,ps3]
     refine tQ 6 ?_
     simp only [Act.put,ps1,ps2,ps3]
     refine tQ 7 ?_
     simp only [Act.put,ps1,ps2,ps3]
     refine tcl 8 fun Kc hK=>?_
     go_simp
     refine hK.out _ _ (HSh.out _ (hHeld.2.2.alloc hHeld.2.2.size _)) (fun hHeld=>?_)
     clear hK Kc
     have ypa:Row (X28h.alloc (.cells #[.int .i64 0, .int .i64 0] 23)) X28h.heap.size [.int .i64 0, .int .i64 0]:=Row.new X28h [.int .i64 0, .int .i64 0] 23
     have lpa:X28h.heap.size<(X28h.alloc (.cells #[.int .i64 0, .int .i64 0] 23)).heap.size:=by simp
     have gpa:W.heap.size≤X28h.heap.size:=gw
     have dpcpa:pc<X28h.heap.size:=lpc
     replace ypc:=ypc.alloc (.cells #[.int .i64 0, .int .i64 0] 23) lpc
     replace lpc:pc<(X28h.alloc (.cells #[.int .i64 0, .int .i64 0] 23)).heap.size:=by simp;omega
     replace gw:W.heap.size≤(X28h.alloc (.cells #[.int .i64 0, .int .i64 0] 23)).heap.size:=by simp;omega
     generalize X28h.alloc (.cells #[.int .i64 0, .int .i64 0] 23)=X29h at ypc lpc ypa lpa gw hHeld ⊢
     generalize X28h.heap.size=pa at ypa lpa gpa dpcpa ⊢
     have sc0:=ypa.cell 0 _ rfl
     have sf0:=ypa.free 0 (by simp)
     have sc1:=ypa.cell 1 _ rfl
     have sf1:=ypa.free 1 (by simp)
     refine tcl 10 fun Kc hK=>?_
     go_simp
     refine hK.out _ _ (HSh.out _ (((hHeld.2.2.setCell gpa _).setCell gpa _))) (fun hHeld=>?_)
     clear hK Kc sc0 sf0 sc1 sf1
     have zpa:=((ypa.set 0 (.int .i64 0) (by simp)).set 1 (.int .i64 0) (by simp))
     have vpcpa:=Row.keep ypc (((Keep.refl (fun z=>z=pa) _).set (p:=⟨pa,0,none⟩) (Or.inl rfl) (.int .i64 0)).set (p:=⟨pa,1,none⟩) (Or.inl rfl) (.int .i64 0)) (by first|exact lpc|simpa using lpc) (by omega)
     have sc0:=vpcpa.cell 0 _ rfl
     have sf0:=vpcpa.free 0 (by simp)
     have sc1:=vpcpa.cell 1 _ rfl
     have sf1:=vpcpa.free 1 (by simp)
     refine tcl 11 fun Kc hK=>?_
     go_simp
     refine hK.out _ _ (HSh.out _ (((hHeld.2.2.setCell gpc _).setCell gpc _))) (fun hHeld=>?_)
     clear hK Kc sc0 sf0 sc1 sf1
     have zpc:=((vpcpa.set 0 (.int .i64 0) (by simp)).set 1 (.int .i64 0) (by simp))
     have vpapc:=Row.keep zpa (((Keep.refl (fun z=>z=pc) _).set (p:=⟨pc,0,none⟩) (Or.inl rfl) (.int .i64 0)).set (p:=⟨pc,1,none⟩) (Or.inl rfl) (.int .i64 0)) (by first|exact lpa|simpa using lpa) (by omega)
     refine tQ 12 ?_
     simp only [Act.put,ps1,ps2,ps3]
     refine wpAnyH_done (by kernel_rfl) ?_ _
     rw [HQQ.out]
     exact⟨rfl,pa,pc,rfl,vpapc,zpc,hHeld.2.2,gpa,by simp only [World.size_setCell];exact lpa,gpc,by simp only [World.size_setCell];exact lpc⟩
    ·skip
     go_simp
     refine hK.out _ _ (HSh.out _ (hHeld.2.2.alloc hHeld.2.2.size _)) (fun hHeld=>?_)
     clear hK Kc
     have ypa:Row (X27h.alloc (.cells #[.int .i64 0, .int .i64 0] 23)) X27h.heap.size [.int .i64 0, .int .i64 0]:=Row.new X27h [.int .i64 0, .int .i64 0] 23
     have lpa:X27h.heap.size<(X27h.alloc (.cells #[.int .i64 0, .int .i64 0] 23)).heap.size:=by simp
     have gpa:W.heap.size≤X27h.heap.size:=gw
     have dpcpa:pc<X27h.heap.size:=lpc
     replace ypc:=ypc.alloc (.cells #[.int .i64 0, .int .i64 0] 23) lpc
     replace lpc:pc<(X27h.alloc (.cells #[.int .i64 0, .int .i64 0] 23)).heap.size:=by simp;omega
     replace gw:W.heap.size≤(X27h.alloc (.cells #[.int .i64 0, .int .i64 0] 23)).heap.size:=by simp;omega
     generalize X27h.alloc (.cells #[.int .i64 0, .int .i64 0] 23)=X30h at ypc lpc ypa lpa gw hHeld ⊢
     generalize X27h.heap.size=pa at ypa lpa gpa dpcpa ⊢
     refine tcl 3 fun Kc hK=>?_
     go_simp
     (go_at_call 8;refine Calls.mono (CH.out _) ?_;rintro e X31h ⟨rfl,e31h⟩)
     refine hK.out _ _ (HSh.out _ (hHeld.2.2.trans (e31h.mono hHeld.2.2.size))) (fun hHeld=>?_)
     clear hK Kc
     replace ypc:=ypc.below e31h lpc
     replace lpc:=Nat.lt_of_lt_of_le lpc e31h.size
     replace ypa:=ypa.below e31h lpa
     replace lpa:=Nat.lt_of_lt_of_le lpa e31h.size
     replace gw:=Nat.le_trans gw e31h.size
     refine tQ 4 ?_
     simp only [Act.put,ps1,ps2,ps3]
     refine tQ 5 ?_
     simp only [Act.put,ps1,ps2,ps3]
     refine tQ 6 ?_
     simp only [Act.put,ps1,ps2,ps3]
     refine tQ 7 ?_
     simp only [Act.put,ps1,ps2,ps3]
     have sc0:=ypa.cell 0 _ rfl
     have sf0:=ypa.free 0 (by simp)
     have sc1:=ypa.cell 1 _ rfl
     have sf1:=ypa.free 1 (by simp)
     refine tcl 10 fun Kc hK=>?_
     go_simp
     refine hK.out _ _ (HSh.out _ (((hHeld.2.2.setCell gpa _).setCell gpa _))) (fun hHeld=>?_)
     clear hK Kc sc0 sf0 sc1 sf1
     have zpa:=((ypa.set 0 (.int .i64 0) (by simp)).set 1 (.int .i64 0) (by simp))
     have vpcpa:=Row.keep ypc (((Keep.refl (fun z=>z=pa) _).set (p:=⟨pa,0,none⟩) (Or.inl rfl) (.int .i64 0)).set (p:=⟨pa,1,none⟩) (Or.inl rfl) (.int .i64 0)) (by first|exact lpc|simpa using lpc) (by omega)
     have sc0:=vpcpa.cell 0 _ rfl
     have sf0:=vpcpa.free 0 (by simp)
     have sc1:=vpcpa.cell 1 _ rfl
     have sf1:=vpcpa.free 1 (by simp)
     refine tcl 11 fun Kc hK=>?_
     go_simp
     refine hK.out _ _ (HSh.out _ (((hHeld.2.2.setCell gpc _).setCell gpc _))) (fun hHeld=>?_)
     clear hK Kc sc0 sf0 sc1 sf1
     have zpc:=((vpcpa.set 0 (.int .i64 0) (by simp)).set 1 (.int .i64 0) (by simp))
     have vpapc:=Row.keep zpa (((Keep.refl (fun z=>z=pc) _).set (p:=⟨pc,0,none⟩) (Or.inl rfl) (.int .i64 0)).set (p:=⟨pc,1,none⟩) (Or.inl rfl) (.int .i64 0)) (by first|exact lpa|simpa using lpa) (by omega)
     refine tQ 12 ?_
     simp only [Act.put,ps1,ps2,ps3]
     refine wpAnyH_done (by kernel_rfl) ?_ _
     rw [HQQ.out]
     exact⟨rfl,pa,pc,rfl,vpapc,zpc,hHeld.2.2,gpa,by simp only [World.size_setCell];exact lpa,gpc,by simp only [World.size_setCell];exact lpc⟩
   ·skip
    go_simp
    refine hK.out _ _ (HSh.out _ (hHeld.2.2.alloc hHeld.2.2.size _)) (fun hHeld=>?_)
    clear hK Kc
    have ypa:Row (X26h.alloc (.cells #[.int .i64 0, .int .i64 0] 23)) X26h.heap.size [.int .i64 0, .int .i64 0]:=Row.new X26h [.int .i64 0, .int .i64 0] 23
    have lpa:X26h.heap.size<(X26h.alloc (.cells #[.int .i64 0, .int .i64 0] 23)).heap.size:=by simp
    have gpa:W.heap.size≤X26h.heap.size:=gw
    have dpcpa:pc<X26h.heap.size:=lpc
    replace ypc:=ypc.alloc (.cells #[.int .i64 0, .int .i64 0] 23) lpc
    replace lpc:pc<(X26h.alloc (.cells #[.int .i64 0, .int .i64 0] 23)).heap.size:=by simp;omega
    replace gw:W.heap.size≤(X26h.alloc (.cells #[.int .i64 0, .int .i64 0] 23)).heap.size:=by simp;omega
    generalize X26h.alloc (.cells #[.int .i64 0, .int .i64 0] 23)=X32h at ypc lpc ypa lpa gw hHeld ⊢
    generalize X26h.heap.size=pa at ypa lpa gpa dpcpa ⊢
    refine tcl 2 fun Kc hK=>?_
    go_simp
    (go_at_call 9;refine Calls.mono (CS.out _ hHeld.2.2) ?_;rintro e X33h ⟨rfl,e33h⟩)
    refine hK.out _ _ (HSh.out _ (hHeld.2.2.trans (e33h.mono hHeld.2.2.size))) (fun hHeld=>?_)
    clear hK Kc
    replace ypc:=ypc.below e33h lpc
    replace lpc:=Nat.lt_of_lt_of_le lpc e33h.size
    replace ypa:=ypa.below e33h lpa
    replace lpa:=Nat.lt_of_lt_of_le lpa e33h.size
    replace gw:=Nat.le_trans gw e33h.size
    refine tcl 3 fun Kc hK=>?_
    go_simp
    (go_at_call 8;refine Calls.mono (CH.out _) ?_;rintro e X34h ⟨rfl,e34h⟩)
    refine hK.out _ _ (HSh.out _ (hHeld.2.2.trans (e34h.mono hHeld.2.2.size))) (fun hHeld=>?_)
    clear hK Kc
    replace ypc:=ypc.below e34h lpc
    replace lpc:=Nat.lt_of_lt_of_le lpc e34h.size
    replace ypa:=ypa.below e34h lpa
    replace lpa:=Nat.lt_of_lt_of_le lpa e34h.size
    replace gw:=Nat.le_trans gw e34h.size
    refine tQ 4 ?_
    simp only [Act.put,ps1,ps2,ps3]
    refine tQ 5 ?_
    simp only [Act.put,ps1,ps2,ps3]
    refine tQ 6 ?_
    simp only [Act.put,ps1,ps2,ps3]
    refine tQ 7 ?_
    simp only [Act.put,ps1,ps2,ps3]
    have sc0:=ypa.cell 0 _ rfl
    have sf0:=ypa.free 0 (by simp)
    have sc1:=ypa.cell 1 _ rfl
    have sf1:=ypa.free 1 (by simp)
    refine tcl 10 fun Kc hK=>?_
    go_simp
    refine hK.out _ _ (HSh.out _ (((hHeld.2.2.setCell gpa _).setCell gpa _))) (fun hHeld=>?_)
    clear hK Kc sc0 sf0 sc1 sf1
    have zpa:=((ypa.set 0 (.int .i64 0) (by simp)).set 1 (.int .i64 0) (by simp))
    have vpcpa:=Row.keep ypc (((Keep.refl (fun z=>z=pa) _).set (p:=⟨pa,0,none⟩) (Or.inl rfl) (.int .i64 0)).set (p:=⟨pa,1,none⟩) (Or.inl rfl) (.int .i64 0)) (by first|exact lpc|simpa using lpc) (by omega)
    have sc0:=vpcpa.cell 0 _ rfl
    have sf0:=vpcpa.free 0 (by simp)
    have sc1:=vpcpa.cell 1 _ rfl
    have sf1:=vpcpa.free 1 (by simp)
    refine tcl 11 fun Kc hK=>?_
    go_simp
    refine hK.out _ _ (HSh.out _ (((hHeld.2.2.setCell gpc _).setCell gpc _))) (fun hHeld=>?_)
    clear hK Kc sc0 sf0 sc1 sf1
    have zpc:=((vpcpa.set 0 (.int .i64 0) (by simp)).set 1 (.int .i64 0) (by simp))
    have vpapc:=Row.keep zpa (((Keep.refl (fun z=>z=pc) _).set (p:=⟨pc,0,none⟩) (Or.inl rfl) (.int .i64 0)).set (p:=⟨pc,1,none⟩) (Or.inl rfl) (.int .i64 0)) (by first|exact lpa|simpa using lpa) (by omega)
    refine tQ 12 ?_
    simp only [Act.put,ps1,ps2,ps3]
    refine wpAnyH_done (by kernel_rfl) ?_ _
    rw [HQQ.out]
    exact⟨rfl,pa,pc,rfl,vpapc,zpc,hHeld.2.2,gpa,by simp only [World.size_setCell];exact lpa,gpc,by simp only [World.size_setCell];exact lpc⟩
 rw [HQQ.out]
 rintro e act w4 ⟨rfl,pa,pc,rfl,ypah,ypch,bw4,gpah,lpah,gpch,lpch⟩
 clear HQQ QQ HSh
 try dsimp only
 have z4:=bw4.size
 have Rr4:=Rr.below bw4 lr
 have B4:=bW.trans (bw4.mono (by omega))
 clear d0 d1 CH CS
 have o0:=Rr4.cell 0 _ rfl
 have f0:=Rr4.free 0 (by simp)
 have o1:=Rr4.cell 1 _ rfl
 have f1:=Rr4.free 1 (by simp)
 have RX:=((Rr4.set 0 (.int .i64 0) (by simp)).set 1 (.int .i64 0) (by simp))
 have BZ:=((B4.setCell (p:=⟨w.heap.size+1,0,none⟩) (by simp) (.int .i64 0)).setCell (p:=⟨w.heap.size+1,1,none⟩) (by simp) (.int .i64 0))
 have n0:=RX.cell 0 _ rfl
 have n1:=RX.cell 1 _ rfl
 clear RX Rr4
 go_wp2
 exact bodyPost_ret (v:= .tuple #[.int .i64 (-1), .agg #[.int .i64 0, .int .i64 0], .int .i64 0, .bool false]) (by simp [results,Try.results4,go_sem, *]) rfl ⟨HR.out,BZ⟩
end Go.Proofs.Ytaadknpjbogkbaa
namespace Go.Proofs.Ytaadknpjbogkbaa
open Go.RowKit Go.Maps
set_option linter.unusedVariables false
set_option maxHeartbeats 1000000 in
theorem aSide(n:Int)(w:World){r:Int}(hr:r=if n<1∨1073741824<n then 12 else n):
  Calls Try.prog 6 #[.int .i64 n] w fun e w'=>e= .returned (.int .i64 r)∧Below w.heap.size w w':=by
 have HR:Hid _:=hr
 clear hr
 go_enter Try.func6,Try.ntmps6
 by_cases h1:n<1
 ·have d1:decide (n<1)=true:=decide_eq_true h1
  go_wp2
  go_ret
  exact⟨by rw [HR.out,if_pos (Or.inl h1)];rfl,Below.refl _ _⟩
 ·have d1:decide (n<1)=false:=decide_eq_false h1
  by_cases h2:1073741824<n
  ·have d2:decide (n>1073741824)=true:=decide_eq_true h2
   go_wp2
   go_ret
   exact⟨by rw [HR.out,if_pos (Or.inr h2)];rfl,Below.refl _ _⟩
  ·have d2:decide (n>1073741824)=false:=decide_eq_false (by omega)
   go_wp2
   go_ret
   exact⟨by rw [HR.out,if_neg (by omega)];rfl,Below.refl _ _⟩
end Go.Proofs.Ytaadknpjbogkbaa
