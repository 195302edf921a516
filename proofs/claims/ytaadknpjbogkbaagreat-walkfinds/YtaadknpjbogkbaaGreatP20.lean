/-
  Joined texts, part 20:
  What walk's goAcross answers, over what the mesh must do.
  What zelligeref06's Home answers.
  What zelligeref16's corner answers.
  What zelligeref16's Out answers.
-/
import Derived.Test.YtaadknpjbogkbaaGreatP18
import Derived.Test.YtaadknpjbogkbaaGreatP19
import Derived.Test.YtaadknpjbogkbaaGreatP6
import Derived.Test.YtaadknpjbogkbaaGreatP14
import Derived.Test.YtaadknpjbogkbaaGreatP10
import Derived.Test.YtaadknpjbogkbaaGreatP12
import Derived.Test.YtaadknpjbogkbaaGreatP9
import Derived.Test.YtaadknpjbogkbaaGreatP17
namespace Go.Proofs.YtaadknpjbogkbaaGreat
open Go.RowKit
set_option linter.unusedVariables false
abbrev mvL(S:Ms)(t:Tr)(x y:Int):List Value:= [.int .i64 (mvX S t 0 x), .int .i64 (mvY S t 0 y), .int .i64 (mvX S t 1 x), .int .i64 (mvY S t 1 y), .int .i64 (mvX S t 2 x), .int .i64 (mvY S t 2 y)]
theorem corn_all{S:Ms}{t:Tr}{x y:Int}(h:mvAll S t x y=true):coV S t x y= .agg (mvL S t x y).toArray:=by
 unfold coV coX coY
 rw [h]
 rfl
set_option maxRecDepth 100000 in
set_option maxHeartbeats 16000000 in
theorem wGo{MP:MeShape}(HSp:MeSp MP):GoSpec MP:=by
 intro base pp S m F w HP O hm c0 q1 q2 K hc0 hq hK
 obtain⟨W,hW⟩: ∃ W,W=((w.alloc (.cells #[ptR pp, .int .i64 q1, .int .i64 q2] 66)).alloc (.cells #[.int .i64 0, .int .i64 0, .int .i64 0] 70)):=⟨_,rfl⟩
 have bW:Below w.heap.size w W:=by rw [hW];exact(((Below.refl _ _).alloc (Nat.le_refl _) _).alloc (by simp<;>omega) _)
 have zW:W.heap.size=w.heap.size+2:=by rw [hW];simp
 have Rw:Row W (w.heap.size) [ptR pp, .int .i64 q1, .int .i64 q2]:=by
  have h0:=Row.new w [ptR pp, .int .i64 q1, .int .i64 q2] 66
  rw [hW];exact(h0.alloc _ (by simp<;>omega))
 have lw:w.heap.size<W.heap.size:=by omega
 have Rr:Row W (w.heap.size+1) [.int .i64 0, .int .i64 0, .int .i64 0]:=by
  have h0:=Row.new (w.alloc (.cells #[ptR pp, .int .i64 q1, .int .i64 q2] 66)) [.int .i64 0, .int .i64 0, .int .i64 0] 70
  simp only [World.size_alloc]at h0
  rw [hW];exact h0
 have lr:w.heap.size+1<W.heap.size:=by omega
 have HW:((w.alloc (.cells #[ptR pp, .int .i64 q1, .int .i64 q2] 66)).alloc (.cells #[.int .i64 0, .int .i64 0, .int .i64 0] 70))=W:=hW.symm
 clear hW
 have HPP:Hid _:=HP
 have HO:Hid _:=O
 have CC:Hid (∀ (w':World) (c:Ce) (x y:Int),c∈S.C→Below w.heap.size w w'→Calls Tryz.prog 57 #[.agg #[ptR pp, .int .i64 q1, .int .i64 q2], .agg #[.int .i64 c.no, .int .i64 x, .int .i64 y]] w' fun e w''=>CornIs S c.t x y e∧Below w'.heap.size w' w''):=fun w' c x y hc hb=>wCorners HSp base pp S m F w' (HSp.below HP hb) O hm c hc x y q1 q2
 have CA:Hid (∀ (w':World) (c:Ce) (x y:Int) (j:Nat),c∈S.C→Below w.heap.size w w'→j<3→(-4398046511104≤x∧x≤4398046511104)→(-4398046511104≤y∧y≤4398046511104)→Calls Tryz.prog 59 #[.agg #[ptR pp, .int .i64 q1, .int .i64 q2], .agg #[.int .i64 c.no, .int .i64 x, .int .i64 y], .int .i64 (j:Int)] w' fun e w''=>StepIs (stepC S c j) x y e∧Below w'.heap.size w' w''):=fun w' c x y j hc hb hj hx hy=>wAcross HSp base pp S m F w' (HSp.below HP hb) O hm c hc x y q1 q2 j hj hx hy
 have CO:Hid (∀ (w':World) (c:Ce) (x y r:Int),mvAll S c.t x y=true→r=outK S c.t x y q1 q2→Calls Tryz.prog 58 #[.agg #[ptR pp, .int .i64 q1, .int .i64 q2], .agg (mvL S c.t x y).toArray] w' fun e w''=>e= .returned (.int .i64 r)∧Below w'.heap.size w' w''):=fun w' c x y r h hr=>by
  obtain⟨m0,m1,m2⟩:=mvAll_iff.1 h
  exact wOutside pp _ _ _ _ _ _ q1 q2 w' (mvd_can m0) (mvd_can m1) (mvd_can m2) hq hr
 obtain⟨fc,hfc⟩: ∃ x,x=c0.no:=⟨_,rfl⟩
 have HFC:Hid _:=hfc
 obtain⟨G,hG⟩: ∃ G,G=goW S q1 q2 K c0 0 0:=⟨_,rfl⟩
 have HGG:Hid _:=hG
 rw [←hG,←hfc]
 obtain⟨hb,hhb⟩: ∃ x,x=W.heap.size:=⟨_,rfl⟩
 obtain⟨w3,hw3⟩: ∃ w3,w3=W.alloc (.cells #[.int .i64 fc, .int .i64 0, .int .i64 0] 70):=⟨_,rfl⟩
 have k3:Below W.heap.size W w3:=by rw [hw3];exact(Below.refl _ _).alloc (Nat.le_refl _) _
 have R3:Row w3 hb [.int .i64 fc, .int .i64 0, .int .i64 0]:=by rw [hw3,hhb];exact Row.new W [.int .i64 fc, .int .i64 0, .int .i64 0] _
 have l3:hb<w3.heap.size:=by rw [hw3,hhb];simp
 have lhb:w.heap.size+2≤hb:=by omega
 have z3:=k3.size
 have B3:=bW.trans (k3.mono (by omega))
 have H3:Hid _:=hw3.symm
 have HHB:Hid (w.heap.size+2=hb):=by unfold Hid;omega
 have RH3:Hid (Row w3 hb [.int .i64 c0.no, .int .i64 0, .int .i64 0]):=by rw [←HFC.out];exact R3
 have HB3:Hid _:=B3
 have HRW:Hid (Row w3 w.heap.size [ptR pp, .int .i64 q1, .int .i64 q2]):=Rw.below k3 lw
 have HRR:Hid (Row w3 (w.heap.size+1) [.int .i64 0, .int .i64 0, .int .i64 0]):=Rr.below k3 lr
 have HGS:Hid (G=((goW S q1 q2 K c0 0 0).1,(goW S q1 q2 K c0 0 0).2+0)):=by unfold Hid;rw [HGG.out];rfl
 clear HP O hm hq hfc hG hw3 hhb R3 B3 k3 Rw Rr
 go_enter Tryz.func23,Tryz.ntmps23
 go_wp2
 rw [H3.out,HHB.out]
 clear HW H3 HHB
 go_loopw [10] (fun sv wr=> ∃ (c:Ce) (x y:Int) (st k:Nat),c∈S.C∧sv= .int .i64 (st:Int)∧Hid (st+k=K)∧Hid (G=((goW S q1 q2 k c x y).1,(goW S q1 q2 k c x y).2+st))∧Hid (Row wr hb [.int .i64 c.no, .int .i64 x, .int .i64 y])∧Keep (fun k=>k=hb) w3 wr) (fun sv _=>K- (Go.RowKit.intOf sv).toNat)
 case atStart=>exact⟨c0,0,0,0,K,hc0,rfl,by unfold Hid;omega,HGS,RH3,Keep.refl _ _⟩
 case round=>
  clear HGS HGG RH3 HFC
  obtain⟨c,x,y,st,k,hc,rfl,HK,HG,HRH,kr⟩:=hrel
  obtain⟨wv,hwv⟩: ∃ w,w=wr:=⟨_,rfl⟩
  rw [←hwv]at kr HRH ⊢
  clear hwv
  have zv:=kr.size
  have kv:Below w.heap.size w wv:=HB3.out.trans (kr.below (B:=w.heap.size) (by omega) (fun k e=>by omega))
  have hst:st≤1000:=by have:=HK.out;omega
  obtain⟨no,hno⟩: ∃ f,f=c.no:=⟨_,rfl⟩
  have HC:Hid _:=hc
  have CCx:Hid (Calls Tryz.prog 57 #[.agg #[ptR pp, .int .i64 q1, .int .i64 q2], .agg #[.int .i64 no, .int .i64 x, .int .i64 y]] wv fun e w''=>CornIs S c.t x y e∧Below wv.heap.size wv w''):=by
   rw [hno]
   exact CC.out wv c x y hc kv
  have RHv:Row wv hb [.int .i64 no, .int .i64 x, .int .i64 y]:=by rw [hno];exact HRH.out
  have RWv:=HRW.out.keep kr (by omega) (by omega)
  have RRv:=HRR.out.keep kr (by omega) (by omega)
  have v0:=RWv.cell 0 _ rfl
  have v1:=RWv.cell 1 _ rfl
  have v2:=RWv.cell 2 _ rfl
  have h0:=RHv.cell 0 _ rfl
  have h1:=RHv.cell 1 _ rfl
  have h2:=RHv.cell 2 _ rfl
  have HNO:Hid _:=hno
  have lbv:hb<wv.heap.size:=by omega
  have lwv:w.heap.size<wv.heap.size:=by omega
  have lrv:w.heap.size+1<wv.heap.size:=by omega
  clear hno hc HRH
  go_wp2_with (go_at_call 57;fail)
  refine Calls.mono CCx.out ?_
  rintro e w4 ⟨he,b4⟩
  have z4:=b4.size
  have k4:Keep (fun k=>k=hb) w3 w4:=kr.to b4
  have kv4:Below w.heap.size w w4:=kv.trans (b4.mono (by omega))
  have RH4:=RHv.below b4 lbv
  have RW4:=RWv.below b4 lwv
  have RR4:=RRv.below b4 lrv
  unfold CornIs at he
  clear CCx v0 v1 v2 h0 h1 h2 RHv RWv RRv kr kv b4
  cases hma:mvAll S c.t x y with
  |false=>
   unfold coV coX coY at he
   rw [hma]at he
   have he:e= .returned (.tuple #[.agg #[.int .i64 0, .int .i64 0, .int .i64 0, .int .i64 0, .int .i64 0, .int .i64 0], .bool false]):=he
   subst he
   have HFI:Hid (GoIs G (.returned (.tuple #[.agg #[.int .i64 0, .int .i64 0, .int .i64 0], .int .i64 (st:Int), .bool false]))):=by
    unfold Hid
    rw [HG.out,goW_far (by unfold outI;rw [if_neg (by rw [hma];decide)])]
    unfold GoIs
    simp
   have k5:Below w4.heap.size w4 (w4.alloc (.cells #[.int .i64 0, .int .i64 0, .int .i64 0, .int .i64 0, .int .i64 0, .int .i64 0] 52)):=(Below.refl _ _).alloc (Nat.le_refl _) _
   have RR5:=RR4.below k5 (by omega)
   have B5:=kv4.trans (k5.mono (by omega))
   clear HG hma RH4 RW4 RR4 k5
   have o0:=RR5.cell 0 _ rfl
   have f0:=RR5.free 0 (by simp)
   have o1:=RR5.cell 1 _ rfl
   have f1:=RR5.free 1 (by simp)
   have o2:=RR5.cell 2 _ rfl
   have f2:=RR5.free 2 (by simp)
   have RX:=(((RR5.set 0 (.int .i64 0) (by simp)).set 1 (.int .i64 0) (by simp)).set 2 (.int .i64 0) (by simp))
   have BZ:=(((B5.setCell (p:=⟨w.heap.size+1,0,none⟩) (by simp) (.int .i64 0)).setCell (p:=⟨w.heap.size+1,1,none⟩) (by simp) (.int .i64 0)).setCell (p:=⟨w.heap.size+1,2,none⟩) (by simp) (.int .i64 0))
   have n0:=RX.cell 0 _ rfl
   have n1:=RX.cell 1 _ rfl
   have n2:=RX.cell 2 _ rfl
   clear RX RR5
   go_wp2
   exact bodyPost_ret (v:= .tuple #[.agg #[.int .i64 0, .int .i64 0, .int .i64 0], .int .i64 (st:Int), .bool false]) (by simp [results,Tryz.results23,go_sem, *]) rfl ⟨HFI.out,BZ⟩
  |true=>
   rw [hma,corn_all hma]at he
   obtain⟨a0,ha0⟩: ∃ a,a=mvX S c.t 0 x:=⟨_,rfl⟩
   obtain⟨b0,hb0⟩: ∃ a,a=mvY S c.t 0 y:=⟨_,rfl⟩
   obtain⟨a1,ha1⟩: ∃ a,a=mvX S c.t 1 x:=⟨_,rfl⟩
   obtain⟨b1,hb1⟩: ∃ a,a=mvY S c.t 1 y:=⟨_,rfl⟩
   obtain⟨a2,ha2⟩: ∃ a,a=mvX S c.t 2 x:=⟨_,rfl⟩
   obtain⟨b2,hb2⟩: ∃ a,a=mvY S c.t 2 y:=⟨_,rfl⟩
   have he:e= .returned (.tuple #[.agg #[.int .i64 a0, .int .i64 b0, .int .i64 a1, .int .i64 b1, .int .i64 a2, .int .i64 b2], .bool true]):=by rw [ha0,hb0,ha1,hb1,ha2,hb2];exact he
   subst he
   obtain⟨i,hi⟩: ∃ i,i=outK S c.t x y q1 q2:=⟨_,rfl⟩
   have HI:Hid (outI S c.t x y q1 q2=i):=by unfold Hid outI;rw [if_pos hma,hi]
   have hcs:i= -1∨0≤i∧i<3:=by
    rcases out_cases S c.t x y q1 q2 with⟨h,_⟩|⟨_,_,h⟩
    ·rw [hma]at h;cases h
    ·rw [←hi]at h;omega
   have COx:Hid (∀ w',Calls Tryz.prog 58 #[.agg #[ptR pp, .int .i64 q1, .int .i64 q2], .agg #[.int .i64 a0, .int .i64 b0, .int .i64 a1, .int .i64 b1, .int .i64 a2, .int .i64 b2]] w' fun e w''=>e= .returned (.int .i64 i)∧Below w'.heap.size w' w''):=fun w'=>by
    rw [ha0,hb0,ha1,hb1,ha2,hb2]
    exact CO.out w' c x y i hma hi
   have hmv:=mv_small (mvAll_iff.1 hma).1
   obtain⟨ab,hab⟩: ∃ x,x=w4.heap.size:=⟨_,rfl⟩
   obtain⟨w5,hw5⟩: ∃ w5,w5=w4.alloc (.cells #[.int .i64 a0, .int .i64 b0, .int .i64 a1, .int .i64 b1, .int .i64 a2, .int .i64 b2] 52):=⟨_,rfl⟩
   have k5:Below w4.heap.size w4 w5:=by rw [hw5];exact(Below.refl _ _).alloc (Nat.le_refl _) _
   have RA5:Row w5 ab [.int .i64 a0, .int .i64 b0, .int .i64 a1, .int .i64 b1, .int .i64 a2, .int .i64 b2]:=by rw [hw5,hab];exact Row.new w4 [.int .i64 a0, .int .i64 b0, .int .i64 a1, .int .i64 b1, .int .i64 a2, .int .i64 b2] _
   have z5:=k5.size
   have RH5:=RH4.below k5 (by omega)
   have RW5:=RW4.below k5 (by omega)
   have RR5:=RR4.below k5 (by omega)
   have kv5:Below w.heap.size w w5:=kv4.trans (k5.mono (by omega))
   have kr5:Keep (fun k=>k=hb) w3 w5:=k4.to k5
   have H5:Hid _:=hw5.symm
   have HAB:Hid _:=hab.symm
   have v0:=RW5.cell 0 _ rfl
   have v1:=RW5.cell 1 _ rfl
   have v2:=RW5.cell 2 _ rfl
   have s0:=RA5.cell 0 _ rfl
   have s1:=RA5.cell 1 _ rfl
   have s2:=RA5.cell 2 _ rfl
   have s3:=RA5.cell 3 _ rfl
   have s4:=RA5.cell 4 _ rfl
   have s5:=RA5.cell 5 _ rfl
   clear hi ha0 hb0 ha1 hb1 ha2 hb2 hma hab hw5 RH4 RW4 RR4 k4 k5 kv4 RA5
   go_upto_region 5 with fail
   rw [H5.out,HAB.out]
   clear H5 HAB
   go_wp2_with (go_at_call 58;fail)
   refine Calls.mono (COx.out _) ?_
   rintro e w6 ⟨rfl,b6⟩
   have z6:=b6.size
   have k6:Keep (fun k=>k=hb) w3 w6:=kr5.to b6
   have kv6:Below w.heap.size w w6:=kv5.trans (b6.mono (by omega))
   have RH6:=RH5.below b6 (by omega)
   have RW6:=RW5.below b6 (by omega)
   have RR6:=RR5.below b6 (by omega)
   have h0:=RH6.cell 0 _ rfl
   have h1:=RH6.cell 1 _ rfl
   have h2:=RH6.cell 2 _ rfl
   clear COx v0 v1 v2 s0 s1 s2 s3 s4 s5 RH5 RW5 RR5 kr5 kv5 b6
   by_cases hin:i= -1
   ·have HFI:Hid (GoIs G (.returned (.tuple #[.agg #[.int .i64 no, .int .i64 x, .int .i64 y], .int .i64 (st:Int), .bool true]))):=by
     unfold Hid
     rw [HG.out,goW_here (HI.out.trans hin),HNO.out]
     unfold GoIs
     simp
    subst hin
    clear HG HI hcs hmv
    have o0:=RR6.cell 0 _ rfl
    have f0:=RR6.free 0 (by simp)
    have o1:=RR6.cell 1 _ rfl
    have f1:=RR6.free 1 (by simp)
    have o2:=RR6.cell 2 _ rfl
    have f2:=RR6.free 2 (by simp)
    have RX:=(((RR6.set 0 (.int .i64 no) (by simp)).set 1 (.int .i64 x) (by simp)).set 2 (.int .i64 y) (by simp))
    have BZ:=(((kv6.setCell (p:=⟨w.heap.size+1,0,none⟩) (by simp) (.int .i64 no)).setCell (p:=⟨w.heap.size+1,1,none⟩) (by simp) (.int .i64 x)).setCell (p:=⟨w.heap.size+1,2,none⟩) (by simp) (.int .i64 y))
    have n0:=RX.cell 0 _ rfl
    have n1:=RX.cell 1 _ rfl
    have n2:=RX.cell 2 _ rfl
    clear RX RR6
    go_wp2
    exact bodyPost_ret (v:= .tuple #[.agg #[.int .i64 no, .int .i64 x, .int .i64 y], .int .i64 (st:Int), .bool true]) (by simp [results,Tryz.results23,go_sem, *]) rfl ⟨HFI.out,BZ⟩
   ·obtain⟨j,hj⟩: ∃ j:Nat,i=(j:Int):=⟨i.toNat,by omega⟩
    have hj3:j<3:=by omega
    have hpos: ¬(i<0):=by omega
    have HJ:Hid _:=hj
    clear hcs hin hj
    by_cases hk0:k=0
    ·have HFI:Hid (GoIs G (.returned (.tuple #[.agg #[.int .i64 0, .int .i64 0, .int .i64 0], .int .i64 (st:Int), .bool false]))):=by
      unfold Hid
      rw [HG.out,hk0,goW_dry (by rw [HI.out];omega)]
      unfold GoIs
      simp
     have heq:((st:Int)==(K:Int))=true:=by have:=HK.out;simp;omega
     clear HG HI hmv
     have o0:=RR6.cell 0 _ rfl
     have f0:=RR6.free 0 (by simp)
     have o1:=RR6.cell 1 _ rfl
     have f1:=RR6.free 1 (by simp)
     have o2:=RR6.cell 2 _ rfl
     have f2:=RR6.free 2 (by simp)
     have RX:=(((RR6.set 0 (.int .i64 0) (by simp)).set 1 (.int .i64 0) (by simp)).set 2 (.int .i64 0) (by simp))
     have BZ:=(((kv6.setCell (p:=⟨w.heap.size+1,0,none⟩) (by simp) (.int .i64 0)).setCell (p:=⟨w.heap.size+1,1,none⟩) (by simp) (.int .i64 0)).setCell (p:=⟨w.heap.size+1,2,none⟩) (by simp) (.int .i64 0))
     have n0:=RX.cell 0 _ rfl
     have n1:=RX.cell 1 _ rfl
     have n2:=RX.cell 2 _ rfl
     clear RX RR6
     go_wp2
     exact bodyPost_ret (v:= .tuple #[.agg #[.int .i64 0, .int .i64 0, .int .i64 0], .int .i64 (st:Int), .bool false]) (by simp [results,Tryz.results23,go_sem, *]) rfl ⟨HFI.out,BZ⟩
    ·obtain⟨k',rfl⟩: ∃ k',k=k'+1:=⟨k- 1,by omega⟩
     have heq:((st:Int)==(K:Int))=false:=beq_eq_false_iff_ne.2 (by have:=HK.out;omega)
     have v0:=RW6.cell 0 _ rfl
     have v1:=RW6.cell 1 _ rfl
     have v2:=RW6.cell 2 _ rfl
     have CX:Hid (Calls Tryz.prog 59 #[.agg #[ptR pp, .int .i64 q1, .int .i64 q2], .agg #[.int .i64 no, .int .i64 x, .int .i64 y], .int .i64 i] w6 fun e w''=>StepIs (stepC S c j) x y e∧Below w6.heap.size w6 w''):=by
      rw [HNO.out,HJ.out]
      exact CA.out w6 c x y j HC.out kv6 hj3 (by omega) (by omega)
     go_wp2_with (go_at_call 59;fail)
     refine Calls.mono CX.out ?_
     rintro e w7 ⟨he,b7⟩
     have k7:Keep (fun k=>k=hb) w3 w7:=k6.to b7
     have z7:=b7.size
     have kv7:Below w.heap.size w w7:=kv6.trans (b7.mono (by have:=kv6.size;omega))
     have RH7:=RH6.below b7 (by omega)
     have RR7:=RR6.below b7 (by omega)
     have zk7:=kv7.size
     clear CX v0 v1 v2 h0 h1 h2 RH6 RW6 RR6 b7 kv6 k6
     cases hs:stepC S c j with
     |none=>
      rw [hs]at he
      have he:e=_:=he
      subst he
      have HFI:Hid (GoIs G (.returned (.tuple #[.agg #[.int .i64 0, .int .i64 0, .int .i64 0], .int .i64 (st:Int), .bool false]))):=by
       unfold Hid
       rw [HG.out,goW_out (by rw [HI.out];omega) (by rw [HI.out,HJ.out];exact hs)]
       unfold GoIs
       simp
      have k8:Below w7.heap.size w7 (w7.alloc (.cells #[.int .i64 0, .int .i64 0, .int .i64 0] 70)):=(Below.refl _ _).alloc (Nat.le_refl _) _
      have RR8:=RR7.below k8 (by omega)
      have B8:=kv7.trans (k8.mono zk7)
      clear HG HI hs hmv
      have o0:=RR8.cell 0 _ rfl
      have f0:=RR8.free 0 (by simp)
      have o1:=RR8.cell 1 _ rfl
      have f1:=RR8.free 1 (by simp)
      have o2:=RR8.cell 2 _ rfl
      have f2:=RR8.free 2 (by simp)
      have RX:=(((RR8.set 0 (.int .i64 0) (by simp)).set 1 (.int .i64 0) (by simp)).set 2 (.int .i64 0) (by simp))
      have BZ:=(((B8.setCell (p:=⟨w.heap.size+1,0,none⟩) (by simp) (.int .i64 0)).setCell (p:=⟨w.heap.size+1,1,none⟩) (by simp) (.int .i64 0)).setCell (p:=⟨w.heap.size+1,2,none⟩) (by simp) (.int .i64 0))
      have n0:=RX.cell 0 _ rfl
      have n1:=RX.cell 1 _ rfl
      have n2:=RX.cell 2 _ rfl
      clear RX RR8
      go_wp2
      exact bodyPost_ret (v:= .tuple #[.agg #[.int .i64 0, .int .i64 0, .int .i64 0], .int .i64 (st:Int), .bool false]) (by simp [results,Tryz.results23,go_sem, *]) rfl ⟨HFI.out,BZ⟩
     |some r=>
      obtain⟨d,dx,dy⟩:=r
      have hsm:=stepC_small HO.out HC.out hj3 hs
      obtain⟨hdm,hs1,hs2⟩:=hsm
      have hdm:d∈S.C:=hdm
      obtain⟨X,hX⟩: ∃ X,X=x+dx:=⟨_,rfl⟩
      obtain⟨Y,hY⟩: ∃ Y,Y=y+dy:=⟨_,rfl⟩
      obtain⟨gn,hgn⟩: ∃ g,g=d.no:=⟨_,rfl⟩
      rw [hs]at he
      have he:e= .returned (.tuple #[.agg #[.int .i64 d.no, .int .i64 (x+dx), .int .i64 (y+dy)], .bool true]):=he
      rw [←hX,←hY,←hgn]at he
      subst he
      have HG1:Hid (G=((goW S q1 q2 k' d X Y).1,(goW S q1 q2 k' d X Y).2+(st+1))):=by
       unfold Hid
       rw [HG.out,goW_step (r:=(d,dx,dy)) (by rw [HI.out];omega) (by rw [HI.out,HJ.out];exact hs),hX,hY]
       simp only
       rw [Nat.add_assoc,Nat.add_comm 1 st]
      obtain⟨nb,hnb⟩: ∃ x,x=w7.heap.size:=⟨_,rfl⟩
      obtain⟨w8,hw8⟩: ∃ w8,w8=w7.alloc (.cells #[.int .i64 gn, .int .i64 X, .int .i64 Y] 70):=⟨_,rfl⟩
      have k8:Below w7.heap.size w7 w8:=by rw [hw8];exact(Below.refl _ _).alloc (Nat.le_refl _) _
      have R8:Row w8 nb [.int .i64 gn, .int .i64 X, .int .i64 Y]:=by rw [hw8,hnb];exact Row.new w7 [.int .i64 gn, .int .i64 X, .int .i64 Y] _
      have lnh:hb<nb:=by omega
      have K8:Keep (fun k=>k=hb) w3 w8:=k7.to k8
      have RH8:=RH7.below k8 (by omega)
      have e0:=R8.cell 0 _ rfl
      have e1:=R8.cell 1 _ rfl
      have e2:=R8.cell 2 _ rfl
      have u0:=RH8.cell 0 _ rfl
      have u1:=RH8.cell 1 _ rfl
      have u2:=RH8.cell 2 _ rfl
      have u3:=RH8.free 0 (by simp)
      have u4:=RH8.free 1 (by simp)
      have u5:=RH8.free 2 (by simp)
      have KF:Keep (fun k=>k=hb) w3 (((w8.setCell ⟨hb,0,none⟩ (.int .i64 gn)).setCell ⟨hb,1,none⟩ (.int .i64 X)).setCell ⟨hb,2,none⟩ (.int .i64 Y)):=((K8.set (p:=⟨hb,0,none⟩) (Or.inl rfl) _).set (p:=⟨hb,1,none⟩) (Or.inl rfl) _).set (p:=⟨hb,2,none⟩) (Or.inl rfl) _
      have RHF:Hid (Row (((w8.setCell ⟨hb,0,none⟩ (.int .i64 gn)).setCell ⟨hb,1,none⟩ (.int .i64 X)).setCell ⟨hb,2,none⟩ (.int .i64 Y)) hb [.int .i64 d.no, .int .i64 X, .int .i64 Y]):=by
       have:=((RH8.set 0 (.int .i64 gn) (by simp)).set 1 (.int .i64 X) (by simp)).set 2 (.int .i64 Y) (by simp)
       rw [←hgn]
       exact this
      have HKK:Hid (st+1+k'=K):=by unfold Hid;rw [←HK.out];omega
      have H8:Hid _:=hw8.symm
      have HNB:Hid _:=hnb.symm
      have HKF:Hid _:=KF
      clear HG HI hs hmv hs1 hs2 hX hY hgn hw8 hnb R8 RH8 RH7 RR7 kv7 k7 K8 KF k8
      go_upto_region 13 with fail
      rw [H8.out,HNB.out]
      clear H8 HNB
      go_wp2
      go_roundw
      case rel=>exact⟨d,X,Y,st+1,k',hdm,by simp,HKK,HG1,RHF,HKF.out⟩
      case measure=>have:=HKK.out;simp [Go.RowKit.intOf];omega
theorem floor_few{x s:Int}(hs:sideC s=true)(hx:inC x=true):hf.nlen (x.sign*s.sign*((x.natAbs/s.natAbs:Nat):Int)).natAbs≤1000000∧hf.nlen (flQ x s).natAbs≤1000000∧hf.nlen (flQ x s*s).natAbs≤1000000:=by
 obtain⟨d1,d2,m1,m2,s2⟩:=fold_bound hs hx
 obtain⟨s1,_⟩:=sideC_true.1 hs
 obtain⟨x1,x2⟩:=inC_true.1 hx
 have e:=Int.mul_ediv_add_emod x s
 rw [(flQ_ediv x s (by omega)).1]
 refine⟨hfew (K:=2) ?_ (by decide),hfew (K:=2) (by omega) (by decide),hfew (K:=2) ?_ (by decide)⟩
 ·rw [Int.natAbs_mul,Int.natAbs_mul,Int.natAbs_natCast]
  have a1:x.sign.natAbs≤1:=by rcases sign_cases x with⟨_,s⟩|⟨_,s⟩|⟨_,s⟩<;>rw [s]<;>decide
  have a2:s.sign.natAbs≤1:=by rcases sign_cases s with⟨_,s⟩|⟨_,s⟩|⟨_,s⟩<;>rw [s]<;>decide
  have a3:=Nat.mul_le_mul (Nat.mul_le_mul a1 a2) (Nat.div_le_self x.natAbs s.natAbs)
  omega
 ·rw [Int.mul_comm]at e;omega
theorem sm_small{z:Int}(h: -1099511627776≤z∧z≤1099511627776):z=smV z∧true=smOk z:=sm_in (inC_true.2 h)
theorem few_in{z:Int}(h: -1099511627776≤z∧z≤1099511627776):hf.nlen z.natAbs≤1000000:=few_i64 (by omega)
set_option maxRecDepth 100000 in
set_option maxHeartbeats 8000000 in
theorem rlHome(x y s:Int)(w:World)(BX:Hid (-9223372036854775808≤x∧x≤9223372036854775807))(BY:Hid (-9223372036854775808≤y∧y≤9223372036854775807))(BS:Hid (-9223372036854775808≤s∧s≤9223372036854775807)){a c p q:Int}{b:Bool}(hb:b=homeC x y s)(ha:a=if b then x % s else 0)(hc':c=if b then y % s else 0)(hp:p=if b then x/s else 0)(hq:q=if b then y/s else 0):
  Calls Tryz.prog 26 #[.agg #[.int .i64 x, .int .i64 y], .int .i64 s] w fun e w'=>e= .returned (.tuple #[.agg #[.int .i64 a, .int .i64 c], .agg #[.int .i64 p, .int .i64 q], .bool b])∧Below w.heap.size w w':=by
 cases hs:sideC s
 ·skip
  have h0:=@home_no_side x y s hs
  obtain rfl:b=false:=by rw [hb,h0]
  obtain rfl:a=0:=ha
  obtain rfl:c=0:=hc'
  obtain rfl:p=0:=hp
  obtain rfl:q=0:=hq
  clear hb h0
  obtain⟨W,hW,bW,x_p,x_z,x_t,sW⟩:=bs_222 w (.int .i64 x) (.int .i64 y) (.int .i64 0) (.int .i64 0) (.int .i64 0) (.int .i64 0) 24 24 32
  have zbW:=bW.size
  have BB:=bW
  go_enter Tryz.func26,Tryz.ntmps26
  go_wp2_with (go_at_call 43;fail)
  rw [←hW]
  clear hW
  refine(rlTorus s W hs.symm).mono ?_
  rintro e w1 ⟨rfl,bw1⟩
  have zbw1:=bw1.size
  replace BB:=also BB bw1
  replace x_p:=x_p.on bw1
  replace x_z:=x_z.on bw1
  replace x_t:=x_t.on bw1
  have⟨x_p_0,x_p_1,x_p_2,x_p_3⟩:=x_p
  have⟨x_z_0,x_z_1,x_z_2,x_z_3⟩:=x_z
  have⟨x_t_0,x_t_1,x_t_2,x_t_3⟩:=x_t
  go_wp2
  exact bodyPost_ret (v:= .tuple #[.agg #[.int .i64 0, .int .i64 0], .agg #[.int .i64 0, .int .i64 0], .bool false]) (by simp [results,Tryz.results26,go_sem, *]) rfl (⟨rfl,below_put2 (below_put2 BB (by omega) _ _) (by omega) _ _⟩)
 ·skip
  cases hc:canC x y
  ·skip
   have h0:=@home_no_can x y s hc
   obtain rfl:b=false:=by rw [hb,h0]
   obtain rfl:a=0:=ha
   obtain rfl:c=0:=hc'
   obtain rfl:p=0:=hp
   obtain rfl:q=0:=hq
   clear hb h0
   obtain⟨W,hW,bW,x_p,x_z,x_t,sW⟩:=bs_222 w (.int .i64 x) (.int .i64 y) (.int .i64 0) (.int .i64 0) (.int .i64 0) (.int .i64 0) 24 24 32
   have zbW:=bW.size
   have BB:=bW
   go_enter Tryz.func26,Tryz.ntmps26
   go_wp2_with (go_at_call 43;fail)
   rw [←hW]
   clear hW
   refine(rlTorus s W hs.symm).mono ?_
   rintro e w1 ⟨rfl,bw1⟩
   have zbw1:=bw1.size
   replace BB:=also BB bw1
   replace x_p:=x_p.on bw1
   replace x_z:=x_z.on bw1
   replace x_t:=x_t.on bw1
   have⟨x_p_0,x_p_1,x_p_2,x_p_3⟩:=x_p
   have⟨x_z_0,x_z_1,x_z_2,x_z_3⟩:=x_z
   have⟨x_t_0,x_t_1,x_t_2,x_t_3⟩:=x_t
   go_wp2_with (go_at_call 13;fail)
   refine(rlCan x y w1 BX.out BY.out hc.symm).mono ?_
   rintro e w2 ⟨rfl,bw2⟩
   clear x_p_0 x_p_1 x_p_2 x_p_3 x_z_0 x_z_1 x_z_2 x_z_3 x_t_0 x_t_1 x_t_2 x_t_3
   have zbw2:=bw2.size
   replace BB:=also BB bw2
   replace x_p:=x_p.on bw2
   replace x_z:=x_z.on bw2
   replace x_t:=x_t.on bw2
   have⟨x_p_0,x_p_1,x_p_2,x_p_3⟩:=x_p
   have⟨x_z_0,x_z_1,x_z_2,x_z_3⟩:=x_z
   have⟨x_t_0,x_t_1,x_t_2,x_t_3⟩:=x_t
   go_wp2
   exact bodyPost_ret (v:= .tuple #[.agg #[.int .i64 0, .int .i64 0], .agg #[.int .i64 0, .int .i64 0], .bool false]) (by simp [results,Tryz.results26,go_sem, *]) rfl (⟨rfl,below_put2 (below_put2 BB (by omega) _ _) (by omega) _ _⟩)
  ·skip
   obtain rfl:b=true:=by rw [hb];unfold homeC;rw [hs,hc];rfl
   have HC1:Hid (inC x=true):=(canC_true.1 hc).1
   have HC2:Hid (inC y=true):=(canC_true.1 hc).2
   have hsp:0<s:=by have:=sideC_true.1 hs;omega
   have Ha:Hid (a=flR x s):=by unfold Hid;rw [(flQ_ediv x s hsp).2];exact ha
   have Hc:Hid (c=flR y s):=by unfold Hid;rw [(flQ_ediv y s hsp).2];exact hc'
   have Hp:Hid (p=flQ x s):=by unfold Hid;rw [(flQ_ediv x s hsp).1];exact hp
   have Hq:Hid (q=flQ y s):=by unfold Hid;rw [(flQ_ediv y s hsp).1];exact hq
   obtain⟨e1,e2,e3,e4,e5⟩:=fold_bound hs HC1.out
   obtain⟨e6,e7,e8,e9,_⟩:=fold_bound hs HC2.out
   replace ha:a=x % s:=ha
   replace hc':c=y % s:=hc'
   replace hp:p=x/s:=hp
   replace hq:q=y/s:=hq
   have Ba:Hid (-1099511627776≤a∧a≤1099511627776):=by unfold Hid;rw [ha];omega
   have Bc:Hid (-1099511627776≤c∧c≤1099511627776):=by unfold Hid;rw [hc'];omega
   have Bp:Hid (-1099511627776≤p∧p≤1099511627776):=by unfold Hid;rw [hp];omega
   have Bq:Hid (-1099511627776≤q∧q≤1099511627776):=by unfold Hid;rw [hq];omega
   have HS0:Hid (s≠0):=by unfold Hid;omega
   clear hb ha hc' hp hq e1 e2 e3 e4 e5 e6 e7 e8 e9 hsp
   have FX:=floor_few hs HC1.out
   have FY:=floor_few hs HC2.out
   have FX':Hid _:=FX
   have FY':Hid _:=FY
   clear FX FY
   obtain⟨W,hW,bW,x_p,x_z,x_t,sW⟩:=bs_222 w (.int .i64 x) (.int .i64 y) (.int .i64 0) (.int .i64 0) (.int .i64 0) (.int .i64 0) 24 24 32
   have zbW:=bW.size
   have BB:=bW
   go_enter Tryz.func26,Tryz.ntmps26
   go_wp2_with (go_at_call 43;fail)
   rw [←hW]
   clear hW
   refine(rlTorus s W hs.symm).mono ?_
   rintro e w1 ⟨rfl,bw1⟩
   have zbw1:=bw1.size
   replace BB:=also BB bw1
   replace x_p:=x_p.on bw1
   replace x_z:=x_z.on bw1
   replace x_t:=x_t.on bw1
   have⟨x_p_0,x_p_1,x_p_2,x_p_3⟩:=x_p
   have⟨x_z_0,x_z_1,x_z_2,x_z_3⟩:=x_z
   have⟨x_t_0,x_t_1,x_t_2,x_t_3⟩:=x_t
   go_wp2_with (go_at_call 13;fail)
   refine(rlCan x y w1 BX.out BY.out hc.symm).mono ?_
   rintro e w2 ⟨rfl,bw2⟩
   clear x_p_0 x_p_1 x_p_2 x_p_3 x_z_0 x_z_1 x_z_2 x_z_3 x_t_0 x_t_1 x_t_2 x_t_3
   have zbw2:=bw2.size
   replace BB:=also BB bw2
   replace x_p:=x_p.on bw2
   replace x_z:=x_z.on bw2
   replace x_t:=x_t.on bw2
   have⟨x_p_0,x_p_1,x_p_2,x_p_3⟩:=x_p
   have⟨x_z_0,x_z_1,x_z_2,x_z_3⟩:=x_z
   have⟨x_t_0,x_t_1,x_t_2,x_t_3⟩:=x_t
   go_wp2_with (go_at_call 39;fail)
   refine(rwLong x w2 BX.out.1 BX.out.2).mono ?_
   rintro e v10 ⟨s10,d10,l10,c10,rfl,r10,f10,bv10⟩
   clear x_p_0 x_p_1 x_p_2 x_p_3 x_z_0 x_z_1 x_z_2 x_z_3 x_t_0 x_t_1 x_t_2 x_t_3
   have zbv10:=bv10.size
   replace BB:=also BB bv10
   replace x_p:=x_p.on bv10
   replace x_z:=x_z.on bv10
   replace x_t:=x_t.on bv10
   go_wp2_with (go_at_call 39;fail)
   refine(rwLong s v10 BS.out.1 BS.out.2).mono ?_
   rintro e v11 ⟨s11,d11,l11,c11,rfl,r11,f11,bv11⟩
   have zbv11:=bv11.size
   replace BB:=also BB bv11
   replace x_p:=x_p.on bv11
   replace x_z:=x_z.on bv11
   replace x_t:=x_t.on bv11
   replace r10:=r10.below bv11
   go_wp2_with (go_at_call 61;fail)
   refine(rwFloorF s10 s11 d10 d11 l10 c10 l11 c11 x s v11 r10 r11 (few_i64 BX.out) (few_i64 BS.out) HS0.out FX'.out.1 FX'.out.2.1 FX'.out.2.2 p a Hp.out Ha.out).mono ?_
   rintro e v12 ⟨s12,d12,l12,c12,s13,d13,l13,c13,rfl,r12,r13,f13,bv12⟩
   have zbv12:=bv12.size
   replace BB:=also BB bv12
   replace x_p:=x_p.on bv12
   replace x_z:=x_z.on bv12
   replace x_t:=x_t.on bv12
   replace r10:=r10.below bv12
   replace r11:=r11.below bv12
   clear r10 r11
   obtain⟨V10,hV10,bV10,x_fi,x_fx,sV10⟩:=bs_22 v12 (.int .i64 s12) (.slice d12 l12 c12) (.int .i64 s13) (.slice d13 l13 c13) 102 102
   have zbV10:=bV10.size
   replace BB:=also BB bV10
   replace x_p:=x_p.on bV10
   replace x_z:=x_z.on bV10
   replace x_t:=x_t.on bV10
   replace r12:=r12.below bV10
   replace r13:=r13.below bV10
   have st_p_0:((v12.alloc (.cells #[.int .i64 s12, .slice d12 l12 c12] 102)).alloc (.cells #[.int .i64 s13, .slice d13 l13 c13] 102)).cell? ⟨w.heap.size,0,none⟩=some (.int .i64 x):=by rw [←hV10];exact x_p.c0
   have st_p_1:((v12.alloc (.cells #[.int .i64 s12, .slice d12 l12 c12] 102)).alloc (.cells #[.int .i64 s13, .slice d13 l13 c13] 102)).cell? ⟨w.heap.size,1,none⟩=some (.int .i64 y):=by rw [←hV10];exact x_p.c1
   have sf_p_0:((v12.alloc (.cells #[.int .i64 s12, .slice d12 l12 c12] 102)).alloc (.cells #[.int .i64 s13, .slice d13 l13 c13] 102)).frozen? ⟨w.heap.size,0,none⟩=false:=by rw [←hV10];exact x_p.f0
   have sf_p_1:((v12.alloc (.cells #[.int .i64 s12, .slice d12 l12 c12] 102)).alloc (.cells #[.int .i64 s13, .slice d13 l13 c13] 102)).frozen? ⟨w.heap.size,1,none⟩=false:=by rw [←hV10];exact x_p.f1
   go_wp2_with (go_at_call 39;fail)
   rw [←hV10]
   clear hV10 st_p_0 st_p_1 sf_p_0 sf_p_1
   refine(rwLong y V10 BY.out.1 BY.out.2).mono ?_
   rintro e v20 ⟨s20,d20,l20,c20,rfl,r20,f20,bv20⟩
   have zbv20:=bv20.size
   replace BB:=also BB bv20
   replace x_p:=x_p.on bv20
   replace x_z:=x_z.on bv20
   replace x_t:=x_t.on bv20
   replace r12:=r12.below bv20
   replace r13:=r13.below bv20
   replace x_fi:=x_fi.on bv20
   replace x_fx:=x_fx.on bv20
   go_wp2_with (go_at_call 39;fail)
   refine(rwLong s v20 BS.out.1 BS.out.2).mono ?_
   rintro e v21 ⟨s21,d21,l21,c21,rfl,r21,f21,bv21⟩
   have zbv21:=bv21.size
   replace BB:=also BB bv21
   replace x_p:=x_p.on bv21
   replace x_z:=x_z.on bv21
   replace x_t:=x_t.on bv21
   replace r12:=r12.below bv21
   replace r13:=r13.below bv21
   replace x_fi:=x_fi.on bv21
   replace x_fx:=x_fx.on bv21
   replace r20:=r20.below bv21
   go_wp2_with (go_at_call 61;fail)
   refine(rwFloorF s20 s21 d20 d21 l20 c20 l21 c21 y s v21 r20 r21 (few_i64 BY.out) (few_i64 BS.out) HS0.out FY'.out.1 FY'.out.2.1 FY'.out.2.2 q c Hq.out Hc.out).mono ?_
   rintro e v22 ⟨s22,d22,l22,c22,s23,d23,l23,c23,rfl,r22,r23,f23,bv22⟩
   have zbv22:=bv22.size
   replace BB:=also BB bv22
   replace x_p:=x_p.on bv22
   replace x_z:=x_z.on bv22
   replace x_t:=x_t.on bv22
   replace r12:=r12.below bv22
   replace r13:=r13.below bv22
   replace x_fi:=x_fi.on bv22
   replace x_fx:=x_fx.on bv22
   replace r20:=r20.below bv22
   replace r21:=r21.below bv22
   clear r20 r21
   obtain⟨V20,hV20,bV20,x_fk,x_fy,sV20⟩:=bs_22 v22 (.int .i64 s22) (.slice d22 l22 c22) (.int .i64 s23) (.slice d23 l23 c23) 102 102
   have zbV20:=bV20.size
   replace BB:=also BB bV20
   replace x_p:=x_p.on bV20
   replace x_z:=x_z.on bV20
   replace x_t:=x_t.on bV20
   replace r12:=r12.below bV20
   replace r13:=r13.below bV20
   replace x_fi:=x_fi.on bV20
   replace x_fx:=x_fx.on bV20
   replace r22:=r22.below bV20
   replace r23:=r23.below bV20
   have st_fx_0:((v22.alloc (.cells #[.int .i64 s22, .slice d22 l22 c22] 102)).alloc (.cells #[.int .i64 s23, .slice d23 l23 c23] 102)).cell? ⟨v12.heap.size+1,0,none⟩=some (.int .i64 s13):=by rw [←hV20];exact x_fx.c0
   have st_fx_1:((v22.alloc (.cells #[.int .i64 s22, .slice d22 l22 c22] 102)).alloc (.cells #[.int .i64 s23, .slice d23 l23 c23] 102)).cell? ⟨v12.heap.size+1,1,none⟩=some (.slice d13 l13 c13):=by rw [←hV20];exact x_fx.c1
   have sf_fx_0:((v22.alloc (.cells #[.int .i64 s22, .slice d22 l22 c22] 102)).alloc (.cells #[.int .i64 s23, .slice d23 l23 c23] 102)).frozen? ⟨v12.heap.size+1,0,none⟩=false:=by rw [←hV20];exact x_fx.f0
   have sf_fx_1:((v22.alloc (.cells #[.int .i64 s22, .slice d22 l22 c22] 102)).alloc (.cells #[.int .i64 s23, .slice d23 l23 c23] 102)).frozen? ⟨v12.heap.size+1,1,none⟩=false:=by rw [←hV20];exact x_fx.f1
   go_wp2_with (go_at_call 44;fail)
   rw [←hV20]
   clear hV20 st_fx_0 st_fx_1 sf_fx_0 sf_fx_1
   refine(rwSmall s13 d13 l13 c13 a V20 r13 (few_in Ba.out) (sm_small Ba.out).1 (sm_small Ba.out).2).mono ?_
   rintro e x0 ⟨rfl,bx0⟩
   have zbx0:=bx0.size
   replace BB:=also BB bx0
   replace x_p:=x_p.on bx0
   replace x_z:=x_z.on bx0
   replace x_t:=x_t.on bx0
   replace r12:=r12.below bx0
   replace r13:=r13.below bx0
   replace x_fi:=x_fi.on bx0
   replace x_fx:=x_fx.on bx0
   replace r22:=r22.below bx0
   replace r23:=r23.below bx0
   replace x_fk:=x_fk.on bx0
   replace x_fy:=x_fy.on bx0
   have⟨x_fx_0,x_fx_1,x_fx_2,x_fx_3⟩:=x_fx
   have⟨x_fy_0,x_fy_1,x_fy_2,x_fy_3⟩:=x_fy
   have⟨x_fi_0,x_fi_1,x_fi_2,x_fi_3⟩:=x_fi
   have⟨x_fk_0,x_fk_1,x_fk_2,x_fk_3⟩:=x_fk
   have⟨x_z_0,x_z_1,x_z_2,x_z_3⟩:=x_z
   have⟨x_t_0,x_t_1,x_t_2,x_t_3⟩:=x_t
   go_wp2_with (go_at_call 44;fail)
   refine(rwSmall s23 d23 l23 c23 c x0 r23 (few_in Bc.out) (sm_small Bc.out).1 (sm_small Bc.out).2).mono ?_
   rintro e x1 ⟨rfl,bx1⟩
   clear x_fx_0 x_fx_1 x_fx_2 x_fx_3 x_fy_0 x_fy_1 x_fy_2 x_fy_3 x_fi_0 x_fi_1 x_fi_2 x_fi_3 x_fk_0 x_fk_1 x_fk_2 x_fk_3 x_z_0 x_z_1 x_z_2 x_z_3 x_t_0 x_t_1 x_t_2 x_t_3
   have zbx1:=bx1.size
   replace BB:=also BB bx1
   replace x_p:=x_p.on bx1
   replace x_z:=x_z.on bx1
   replace x_t:=x_t.on bx1
   replace r12:=r12.below bx1
   replace r13:=r13.below bx1
   replace x_fi:=x_fi.on bx1
   replace x_fx:=x_fx.on bx1
   replace r22:=r22.below bx1
   replace r23:=r23.below bx1
   replace x_fk:=x_fk.on bx1
   replace x_fy:=x_fy.on bx1
   have⟨x_fx_0,x_fx_1,x_fx_2,x_fx_3⟩:=x_fx
   have⟨x_fy_0,x_fy_1,x_fy_2,x_fy_3⟩:=x_fy
   have⟨x_fi_0,x_fi_1,x_fi_2,x_fi_3⟩:=x_fi
   have⟨x_fk_0,x_fk_1,x_fk_2,x_fk_3⟩:=x_fk
   have⟨x_z_0,x_z_1,x_z_2,x_z_3⟩:=x_z
   have⟨x_t_0,x_t_1,x_t_2,x_t_3⟩:=x_t
   go_wp2_with (go_at_call 44;fail)
   refine(rwSmall s12 d12 l12 c12 p x1 r12 (few_in Bp.out) (sm_small Bp.out).1 (sm_small Bp.out).2).mono ?_
   rintro e x2 ⟨rfl,bx2⟩
   clear x_fx_0 x_fx_1 x_fx_2 x_fx_3 x_fy_0 x_fy_1 x_fy_2 x_fy_3 x_fi_0 x_fi_1 x_fi_2 x_fi_3 x_fk_0 x_fk_1 x_fk_2 x_fk_3 x_z_0 x_z_1 x_z_2 x_z_3 x_t_0 x_t_1 x_t_2 x_t_3
   have zbx2:=bx2.size
   replace BB:=also BB bx2
   replace x_p:=x_p.on bx2
   replace x_z:=x_z.on bx2
   replace x_t:=x_t.on bx2
   replace r12:=r12.below bx2
   replace r13:=r13.below bx2
   replace x_fi:=x_fi.on bx2
   replace x_fx:=x_fx.on bx2
   replace r22:=r22.below bx2
   replace r23:=r23.below bx2
   replace x_fk:=x_fk.on bx2
   replace x_fy:=x_fy.on bx2
   have⟨x_fx_0,x_fx_1,x_fx_2,x_fx_3⟩:=x_fx
   have⟨x_fy_0,x_fy_1,x_fy_2,x_fy_3⟩:=x_fy
   have⟨x_fi_0,x_fi_1,x_fi_2,x_fi_3⟩:=x_fi
   have⟨x_fk_0,x_fk_1,x_fk_2,x_fk_3⟩:=x_fk
   have⟨x_z_0,x_z_1,x_z_2,x_z_3⟩:=x_z
   have⟨x_t_0,x_t_1,x_t_2,x_t_3⟩:=x_t
   go_wp2_with (go_at_call 44;fail)
   refine(rwSmall s22 d22 l22 c22 q x2 r22 (few_in Bq.out) (sm_small Bq.out).1 (sm_small Bq.out).2).mono ?_
   rintro e x3 ⟨rfl,bx3⟩
   clear x_fx_0 x_fx_1 x_fx_2 x_fx_3 x_fy_0 x_fy_1 x_fy_2 x_fy_3 x_fi_0 x_fi_1 x_fi_2 x_fi_3 x_fk_0 x_fk_1 x_fk_2 x_fk_3 x_z_0 x_z_1 x_z_2 x_z_3 x_t_0 x_t_1 x_t_2 x_t_3
   have zbx3:=bx3.size
   replace BB:=also BB bx3
   replace x_p:=x_p.on bx3
   replace x_z:=x_z.on bx3
   replace x_t:=x_t.on bx3
   replace r12:=r12.below bx3
   replace r13:=r13.below bx3
   replace x_fi:=x_fi.on bx3
   replace x_fx:=x_fx.on bx3
   replace r22:=r22.below bx3
   replace r23:=r23.below bx3
   replace x_fk:=x_fk.on bx3
   replace x_fy:=x_fy.on bx3
   have⟨x_fx_0,x_fx_1,x_fx_2,x_fx_3⟩:=x_fx
   have⟨x_fy_0,x_fy_1,x_fy_2,x_fy_3⟩:=x_fy
   have⟨x_fi_0,x_fi_1,x_fi_2,x_fi_3⟩:=x_fi
   have⟨x_fk_0,x_fk_1,x_fk_2,x_fk_3⟩:=x_fk
   have⟨x_z_0,x_z_1,x_z_2,x_z_3⟩:=x_z
   have⟨x_t_0,x_t_1,x_t_2,x_t_3⟩:=x_t
   go_wp2
   exact bodyPost_ret (v:= .tuple #[.agg #[.int .i64 a, .int .i64 c], .agg #[.int .i64 p, .int .i64 q], .bool true]) (by simp [results,Tryz.results26,go_sem, *]) rfl (⟨rfl,below_put2 (below_put2 BB (by omega) _ _) (by omega) _ _⟩)
theorem fAt_face{S:Ms}{m:Nat}(O:MsOk S m){c:Ce}(hc:c∈S.C): ∃ j:Nat,fAt Ce.no c.no S.C 0=(j:Int)∧S.C[j]? =some c:=by
 rcases fAt_cases Ce.no c.no S.C with⟨_,h⟩|⟨j,a,h1,h2,h3⟩
 ·exact absurd rfl (h c hc)
 ·have e1:=(wgFace O hc).2
  have e2:=(wgFace O (List.mem_of_getElem? h2)).2
  rw [h3,e1]at e2
  cases e2
  exact⟨j,h1,h2⟩
set_option maxRecDepth 100000 in
set_option maxHeartbeats 4000000 in
theorem wrCorner(p:Nat)(S:Ms)(m:Nat)(O:MsOk S m)(hm:m≤1000)(w:World)(h:MeLook p S w)(c:Ce)(hc:c∈S.C)(i:Nat)(hi:i<3)(x y:Int)(hx:In64 x)(hy:In64 y){k:Bool}{u v:Int}(hk:k=mvOk S c.t i x y)(hu:u=if k then mvX S c.t i x else 0)(hv:v=if k then mvY S c.t i y else 0):
  Calls Tryz.prog 62 #[ptR p, .int .i64 c.no, .int .i64 (i:Int), .agg #[.int .i64 x, .int .i64 y]] w fun e w'=>e= .returned (.tuple #[.agg #[.int .i64 u, .int .i64 v], .bool k])∧Below w.heap.size w w':=by
 obtain⟨j,hj,hjc⟩:=fAt_face O hc
 obtain⟨hcx,hcy⟩:=canC_true.1 (plc_can O hc hi)
 have hcx:=inC_true.1 hcx
 have hcy:=inC_true.1 hcy
 have hn:=O.n1
 obtain⟨lV,lC,_⟩:=O.lens
 have hpl:=O.fo c hc i hi
 have hvi:=O.fi c hc i hi
 have h64:Tr64 c.t:=tr64_of O c hc
 have hvs: ∀ v∈S.V,Vt64 v:=vt64_of O hm
 obtain⟨W,hW⟩: ∃ W,W=((w.alloc (.cells #[.int .i64 x, .int .i64 y] 32)).alloc (.cells #[.int .i64 0, .int .i64 0] 24)):=⟨_,rfl⟩
 have bW:Below w.heap.size w W:=by rw [hW];exact(((Below.refl _ _).alloc (Nat.le_refl _) _).alloc (by simp<;>omega) _)
 have zW:W.heap.size=w.heap.size+2:=by rw [hW];simp
 have Ro:Row W (w.heap.size) [.int .i64 x, .int .i64 y]:=by
  have h0:=Row.new w [.int .i64 x, .int .i64 y] 32
  rw [hW];exact(h0.alloc _ (by simp<;>omega))
 have lo:w.heap.size<W.heap.size:=by omega
 have Rr:Row W (w.heap.size+1) [.int .i64 0, .int .i64 0]:=by
  have h0:=Row.new (w.alloc (.cells #[.int .i64 x, .int .i64 y] 32)) [.int .i64 0, .int .i64 0] 24
  simp only [World.size_alloc]at h0
  rw [hW];exact h0
 have lr:w.heap.size+1<W.heap.size:=by omega
 have HW:((w.alloc (.cells #[.int .i64 x, .int .i64 y] 32)).alloc (.cells #[.int .i64 0, .int .i64 0] 24))=W:=hW.symm
 clear hW
 have hL:=h.below bW
 have hpw:p<w.heap.size:=by obtain⟨_,_,_,_,_,_,hr⟩:=h.row;exact hr.lt
 have CF:Hid (∀ w',Below W.heap.size W w'→Calls Tryz.prog 27 #[ptR p, .int .i64 c.no] w' fun e w''=>e= .returned (.int .i64 (j:Int))∧Below w'.heap.size w' w''):=fun w' hb=>mrFaceAt p S c.no w' (hL.below hb) (by omega) hj.symm
 obtain⟨X,hX⟩: ∃ X,X=plX S c.t i:=⟨_,rfl⟩
 obtain⟨Y,hY⟩: ∃ X,X=plY S c.t i:=⟨_,rfl⟩
 rw [←hX]at hcx
 rw [←hY]at hcy
 have CP:Hid (∀ w',Below W.heap.size W w'→Calls Tryz.prog 93 #[ptR p,trV c.t, .int .i64 (i:Int)] w' fun e w''=>e= .returned (.tuple #[.agg #[.int .i64 X, .int .i64 Y], .bool true])∧Below w'.heap.size w' w''):=fun w' hb=>mrPlace p S c.t i w' hi (hL.below hb) (by omega) ⟨by omega,by omega⟩ hvs h64 hvi hpl.symm hX hY
 obtain⟨N,hN⟩: ∃ N,N=S.n:=⟨_,rfl⟩
 unfold mvOk at hk
 unfold mvX at hu
 unfold mvY at hv
 rw [←hX,←hY,←hN]at hk
 rw [←hX,←hN]at hu
 rw [←hY,←hN]at hv
 have CA:Hid (∀ w',Calls Tryz.prog 15 #[.agg #[.int .i64 X, .int .i64 Y], .agg #[.int .i64 x, .int .i64 y], .int .i64 N] w' fun e w''=>e= .returned (.tuple #[.agg #[.int .i64 u, .int .i64 v], .bool k])∧Below w'.heap.size w' w''):=fun w'=>rlAt X Y x y N w' ⟨by omega,by omega⟩ ⟨by omega,by omega⟩ hx hy (by rw [hN];exact⟨by omega,by omega⟩) hk hu hv
 obtain⟨b,cp,s1,s2,s3,hrow,hle,hbb,HE⟩:=hL.face hjc
 rw [←hN]at hrow
 have hlt:=(List.getElem?_eq_some_iff.1 hjc).1
 obtain⟨n,hn'⟩: ∃ n,n=S.C.length:=⟨_,rfl⟩
 rw [←hn']at hrow hle hlt lC
 have hidx0:(j:Int)<(n:Int):=by omega
 have hpl:=hrow.lt
 have m4:=hrow.cell 4 _ rfl
 have m0:=hrow.cell 0 _ rfl
 have y0:W.cell? ⟨b,j*10+1,none⟩=some (.int .i64 c.t.v0):=HE 1 _ rfl
 have y1:W.cell? ⟨b,j*10+2,none⟩=some (.int .i64 c.t.v1):=HE 2 _ rfl
 have y2:W.cell? ⟨b,j*10+3,none⟩=some (.int .i64 c.t.v2):=HE 3 _ rfl
 have y3:W.cell? ⟨b,j*10+4,none⟩=some (.int .i64 c.t.x0):=HE 4 _ rfl
 have y4:W.cell? ⟨b,j*10+5,none⟩=some (.int .i64 c.t.y0):=HE 5 _ rfl
 have y5:W.cell? ⟨b,j*10+6,none⟩=some (.int .i64 c.t.x1):=HE 6 _ rfl
 have y6:W.cell? ⟨b,j*10+7,none⟩=some (.int .i64 c.t.y1):=HE 7 _ rfl
 have y7:W.cell? ⟨b,j*10+8,none⟩=some (.int .i64 c.t.x2):=HE 8 _ rfl
 have y8:W.cell? ⟨b,j*10+9,none⟩=some (.int .i64 c.t.y2):=HE 9 _ rfl
 obtain⟨t,ht⟩: ∃ t,t=c.t:=⟨_,rfl⟩
 obtain⟨f,hf⟩: ∃ t,t=c.no:=⟨_,rfl⟩
 rw [←ht]at y0 y1 y2 y3 y4 y5 y6 y7 y8 CP
 rw [←hf]at CF ⊢
 have hi2:(0:Int)≤(i:Int)∧(i:Int)<3:=by omega
 obtain⟨ii,hii⟩: ∃ q:Int,q=(i:Int):=⟨_,rfl⟩
 rw [←hii]at CP hi2 ⊢
 clear hk hu hv hX hY hN hj hjc h hL h64 hvs hvi hrow HE ht hf hcx hcy lV hx hy hi hc O hn' hii
 go_enter Tryz.func62,Tryz.ntmps62
 go_wp2
 clear HW
 have HSc:Hid (∀ w',Below W.heap.size W w'→(fun w'=>w'.cell? ⟨p,4,none⟩=some (.slice (some ⟨b,0,none⟩) n cp)∧w'.cell? ⟨b,j*10+1,none⟩=some (.int .i64 t.v0)∧w'.cell? ⟨b,j*10+2,none⟩=some (.int .i64 t.v1)∧w'.cell? ⟨b,j*10+3,none⟩=some (.int .i64 t.v2)∧w'.cell? ⟨b,j*10+4,none⟩=some (.int .i64 t.x0)∧w'.cell? ⟨b,j*10+5,none⟩=some (.int .i64 t.y0)∧w'.cell? ⟨b,j*10+6,none⟩=some (.int .i64 t.x1)∧w'.cell? ⟨b,j*10+7,none⟩=some (.int .i64 t.y1)∧w'.cell? ⟨b,j*10+8,none⟩=some (.int .i64 t.x2)∧w'.cell? ⟨b,j*10+9,none⟩=some (.int .i64 t.y2)∧Below W.heap.size W w') w'):=by
  unfold Hid
  intro w' hb
  exact⟨(hb.cell (p:=⟨p,4,none⟩) hpl).trans m4,(hb.cell (p:=⟨b,j*10+1,none⟩) hbb).trans y0,(hb.cell (p:=⟨b,j*10+2,none⟩) hbb).trans y1,(hb.cell (p:=⟨b,j*10+3,none⟩) hbb).trans y2,(hb.cell (p:=⟨b,j*10+4,none⟩) hbb).trans y3,(hb.cell (p:=⟨b,j*10+5,none⟩) hbb).trans y4,(hb.cell (p:=⟨b,j*10+6,none⟩) hbb).trans y5,(hb.cell (p:=⟨b,j*10+7,none⟩) hbb).trans y6,(hb.cell (p:=⟨b,j*10+8,none⟩) hbb).trans y7,(hb.cell (p:=⟨b,j*10+9,none⟩) hbb).trans y8,hb⟩
 obtain⟨QQ,hQQ⟩: ∃ QQ:Exit→Go.Act→World→Prop,QQ=fun e act wr=>e= .normal∧ ∃ pb:Nat,act=⟨#[ptR p, .int .i64 f, .int .i64 ii, .agg #[.int .i64 x, .int .i64 y],undef,undef,undef, .pointer (some ⟨w.heap.size,0,none⟩), .pointer (some ⟨w.heap.size+1,0,none⟩), .bool false, .pointer (some ⟨pb,0,none⟩), .bool true, .tuple #[.agg #[.int .i64 X, .int .i64 Y], .bool true],ptR p,ptR p,ptR p, .pointer (some ⟨p,4,none⟩), .slice (some ⟨b,0,none⟩) n cp,ptR p, .int .i64 f, .int .i64 (j:Int), .pointer (some ⟨b,j*10,none⟩), .pointer (some ⟨b,j*10+1,none⟩), .agg #[.int .i64 t.v0, .int .i64 t.v1, .int .i64 t.v2, .int .i64 t.x0, .int .i64 t.y0, .int .i64 t.x1, .int .i64 t.y1, .int .i64 t.x2, .int .i64 t.y2], .int .i64 ii, .tuple #[.agg #[.int .i64 X, .int .i64 Y], .bool true], .agg #[.int .i64 X, .int .i64 Y], .bool true,undef,undef,undef,undef,undef,undef,undef,undef,undef], []⟩∧Row wr pb [.int .i64 X, .int .i64 Y]∧Below W.heap.size W wr∧W.heap.size≤pb∧pb<wr.heap.size:=⟨_,rfl⟩
 have HQQ:Hid _:=hQQ
 clear hQQ
 refine wp_mono (Q:=QQ) ?_ ?_
 ·refine wp_region_held_drew (S:=fun w'=>w'.cell? ⟨p,4,none⟩=some (.slice (some ⟨b,0,none⟩) n cp)∧w'.cell? ⟨b,j*10+1,none⟩=some (.int .i64 t.v0)∧w'.cell? ⟨b,j*10+2,none⟩=some (.int .i64 t.v1)∧w'.cell? ⟨b,j*10+3,none⟩=some (.int .i64 t.v2)∧w'.cell? ⟨b,j*10+4,none⟩=some (.int .i64 t.x0)∧w'.cell? ⟨b,j*10+5,none⟩=some (.int .i64 t.y0)∧w'.cell? ⟨b,j*10+6,none⟩=some (.int .i64 t.x1)∧w'.cell? ⟨b,j*10+7,none⟩=some (.int .i64 t.y1)∧w'.cell? ⟨b,j*10+8,none⟩=some (.int .i64 t.x2)∧w'.cell? ⟨b,j*10+9,none⟩=some (.int .i64 t.y2)∧Below W.heap.size W w') (by kernel_rfl) ?_ (fun hHeld=>?_)
  ·exact HSc.out _ (Below.refl _ _).drew
  refine tQ 0 ?_
  simp only [Act.put,ps1,ps2,ps3]
  refine tQ 1 ?_
  simp only [Act.put,ps1,ps2,ps3]
  refine tQ 2 ?_
  simp only [Act.put,ps1,ps2,ps3]
  refine tQ 3 ?_
  simp only [Act.put,ps1,ps2,ps3]
  refine tQ 4 ?_
  simp only [Act.put,ps1,ps2,ps3]
  refine tQ 5 ?_
  simp only [Act.put,ps1,ps2,ps3]
  refine tQ 6 ?_
  simp only [Act.put,ps1,ps2,ps3]
  refine tQ 11 ?_
  simp only [Act.put,ps1,ps2,ps3]
  generalize W.drew=X0c at hHeld ⊢
  have gyX0c:W.heap.size≤X0c.heap.size:=hHeld.2.2.2.2.2.2.2.2.2.2.size
  refine wpAnyH_ready (rs:= [7,16]) (by kernel_rfl) (by simp) (AllReadyH.cons (i:=7) rfl (fun Kc hK=>?_) (AllReadyH.cons (i:=16) rfl (fun Kc hK=>?_) AllReadyH.nil))
  ·skip
   go_simp
   (go_at_call 27;refine Calls.mono (CF.out _ hHeld.2.2.2.2.2.2.2.2.2.2) ?_;rintro e X1c ⟨rfl,e1c⟩)
   refine hK.out _ _ (HSc.out _ (hHeld.2.2.2.2.2.2.2.2.2.2.trans (e1c.mono hHeld.2.2.2.2.2.2.2.2.2.2.size))) (fun hHeld=>?_)
   clear hK Kc
   have gyX1c:W.heap.size≤X1c.heap.size:=hHeld.2.2.2.2.2.2.2.2.2.2.size
   refine tQ 8 ?_
   simp only [Act.put,ps1,ps2,ps3]
   refine tQ 9 ?_
   simp only [Act.put,ps1,ps2,ps3]
   refine tQ 10 ?_
   simp only [Act.put,ps1,ps2,ps3]
   refine wpAnyH_ready (rs:= [12,16]) (by kernel_rfl) (by simp) (AllReadyH.cons (i:=12) rfl (fun Kc hK=>?_) (AllReadyH.cons (i:=16) rfl (fun Kc hK=>?_) AllReadyH.nil))
   ·skip
    go_simp
    (go_at_call 93;refine Calls.mono (CP.out _ hHeld.2.2.2.2.2.2.2.2.2.2) ?_;rintro e X2c ⟨rfl,e2c⟩)
    refine hK.out _ _ (HSc.out _ (hHeld.2.2.2.2.2.2.2.2.2.2.trans (e2c.mono hHeld.2.2.2.2.2.2.2.2.2.2.size))) (fun hHeld=>?_)
    clear hK Kc
    have gyX2c:W.heap.size≤X2c.heap.size:=hHeld.2.2.2.2.2.2.2.2.2.2.size
    refine tQ 13 ?_
    simp only [Act.put,ps1,ps2,ps3]
    refine tQ 14 ?_
    simp only [Act.put,ps1,ps2,ps3]
    refine tQ 15 ?_
    simp only [Act.put,ps1,ps2,ps3]
    refine tcl 16 fun Kc hK=>?_
    go_simp
    refine hK.out _ _ (HSc.out _ (hHeld.2.2.2.2.2.2.2.2.2.2.alloc hHeld.2.2.2.2.2.2.2.2.2.2.size _)) (fun hHeld=>?_)
    clear hK Kc
    have y:=Row.new X2c [.int .i64 0, .int .i64 0] 24
    have ly:X2c.heap.size<(X2c.alloc (.cells #[.int .i64 0, .int .i64 0] 24)).heap.size:=by simp
    have gy:W.heap.size≤X2c.heap.size:=gyX2c
    replace y:Row (X2c.alloc (.cells #[.int .i64 0, .int .i64 0] 24)) X2c.heap.size [.int .i64 0, .int .i64 0]:=y
    generalize X2c.alloc (.cells #[.int .i64 0, .int .i64 0] 24)=X3c at y ly hHeld ⊢
    generalize X2c.heap.size=pb at y ly gy ⊢
    have sc0:=y.cell 0 _ rfl
    have sf0:=y.free 0 (by simp)
    have sc1:=y.cell 1 _ rfl
    have sf1:=y.free 1 (by simp)
    refine tcl 17 fun Kc hK=>?_
    go_simp
    refine hK.out _ _ (HSc.out _ (((hHeld.2.2.2.2.2.2.2.2.2.2.setCell gy _).setCell gy _))) (fun hHeld=>?_)
    clear hK Kc
    have y2:=((y.set 0 (.int .i64 X) (by simp)).set 1 (.int .i64 Y) (by simp))
    refine tQ 18 ?_
    simp only [Act.put,ps1,ps2,ps3]
    refine wpAnyH_done (by kernel_rfl) ?_ _
    rw [HQQ.out]
    exact⟨rfl,pb,rfl,y2,hHeld.2.2.2.2.2.2.2.2.2.2,gy,by simp only [World.size_setCell];exact ly⟩
   ·skip
    go_simp
    refine hK.out _ _ (HSc.out _ (hHeld.2.2.2.2.2.2.2.2.2.2.alloc hHeld.2.2.2.2.2.2.2.2.2.2.size _)) (fun hHeld=>?_)
    clear hK Kc
    have y:=Row.new X1c [.int .i64 0, .int .i64 0] 24
    have ly:X1c.heap.size<(X1c.alloc (.cells #[.int .i64 0, .int .i64 0] 24)).heap.size:=by simp
    have gy:W.heap.size≤X1c.heap.size:=gyX1c
    replace y:Row (X1c.alloc (.cells #[.int .i64 0, .int .i64 0] 24)) X1c.heap.size [.int .i64 0, .int .i64 0]:=y
    generalize X1c.alloc (.cells #[.int .i64 0, .int .i64 0] 24)=X4c at y ly hHeld ⊢
    generalize X1c.heap.size=pb at y ly gy ⊢
    refine tcl 12 fun Kc hK=>?_
    go_simp
    (go_at_call 93;refine Calls.mono (CP.out _ hHeld.2.2.2.2.2.2.2.2.2.2) ?_;rintro e X5c ⟨rfl,e5c⟩)
    refine hK.out _ _ (HSc.out _ (hHeld.2.2.2.2.2.2.2.2.2.2.trans (e5c.mono hHeld.2.2.2.2.2.2.2.2.2.2.size))) (fun hHeld=>?_)
    clear hK Kc
    have gyX5c:W.heap.size≤X5c.heap.size:=hHeld.2.2.2.2.2.2.2.2.2.2.size
    replace y:=y.below e5c ly
    replace ly:=Nat.lt_of_lt_of_le ly e5c.size
    refine tQ 13 ?_
    simp only [Act.put,ps1,ps2,ps3]
    refine tQ 14 ?_
    simp only [Act.put,ps1,ps2,ps3]
    refine tQ 15 ?_
    simp only [Act.put,ps1,ps2,ps3]
    have sc0:=y.cell 0 _ rfl
    have sf0:=y.free 0 (by simp)
    have sc1:=y.cell 1 _ rfl
    have sf1:=y.free 1 (by simp)
    refine tcl 17 fun Kc hK=>?_
    go_simp
    refine hK.out _ _ (HSc.out _ (((hHeld.2.2.2.2.2.2.2.2.2.2.setCell gy _).setCell gy _))) (fun hHeld=>?_)
    clear hK Kc
    have y2:=((y.set 0 (.int .i64 X) (by simp)).set 1 (.int .i64 Y) (by simp))
    refine tQ 18 ?_
    simp only [Act.put,ps1,ps2,ps3]
    refine wpAnyH_done (by kernel_rfl) ?_ _
    rw [HQQ.out]
    exact⟨rfl,pb,rfl,y2,hHeld.2.2.2.2.2.2.2.2.2.2,gy,by simp only [World.size_setCell];exact ly⟩
  ·skip
   go_simp
   refine hK.out _ _ (HSc.out _ (hHeld.2.2.2.2.2.2.2.2.2.2.alloc hHeld.2.2.2.2.2.2.2.2.2.2.size _)) (fun hHeld=>?_)
   clear hK Kc
   have y:=Row.new X0c [.int .i64 0, .int .i64 0] 24
   have ly:X0c.heap.size<(X0c.alloc (.cells #[.int .i64 0, .int .i64 0] 24)).heap.size:=by simp
   have gy:W.heap.size≤X0c.heap.size:=gyX0c
   replace y:Row (X0c.alloc (.cells #[.int .i64 0, .int .i64 0] 24)) X0c.heap.size [.int .i64 0, .int .i64 0]:=y
   generalize X0c.alloc (.cells #[.int .i64 0, .int .i64 0] 24)=X6c at y ly hHeld ⊢
   generalize X0c.heap.size=pb at y ly gy ⊢
   refine tcl 7 fun Kc hK=>?_
   go_simp
   (go_at_call 27;refine Calls.mono (CF.out _ hHeld.2.2.2.2.2.2.2.2.2.2) ?_;rintro e X7c ⟨rfl,e7c⟩)
   refine hK.out _ _ (HSc.out _ (hHeld.2.2.2.2.2.2.2.2.2.2.trans (e7c.mono hHeld.2.2.2.2.2.2.2.2.2.2.size))) (fun hHeld=>?_)
   clear hK Kc
   have gyX7c:W.heap.size≤X7c.heap.size:=hHeld.2.2.2.2.2.2.2.2.2.2.size
   replace y:=y.below e7c ly
   replace ly:=Nat.lt_of_lt_of_le ly e7c.size
   refine tQ 8 ?_
   simp only [Act.put,ps1,ps2,ps3]
   refine tQ 9 ?_
   simp only [Act.put,ps1,ps2,ps3]
   refine tQ 10 ?_
   simp only [Act.put,ps1,ps2,ps3]
   refine tcl 12 fun Kc hK=>?_
   go_simp
   (go_at_call 93;refine Calls.mono (CP.out _ hHeld.2.2.2.2.2.2.2.2.2.2) ?_;rintro e X8c ⟨rfl,e8c⟩)
   refine hK.out _ _ (HSc.out _ (hHeld.2.2.2.2.2.2.2.2.2.2.trans (e8c.mono hHeld.2.2.2.2.2.2.2.2.2.2.size))) (fun hHeld=>?_)
   clear hK Kc
   have gyX8c:W.heap.size≤X8c.heap.size:=hHeld.2.2.2.2.2.2.2.2.2.2.size
   replace y:=y.below e8c ly
   replace ly:=Nat.lt_of_lt_of_le ly e8c.size
   refine tQ 13 ?_
   simp only [Act.put,ps1,ps2,ps3]
   refine tQ 14 ?_
   simp only [Act.put,ps1,ps2,ps3]
   refine tQ 15 ?_
   simp only [Act.put,ps1,ps2,ps3]
   have sc0:=y.cell 0 _ rfl
   have sf0:=y.free 0 (by simp)
   have sc1:=y.cell 1 _ rfl
   have sf1:=y.free 1 (by simp)
   refine tcl 17 fun Kc hK=>?_
   go_simp
   refine hK.out _ _ (HSc.out _ (((hHeld.2.2.2.2.2.2.2.2.2.2.setCell gy _).setCell gy _))) (fun hHeld=>?_)
   clear hK Kc
   have y2:=((y.set 0 (.int .i64 X) (by simp)).set 1 (.int .i64 Y) (by simp))
   refine tQ 18 ?_
   simp only [Act.put,ps1,ps2,ps3]
   refine wpAnyH_done (by kernel_rfl) ?_ _
   rw [HQQ.out]
   exact⟨rfl,pb,rfl,y2,hHeld.2.2.2.2.2.2.2.2.2.2,gy,by simp only [World.size_setCell];exact ly⟩
 rw [HQQ.out]
 rintro e act w1 ⟨rfl,pb,rfl,yc,bw1,gyc,lyc⟩
 clear HQQ QQ HSc
 try dsimp only
 have z1:=bw1.size
 have R1:=Rr.below bw1 lr
 have Ro1:=Ro.below bw1 lo
 have e0:=Ro1.cell 0 _ rfl
 have e1:=Ro1.cell 1 _ rfl
 have c0:=yc.cell 0 _ rfl
 have c1:=yc.cell 1 _ rfl
 have d0:w1.cell? ⟨p,0,none⟩=some (.int .i64 N):=(bw1.cell (p:=⟨p,0,none⟩) hpl).trans m0
 have l0:w.heap.size<w1.heap.size:=by omega
 have lr1:w.heap.size+1<w1.heap.size:=by omega
 have lp1:p<w1.heap.size:=by omega
 have n0: ¬(w.heap.size=w.heap.size+1):=by omega
 have np: ¬(p=w.heap.size+1):=by omega
 have nb: ¬(pb=w.heap.size+1):=by omega
 go_wp2
 have HSd:Hid (∀ w',Keep (fun k=>k=w.heap.size+1) w1 w'→(fun w'=>w'.cell? ⟨pb,0,none⟩=some (.int .i64 X)∧w'.cell? ⟨pb,1,none⟩=some (.int .i64 Y)∧w'.cell? ⟨w.heap.size,0,none⟩=some (.int .i64 x)∧w'.cell? ⟨w.heap.size,1,none⟩=some (.int .i64 y)∧w'.cell? ⟨p,0,none⟩=some (.int .i64 N)∧Keep (fun k=>k=w.heap.size+1) w1 w') w'):=by
  unfold Hid
  intro w' hb
  exact⟨(hb.cell (p:=⟨pb,0,none⟩) lyc nb).trans c0,(hb.cell (p:=⟨pb,1,none⟩) lyc nb).trans c1,(hb.cell (p:=⟨w.heap.size,0,none⟩) l0 n0).trans e0,(hb.cell (p:=⟨w.heap.size,1,none⟩) l0 n0).trans e1,(hb.cell (p:=⟨p,0,none⟩) lp1 np).trans d0,hb⟩
 refine wp_region_held_drew (S:=fun w'=>w'.cell? ⟨pb,0,none⟩=some (.int .i64 X)∧w'.cell? ⟨pb,1,none⟩=some (.int .i64 Y)∧w'.cell? ⟨w.heap.size,0,none⟩=some (.int .i64 x)∧w'.cell? ⟨w.heap.size,1,none⟩=some (.int .i64 y)∧w'.cell? ⟨p,0,none⟩=some (.int .i64 N)∧Keep (fun k=>k=w.heap.size+1) w1 w') (by kernel_rfl) ?_ (fun hHeld=>?_)
 ·exact HSd.out _ ((Keep.refl _ _).drew)
 refine tn 0 ?_;refine tn 1 ?_;refine tn 2 ?_;refine tn 3 ?_;refine tn 4 ?_;refine tn 5 ?_
 simp only [Act.put,ps1,ps2,ps3]
 refine tcl 6 fun Kc hK=>?_
 go_simp
 (go_at_call 15;refine Calls.mono (CA.out _) ?_;rintro e w4 ⟨rfl,b4⟩)
 refine hK.out _ _ ?_ (fun hHeld=>?_)
 ·exact HSd.out _ (hHeld.2.2.2.2.2.to b4)
 clear hK Kc
 replace R1:=R1.drew.below b4 lr1
 refine tn 7 ?_;refine tn 8 ?_
 simp only [Act.put,ps1,ps2,ps3]
 have sc0:=R1.cell 0 _ rfl
 have sf0:=R1.free 0 (by simp)
 have sc1:=R1.cell 1 _ rfl
 have sf1:=R1.free 1 (by simp)
 refine tcl 9 fun Kc hK=>?_
 go_simp
 refine hK.out _ _ ?_ (fun hHeld=>?_)
 ·exact HSd.out _ ((hHeld.2.2.2.2.2.set (Or.inl rfl) _).set (Or.inl rfl) _)
 clear hK Kc
 refine tz (i:=10) rfl ?_
 simp only [Act.put,ps1,ps2,ps3]
 refine wpAnyH_done (by kernel_rfl) ?_ _
 have kx:=hHeld.2.2.2.2.2
 have RX:=(R1.set 0 (.int .i64 u) (by simp)).set 1 (.int .i64 v) (by simp)
 have n0:=RX.cell 0 _ rfl
 have n1:=RX.cell 1 _ rfl
 have BX:=(bW.trans (bw1.mono (by omega))).trans (kx.below (B:=w.heap.size) (by omega) (fun k e=>by omega))
 clear hHeld HSd kx RX R1 sc0 sc1 sf0 sf1
 go_wp2
 exact bodyPost_ret (v:= .tuple #[.agg #[.int .i64 u, .int .i64 v], .bool k]) (by simp [results,Tryz.results62,go_sem, *]) rfl ⟨rfl,BX⟩
theorem sgn_lt(x:Int):x.sign<0↔x.sign= -1:=by
 rcases Int.lt_trichotomy x 0 with h|h|h
 ·rw [Int.sign_eq_neg_one_of_neg h];decide
 ·subst h;decide
 ·rw [Int.sign_eq_one_of_pos h];decide
set_option maxRecDepth 100000 in
set_option maxHeartbeats 4000000 in
theorem wrOut(p:Nat)(S:Ms)(m:Nat)(O:MsOk S m)(hm:m≤1000)(w:World)(h:MeLook p S w)(c:Ce)(hc:c∈S.C)(x y q1 q2:Int)(hx:In64 x)(hy:In64 y)(hq:canC q1 q2=true){r:Int}(hr:r=outI S c.t x y q1 q2):
  Calls Tryz.prog 28 #[ptR p, .int .i64 c.no, .agg #[.int .i64 x, .int .i64 y], .agg #[.int .i64 q1, .int .i64 q2]] w fun e w'=>e= .returned (.int .i64 r)∧Below w.heap.size w w':=by
 obtain⟨f,hf⟩: ∃ f,f=c.no:=⟨_,rfl⟩
 obtain⟨k0,hk0⟩: ∃ k,k=mvOk S c.t 0 x y:=⟨_,rfl⟩
 obtain⟨u0,hu0⟩: ∃ k,k=if k0 then mvX S c.t 0 x else 0:=⟨_,rfl⟩
 obtain⟨v0,hv0⟩: ∃ k,k=if k0 then mvY S c.t 0 y else 0:=⟨_,rfl⟩
 have CC0:Hid (∀ w',Below w.heap.size w w'→Calls Tryz.prog 62 #[ptR p, .int .i64 f, .int .i64 0, .agg #[.int .i64 x, .int .i64 y]] w' fun e w''=>e= .returned (.tuple #[.agg #[.int .i64 u0, .int .i64 v0], .bool k0])∧Below w'.heap.size w' w''):=fun w' hb=>by rw [hf];exact wrCorner p S m O hm w' (h.below hb) c hc 0 (by decide) x y hx hy hk0 hu0 hv0
 obtain⟨k1,hk1⟩: ∃ k,k=mvOk S c.t 1 x y:=⟨_,rfl⟩
 obtain⟨u1,hu1⟩: ∃ k,k=if k1 then mvX S c.t 1 x else 0:=⟨_,rfl⟩
 obtain⟨v1,hv1⟩: ∃ k,k=if k1 then mvY S c.t 1 y else 0:=⟨_,rfl⟩
 have CC1:Hid (∀ w',Below w.heap.size w w'→Calls Tryz.prog 62 #[ptR p, .int .i64 f, .int .i64 1, .agg #[.int .i64 x, .int .i64 y]] w' fun e w''=>e= .returned (.tuple #[.agg #[.int .i64 u1, .int .i64 v1], .bool k1])∧Below w'.heap.size w' w''):=fun w' hb=>by rw [hf];exact wrCorner p S m O hm w' (h.below hb) c hc 1 (by decide) x y hx hy hk1 hu1 hv1
 obtain⟨k2,hk2⟩: ∃ k,k=mvOk S c.t 2 x y:=⟨_,rfl⟩
 obtain⟨u2,hu2⟩: ∃ k,k=if k2 then mvX S c.t 2 x else 0:=⟨_,rfl⟩
 obtain⟨v2,hv2⟩: ∃ k,k=if k2 then mvY S c.t 2 y else 0:=⟨_,rfl⟩
 have CC2:Hid (∀ w',Below w.heap.size w w'→Calls Tryz.prog 62 #[ptR p, .int .i64 f, .int .i64 2, .agg #[.int .i64 x, .int .i64 y]] w' fun e w''=>e= .returned (.tuple #[.agg #[.int .i64 u2, .int .i64 v2], .bool k2])∧Below w'.heap.size w' w''):=fun w' hb=>by rw [hf];exact wrCorner p S m O hm w' (h.below hb) c hc 2 (by decide) x y hx hy hk2 hu2 hv2
 have HN:Hid (k0=false∨k1=false∨k2=false→r= -2):=by
  intro hh
  rw [hr]
  unfold outI mvAll
  rw [←hk0,←hk1,←hk2]
  rcases hh with hh|hh|hh<;>rw [hh]<;>simp
 obtain⟨g0,hg0⟩: ∃ g,g=(areaP u1 v1 u2 v2 q1 q2).sign:=⟨_,rfl⟩
 obtain⟨g1,hg1⟩: ∃ g,g=(areaP u2 v2 u0 v0 q1 q2).sign:=⟨_,rfl⟩
 obtain⟨g2,hg2⟩: ∃ g,g=(areaP u0 v0 u1 v1 q1 q2).sign:=⟨_,rfl⟩
 have HY:Hid (k0=true→k1=true→k2=true→r=(if g0<0 then 0 else if g1<0 then 1 else if g2<0 then 2 else -1)∧canC u0 v0=true∧canC u1 v1=true∧canC u2 v2=true):=by
  intro h0 h1 h2
  have ha:mvAll S c.t x y=true:=mvAll_iff.2 ⟨hk0.symm.trans h0,hk1.symm.trans h1,hk2.symm.trans h2⟩
  obtain⟨m0,m1,m2⟩:=mvAll_iff.1 ha
  rw [h0]at hu0 hv0
  rw [h1]at hu1 hv1
  rw [h2]at hu2 hv2
  rw [if_pos rfl]at hu0 hv0 hu1 hv1 hu2 hv2
  refine⟨?_,by rw [hu0,hv0];exact mvd_can m0,by rw [hu1,hv1];exact mvd_can m1,by rw [hu2,hv2];exact mvd_can m2⟩
  rw [hr]
  unfold outI outK
  rw [if_pos ha,hg0,hg1,hg2]
  simp only [sgn_lt]
  rw [hu0,hv0,hu1,hv1,hu2,hv2]
  rfl
 have CO:Hid (∀ (a b s t g:Int) (w':World),canC a b=true→canC s t=true→g=(areaP a b s t q1 q2).sign→Calls Tryz.prog 45 #[.agg #[.int .i64 a, .int .i64 b], .agg #[.int .i64 s, .int .i64 t], .agg #[.int .i64 q1, .int .i64 q2]] w' fun e w''=>e= .returned (.int .i64 g)∧Below w'.heap.size w' w''):=fun a b s t g w' h1 h2 hg=>rpOrient a b s t q1 q2 w' h1 h2 hq hg
 have HG0:Hid _:=hg0
 have HG1:Hid _:=hg1
 have HG2:Hid _:=hg2
 rw [←hf]
 clear hr hf hg0 hg1 hg2 hq hx hy O h hc hm hk0 hu0 hv0 hk1 hu1 hv1 hk2 hu2 hv2
 obtain⟨W,hW⟩: ∃ W,W=((w.alloc (.cells #[.int .i64 x, .int .i64 y] 32)).alloc (.cells #[.int .i64 q1, .int .i64 q2] 24)):=⟨_,rfl⟩
 have bW:Below w.heap.size w W:=by rw [hW];exact(((Below.refl _ _).alloc (Nat.le_refl _) _).alloc (by simp<;>omega) _)
 have zW:W.heap.size=w.heap.size+2:=by rw [hW];simp
 have Ro:Row W (w.heap.size) [.int .i64 x, .int .i64 y]:=by
  have h0:=Row.new w [.int .i64 x, .int .i64 y] 32
  rw [hW];exact(h0.alloc _ (by simp<;>omega))
 have lo:w.heap.size<W.heap.size:=by omega
 have Rq:Row W (w.heap.size+1) [.int .i64 q1, .int .i64 q2]:=by
  have h0:=Row.new (w.alloc (.cells #[.int .i64 x, .int .i64 y] 32)) [.int .i64 q1, .int .i64 q2] 24
  simp only [World.size_alloc]at h0
  rw [hW];exact h0
 have lq:w.heap.size+1<W.heap.size:=by omega
 have HW:((w.alloc (.cells #[.int .i64 x, .int .i64 y] 32)).alloc (.cells #[.int .i64 q1, .int .i64 q2] 24))=W:=hW.symm
 clear hW
 have x0:=Ro.cell 0 _ rfl
 have x1:=Ro.cell 1 _ rfl
 go_enter Tryz.func28,Tryz.ntmps28
 go_wp2_with (go_at_call 62;fail)
 refine Calls.mono (CC0.out _ bW) ?_
 rintro e a0 ⟨rfl,b0⟩
 obtain⟨w0,hw0⟩: ∃ w4,w4=a0.alloc (.cells #[.int .i64 u0, .int .i64 v0] 24):=⟨_,rfl⟩
 have s0:Below W.heap.size W w0:=by rw [hw0];exact b0.alloc b0.size _
 have z0:=s0.size
 obtain⟨p0,hp0⟩: ∃ b,b=a0.heap.size:=⟨_,rfl⟩
 have R0:Row w0 p0 [.int .i64 u0, .int .i64 v0]:=by rw [hw0,hp0];exact Row.new a0 [.int .i64 u0, .int .i64 v0] _
 have l0:p0<w0.heap.size:=by rw [hw0,hp0];simp
 have B0:Below w.heap.size w w0:=bW.trans (s0.mono bW.size)
 replace Ro:=Ro.below s0 (by omega)
 replace Rq:=Rq.below s0 (by omega)
 have x0:=Ro.cell 0 _ rfl
 have x1:=Ro.cell 1 _ rfl
 rw [hw0]at x0 x1
 have H0:Hid _:=hw0.symm
 have P0:Hid _:=hp0.symm
 clear hw0 hp0
 go_wp2_with (go_at_call 62;fail)
 rw [H0.out,P0.out]
 clear x0 x1
 have x0:=Ro.cell 0 _ rfl
 have x1:=Ro.cell 1 _ rfl
 refine Calls.mono (CC1.out _ B0) ?_
 rintro e a1 ⟨rfl,b1⟩
 obtain⟨w1,hw1⟩: ∃ w4,w4=a1.alloc (.cells #[.int .i64 u1, .int .i64 v1] 24):=⟨_,rfl⟩
 have s1:Below w0.heap.size w0 w1:=by rw [hw1];exact b1.alloc b1.size _
 have z1:=s1.size
 obtain⟨p1,hp1⟩: ∃ b,b=a1.heap.size:=⟨_,rfl⟩
 have R1:Row w1 p1 [.int .i64 u1, .int .i64 v1]:=by rw [hw1,hp1];exact Row.new a1 [.int .i64 u1, .int .i64 v1] _
 have l1:p1<w1.heap.size:=by rw [hw1,hp1];simp
 have B1:Below w.heap.size w w1:=B0.trans (s1.mono B0.size)
 replace Ro:=Ro.below s1 (by omega)
 replace Rq:=Rq.below s1 (by omega)
 replace R0:=R0.below s1 (by omega)
 have x0:=Ro.cell 0 _ rfl
 have x1:=Ro.cell 1 _ rfl
 rw [hw1]at x0 x1
 have H1:Hid _:=hw1.symm
 have P1:Hid _:=hp1.symm
 clear hw1 hp1
 go_wp2_with (go_at_call 62;fail)
 rw [H1.out,P1.out]
 clear x0 x1
 have x0:=Ro.cell 0 _ rfl
 have x1:=Ro.cell 1 _ rfl
 refine Calls.mono (CC2.out _ B1) ?_
 rintro e a2 ⟨rfl,b2⟩
 obtain⟨w2,hw2⟩: ∃ w4,w4=a2.alloc (.cells #[.int .i64 u2, .int .i64 v2] 24):=⟨_,rfl⟩
 have s2:Below w1.heap.size w1 w2:=by rw [hw2];exact b2.alloc b2.size _
 have z2:=s2.size
 obtain⟨p2,hp2⟩: ∃ b,b=a2.heap.size:=⟨_,rfl⟩
 have R2:Row w2 p2 [.int .i64 u2, .int .i64 v2]:=by rw [hw2,hp2];exact Row.new a2 [.int .i64 u2, .int .i64 v2] _
 have l2:p2<w2.heap.size:=by rw [hw2,hp2];simp
 have B2:Below w.heap.size w w2:=B1.trans (s2.mono B1.size)
 replace Ro:=Ro.below s2 (by omega)
 replace Rq:=Rq.below s2 (by omega)
 replace R0:=R0.below s2 (by omega)
 replace R1:=R1.below s2 (by omega)
 have H2:Hid _:=hw2.symm
 have P2:Hid _:=hp2.symm
 clear x0 x1 hw2 hp2
 cases hk0:k0
 ·have HE:=HN.out (Or.inl hk0)
  clear CC0 CC1 CC2 CO HY HN
  go_wp2
  rw [H2.out]
  go_ret
  exact⟨by rw [HE];try rfl,B2⟩
 cases hk1:k1
 ·have HE:=HN.out (Or.inr (Or.inl hk1))
  clear CC0 CC1 CC2 CO HY HN
  go_wp2
  rw [H2.out]
  go_ret
  exact⟨by rw [HE];try rfl,B2⟩
 cases hk2:k2
 ·have HE:=HN.out (Or.inr (Or.inr hk2))
  clear CC0 CC1 CC2 CO HY HN
  go_wp2
  rw [H2.out]
  go_ret
  exact⟨by rw [HE];try rfl,B2⟩
 obtain⟨HE,h0,h1,h2⟩:=HY.out hk0 hk1 hk2
 have HR:Hid _:=HE
 clear HE HN HY CC0 CC1 CC2
 have e10:=R1.cell 0 _ rfl
 have e11:=R1.cell 1 _ rfl
 have e20:=R2.cell 0 _ rfl
 have e21:=R2.cell 1 _ rfl
 have eq0:=Rq.cell 0 _ rfl
 have eq1:=Rq.cell 1 _ rfl
 rw [←H2.out]at e10 e11 eq0 eq1
 rw [←H2.out,←P2.out]at e20 e21
 go_wp2_with (go_at_call 45;fail)
 rw [H2.out,P2.out]
 refine Calls.mono (CO.out u1 v1 u2 v2 g0 _ h1 h2 HG0.out) ?_
 rintro e c0 ⟨rfl,d0⟩
 have D0:Below w.heap.size w c0:=B2.trans (d0.mono B2.size)
 clear e10 e11 e20 e21 eq0 eq1
 by_cases t0:g0<0
 ·have HE:Hid (r=0):=by unfold Hid;rw [HR.out,if_pos t0]
  go_wp2
  go_ret
  exact⟨by rw [HE.out];try rfl,D0⟩
 replace R0:=R0.below d0 (by have:=d0.size;omega)
 replace R1:=R1.below d0 (by have:=d0.size;omega)
 replace R2:=R2.below d0 (by have:=d0.size;omega)
 replace Rq:=Rq.below d0 (by have:=d0.size;omega)
 have y0:=d0.size
 have e20:=R2.cell 0 _ rfl
 have e21:=R2.cell 1 _ rfl
 have e00:=R0.cell 0 _ rfl
 have e01:=R0.cell 1 _ rfl
 have eq0:=Rq.cell 0 _ rfl
 have eq1:=Rq.cell 1 _ rfl
 go_wp2_with (go_at_call 45;fail)
 refine Calls.mono (CO.out u2 v2 u0 v0 g1 _ h2 h0 HG1.out) ?_
 rintro e c1 ⟨rfl,d1⟩
 have D1:Below w.heap.size w c1:=D0.trans (d1.mono D0.size)
 clear e20 e21 e00 e01 eq0 eq1
 by_cases t1:g1<0
 ·have HE:Hid (r=1):=by unfold Hid;rw [HR.out,if_neg (by omega: ¬g0<0),if_pos t1]
  go_wp2
  go_ret
  exact⟨by rw [HE.out];try rfl,D1⟩
 replace R0:=R0.below d1 (by have:=d1.size;omega)
 replace R1:=R1.below d1 (by have:=d1.size;omega)
 replace R2:=R2.below d1 (by have:=d1.size;omega)
 replace Rq:=Rq.below d1 (by have:=d1.size;omega)
 have y1:=d1.size
 have e00:=R0.cell 0 _ rfl
 have e01:=R0.cell 1 _ rfl
 have e10:=R1.cell 0 _ rfl
 have e11:=R1.cell 1 _ rfl
 have eq0:=Rq.cell 0 _ rfl
 have eq1:=Rq.cell 1 _ rfl
 go_wp2_with (go_at_call 45;fail)
 refine Calls.mono (CO.out u0 v0 u1 v1 g2 _ h0 h1 HG2.out) ?_
 rintro e c2 ⟨rfl,d2⟩
 have D2:Below w.heap.size w c2:=D1.trans (d2.mono D1.size)
 clear e00 e01 e10 e11 eq0 eq1
 by_cases t2:g2<0
 ·have HE:Hid (r=2):=by unfold Hid;rw [HR.out,if_neg (by omega: ¬g0<0),if_neg (by omega: ¬g1<0),if_pos t2]
  go_wp2
  go_ret
  exact⟨by rw [HE.out];try rfl,D2⟩
 have HE:Hid (r= -1):=by unfold Hid;rw [HR.out,if_neg (by omega: ¬g0<0),if_neg (by omega: ¬g1<0),if_neg (by omega: ¬g2<0)]
 go_wp2
 go_ret
 exact⟨by rw [HE.out];try rfl,D2⟩
end Go.Proofs.YtaadknpjbogkbaaGreat
