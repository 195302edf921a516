/-
  Joined texts, part 8:
  What walk's lookAt answers, over what the mesh must do.
  What walk's start and lookAtAll answer, over what the mesh must do.
  What Find tells, as both have it.
  What one comes to by going across.
  What walk's goAcross must do.
-/
import Derived.Test.YtaadknpjbogkbaaP7
import Derived.Test.YtaadknpjbogkbaaP4
import Derived.Test.YtaadknpjbogkbaaP6
namespace Go.Proofs.Ytaadknpjbogkbaa
open Go.RowKit
set_option linter.unusedVariables false
def HitIs(c:Ce)(r:Option (Int×Int))(e:Ending):Prop:=match r with
 |none=>e= .returned (.tuple #[.agg #[.int .i64 0, .int .i64 0, .int .i64 0], .bool false])
 |some b=>e= .returned (.tuple #[.agg #[.int .i64 c.no, .int .i64 b.1, .int .i64 b.2], .bool true])
set_option maxRecDepth 100000 in
set_option maxHeartbeats 8000000 in
theorem wLookAt{MP:MeShape}(HSp:MeSp MP)(base pp:Nat)(S:Ms)(m:Nat)(F:Nat→Prop)(w:World)(HP:MP base pp S F w)(O:MsOk S m)(hm:m≤1000)(c:Ce)(hc:c∈S.C)(q1 q2:Int)(hq:canC q1 q2=true):
  Calls Try.prog 24 #[.agg #[ptR pp, .int .i64 q1, .int .i64 q2],ceV c] w fun e w'=>HitIs c (tryF S c.t q1 q2 49 0) e∧Below w.heap.size w w':=by
 have h0:=off_few O hc (i:=0) (by decide)
 have HW1:Hid (∀ (w':World) (x y:Int) (r:Bool),Below w.heap.size w w'→r=decide (outI S c.t x y q1 q2= -1)→Calls Try.prog 37 #[.agg #[ptR pp, .int .i64 q1, .int .i64 q2], .agg #[.int .i64 c.no, .int .i64 x, .int .i64 y]] w' fun e w''=>e= .returned (.bool r)∧Below w'.heap.size w' w''):=fun w' x y r hb hr=>wLies HSp base pp S m F w' (HSp.below HP hb) O hm c hc x y q1 q2 hq hr
 obtain⟨t,ht⟩: ∃ t,t=c.t:=⟨_,rfl⟩
 obtain⟨no,hno⟩: ∃ f,f=c.no:=⟨_,rfl⟩
 have HFY:Hid (∀ b,HitIs c (some b) (.returned (.tuple #[.agg #[.int .i64 no, .int .i64 b.1, .int .i64 b.2], .bool true]))):=fun b=>by rw [hno];rfl
 have HFN:Hid (HitIs c none (.returned (.tuple #[.agg #[.int .i64 0, .int .i64 0, .int .i64 0], .bool false]))):=rfl
 unfold ceV
 rw [←ht,←hno]at HW1 ⊢
 rw [←ht]at h0
 clear ht hno hq HP
 replace h0:(-2199023255552≤t.x0∧t.x0≤2199023255552)∧(-2199023255552≤t.y0∧t.y0≤2199023255552):=h0
 obtain⟨X0,hX0⟩: ∃ X,X= -t.x0:=⟨_,rfl⟩
 obtain⟨Y0,hY0⟩: ∃ X,X= -t.y0:=⟨_,rfl⟩
 have HX0:Hid (X0=wrap64 (0- t.x0)):=by unfold Hid;rw [hX0,wrap_in (by omega) (by omega)];omega
 have HY0:Hid (Y0=wrap64 (0- t.y0)):=by unfold Hid;rw [hY0,wrap_in (by omega) (by omega)];omega
 have XX:Hid (X0= -t.x0∧Y0= -t.y0∧(-2199023255552≤t.x0∧t.x0≤2199023255552)∧(-2199023255552≤t.y0∧t.y0≤2199023255552)):=⟨hX0,hY0,h0⟩
 clear h0 hX0 hY0
 obtain⟨W,hW⟩: ∃ W,W=(((w.alloc (.cells #[ptR pp, .int .i64 q1, .int .i64 q2] 39)).alloc (.cells #[.int .i64 no, .int .i64 t.v0, .int .i64 t.v1, .int .i64 t.v2, .int .i64 t.x0, .int .i64 t.y0, .int .i64 t.x1, .int .i64 t.y1, .int .i64 t.x2, .int .i64 t.y2] 74)).alloc (.cells #[.int .i64 0, .int .i64 0, .int .i64 0] 43)):=⟨_,rfl⟩
 have bW:Below w.heap.size w W:=by rw [hW];exact((((Below.refl _ _).alloc (Nat.le_refl _) _).alloc (by simp<;>omega) _).alloc (by simp<;>omega) _)
 have zW:W.heap.size=w.heap.size+3:=by rw [hW];simp
 have Rw:Row W (w.heap.size) [ptR pp, .int .i64 q1, .int .i64 q2]:=by
  have h0:=Row.new w [ptR pp, .int .i64 q1, .int .i64 q2] 39
  rw [hW];exact((h0.alloc _ (by simp<;>omega)).alloc _ (by simp<;>omega))
 have lw:w.heap.size<W.heap.size:=by omega
 have Rc:Row W (w.heap.size+1) [.int .i64 no, .int .i64 t.v0, .int .i64 t.v1, .int .i64 t.v2, .int .i64 t.x0, .int .i64 t.y0, .int .i64 t.x1, .int .i64 t.y1, .int .i64 t.x2, .int .i64 t.y2]:=by
  have h0:=Row.new (w.alloc (.cells #[ptR pp, .int .i64 q1, .int .i64 q2] 39)) [.int .i64 no, .int .i64 t.v0, .int .i64 t.v1, .int .i64 t.v2, .int .i64 t.x0, .int .i64 t.y0, .int .i64 t.x1, .int .i64 t.y1, .int .i64 t.x2, .int .i64 t.y2] 74
  simp only [World.size_alloc]at h0
  rw [hW];exact(h0.alloc _ (by simp<;>omega))
 have lc:w.heap.size+1<W.heap.size:=by omega
 have Rr:Row W (w.heap.size+2) [.int .i64 0, .int .i64 0, .int .i64 0]:=by
  have h0:=Row.new ((w.alloc (.cells #[ptR pp, .int .i64 q1, .int .i64 q2] 39)).alloc (.cells #[.int .i64 no, .int .i64 t.v0, .int .i64 t.v1, .int .i64 t.v2, .int .i64 t.x0, .int .i64 t.y0, .int .i64 t.x1, .int .i64 t.y1, .int .i64 t.x2, .int .i64 t.y2] 74)) [.int .i64 0, .int .i64 0, .int .i64 0] 43
  simp only [World.size_alloc]at h0
  rw [hW];exact h0
 have lr:w.heap.size+2<W.heap.size:=by omega
 have HW:(((w.alloc (.cells #[ptR pp, .int .i64 q1, .int .i64 q2] 39)).alloc (.cells #[.int .i64 no, .int .i64 t.v0, .int .i64 t.v1, .int .i64 t.v2, .int .i64 t.x0, .int .i64 t.y0, .int .i64 t.x1, .int .i64 t.y1, .int .i64 t.x2, .int .i64 t.y2] 74)).alloc (.cells #[.int .i64 0, .int .i64 0, .int .i64 0] 43))=W:=hW.symm
 clear hW
 have x4:=Rc.cell 4 _ rfl
 have x5:=Rc.cell 5 _ rfl
 replace HW:Hid _:=HW
 go_enter Try.func24,Try.ntmps24
 go_wp2_with (go_at_call 36;fail)
 rw [HW.out]
 clear HW
 refine(lLess 0 0 t.x0 t.y0 W HX0.out HY0.out).mono ?_
 rintro e w3 ⟨rfl,b3⟩
 obtain⟨w4,hw4⟩: ∃ w4,w4=w3.alloc (.cells #[.int .i64 X0, .int .i64 Y0] 27):=⟨_,rfl⟩
 have q4:Below W.heap.size W w4:=by rw [hw4];exact b3.alloc b3.size _
 have z4:=q4.size
 have B4:Below w.heap.size w w4:=bW.trans (q4.mono (by omega))
 obtain⟨bo,hbo⟩: ∃ b,b=w3.heap.size:=⟨_,rfl⟩
 have RB:Row w4 bo [.int .i64 X0, .int .i64 Y0]:=by rw [hw4,hbo];exact Row.new w3 [.int .i64 X0, .int .i64 Y0] _
 have lb:bo<w4.heap.size:=by rw [hw4,hbo];simp
 replace Rw:=Rw.below q4 lw
 replace Rc:=Rc.below q4 lc
 replace Rr:=Rr.below q4 lr
 replace lw:w.heap.size<w4.heap.size:=by omega
 replace lc:w.heap.size+1<w4.heap.size:=by omega
 replace lr:w.heap.size+2<w4.heap.size:=by omega
 have H4:Hid _:=hw4.symm
 have HBO:Hid _:=hbo.symm
 clear HX0 HY0 x4 x5 hw4 b3 q4 z4 zW bW hbo
 go_wp2
 rw [H4.out,HBO.out]
 clear H4 HBO
 go_loopw [7] (fun i wr=> ∃ a:Nat,a≤7∧i= .int .i64 ((a:Int)- 3)∧Hid (tryF S t q1 q2 49 0=tryF S t q1 q2 (49- 7*a) (7*a))∧Below w4.heap.size w4 wr) (fun i _=>7- ((Go.RowKit.intOf i)+3).toNat)
 case atStart=>exact⟨0,by omega,rfl,rfl,Below.refl _ _⟩
 case round=>
  obtain⟨a,ha,rfl,HA,kr⟩:=hrel
  obtain⟨i,hi⟩: ∃ i:Int,i=(a:Int)- 3:=⟨_,rfl⟩
  have HI:Hid _:=hi
  rw [←hi]
  have hi2:i≤4∧ -3≤i:=by omega
  clear hi
  by_cases ha7:i≤3
  ·have hia:Hid (a<7):=by unfold Hid;have:=HI.out;omega
   clear ha
   go_wp2
   go_loopw [8] (fun j wr=> ∃ b:Nat,b≤7∧j= .int .i64 ((b:Int)- 3)∧Hid (tryF S t q1 q2 49 0=tryF S t q1 q2 (49- 7*a- b) (7*a+b))∧Below w4.heap.size w4 wr) (fun j _=>7- ((Go.RowKit.intOf j)+3).toNat)
   case atStart=>exact⟨0,by omega,rfl,HA,kr⟩
   case round=>
    clear HA kr
    obtain⟨b,hb,rfl,HA,kr⟩:=hrel
    obtain⟨j,hj⟩: ∃ i:Int,i=(b:Int)- 3:=⟨_,rfl⟩
    have HJ:Hid _:=hj
    rw [←hj]
    have hj2:j≤4∧ -3≤j:=by omega
    clear hj
    obtain⟨wq,hwq⟩: ∃ w,w=wr:=⟨_,rfl⟩
    rw [←hwq]at kr ⊢
    clear hwq
    have zq:=kr.size
    by_cases hb7:j≤3
    ·have hjb:Hid (b<7):=by unfold Hid;have:=HJ.out;omega
     clear hb
     have y0:=(Rc.below kr lc).cell 0 _ rfl
     have s0:=(RB.below kr lb).cell 0 _ rfl
     have s1:=(RB.below kr lb).cell 1 _ rfl
     obtain⟨U,hU⟩: ∃ U,U=(a:Int)- 3- t.x0:=⟨_,rfl⟩
     obtain⟨V,hV⟩: ∃ U,U=(b:Int)- 3- t.y0:=⟨_,rfl⟩
     have HU:Hid (U=wrap64 (X0+i)):=by
      unfold Hid
      have:=XX.out
      have:=HI.out
      rw [hU,wrap_in (by omega) (by omega)];omega
     have HV:Hid (V=wrap64 (Y0+j)):=by
      unfold Hid
      have:=XX.out
      have:=HJ.out
      rw [hV,wrap_in (by omega) (by omega)];omega
     have HT:Hid _:=try_at (S:=S) (t:=t) (q1:=q1) (q2:=q2) hia.out hjb.out
     rw [←hU,←hV]at HT
     clear hU hV
     have lwq:w.heap.size<wq.heap.size:=by omega
     have lcq:w.heap.size+1<wq.heap.size:=by omega
     have lrq:w.heap.size+2<wq.heap.size:=by omega
     have lbq:bo<wq.heap.size:=by omega
     go_wp2
     have HSt:Hid (∀ w',Below wq.heap.size wq w'→(fun w'=>w'.cell? ⟨w.heap.size+1,0,none⟩=some (.int .i64 no)∧w'.cell? ⟨bo,0,none⟩=some (.int .i64 X0)∧w'.cell? ⟨bo,1,none⟩=some (.int .i64 Y0)∧Below wq.heap.size wq w') w'):=by
      unfold Hid
      intro w' hb
      exact⟨(hb.cell (p:=⟨w.heap.size+1,0,none⟩) lcq).trans y0,(hb.cell (p:=⟨bo,0,none⟩) lbq).trans s0,(hb.cell (p:=⟨bo,1,none⟩) lbq).trans s1,hb⟩
     obtain⟨QQ,hQQ⟩: ∃ QQ:Exit→Go.Act→World→Prop,QQ=fun e act wr=>e= .normal∧ ∃ pb:Nat,act=⟨#[.agg #[ptR pp, .int .i64 q1, .int .i64 q2], .agg #[.int .i64 no, .int .i64 t.v0, .int .i64 t.v1, .int .i64 t.v2, .int .i64 t.x0, .int .i64 t.y0, .int .i64 t.x1, .int .i64 t.y1, .int .i64 t.x2, .int .i64 t.y2], .pointer (some ⟨w.heap.size,0,none⟩), .pointer (some ⟨w.heap.size+1,0,none⟩), .pointer (some ⟨w.heap.size+1+1,0,none⟩),u5, .pointer (some ⟨bo,0,none⟩), .int .i64 i, .int .i64 j, .pointer (some ⟨pb,0,none⟩), .agg #[.int .i64 0, .int .i64 0], .pointer (some ⟨w.heap.size+1,1,none⟩), .pointer (some ⟨w.heap.size+1,4,none⟩), .pointer (some ⟨w.heap.size+1,4,none⟩), .agg #[.int .i64 t.x0, .int .i64 t.y0], .agg #[.int .i64 X0, .int .i64 Y0], .int .i64 i, .bool true,u18,u19, .int .i64 j, .bool true,u22,u23, .pointer (some ⟨w.heap.size+1,0,none⟩), .int .i64 no, .agg #[.int .i64 X0, .int .i64 Y0], .int .i64 i, .int .i64 j, .agg #[.int .i64 i, .int .i64 j], .agg #[.int .i64 U, .int .i64 V], .agg #[.int .i64 no, .int .i64 U, .int .i64 V],u32,u33,u34,u35,undef], []⟩∧Row wr pb [.int .i64 no, .int .i64 U, .int .i64 V]∧Below wq.heap.size wq wr∧wq.heap.size≤pb∧pb<wr.heap.size:=⟨_,rfl⟩
     have HQQ:Hid _:=hQQ
     clear hQQ
     refine wp_mono (Q:=QQ) ?_ ?_
     ·refine wp_region_held_drew (S:=fun w'=>w'.cell? ⟨w.heap.size+1,0,none⟩=some (.int .i64 no)∧w'.cell? ⟨bo,0,none⟩=some (.int .i64 X0)∧w'.cell? ⟨bo,1,none⟩=some (.int .i64 Y0)∧Below wq.heap.size wq w') (by kernel_rfl) ?_ (fun hHeld=>?_)
      ·exact HSt.out _ (Below.refl _ _).drew
      refine tQ 0 ?_
      simp only [Act.put,ps1,ps2,ps3]
      refine tQ 1 ?_
      simp only [Act.put,ps1,ps2,ps3]
      refine tQ 2 ?_
      simp only [Act.put,ps1,ps2,ps3]
      refine tQ 3 ?_
      simp only [Act.put,ps1,ps2,ps3]
      refine tQ 4 ?_
      simp only [Act.put,ps1,ps2,ps3]
      refine tQ 5 ?_
      simp only [Act.put,ps1,ps2,ps3]
      generalize wq.drew=X0t at hHeld ⊢
      have gyX0t:wq.heap.size≤X0t.heap.size:=hHeld.2.2.2.size
      refine wpAnyH_ready (rs:= [6,8]) (by kernel_rfl) (by simp) (AllReadyH.cons (i:=6) rfl (fun Kc hK=>?_) (AllReadyH.cons (i:=8) rfl (fun Kc hK=>?_) AllReadyH.nil))
      ·skip
       go_simp
       (go_at_call 13;refine(lSum X0 Y0 i j _ HU.out HV.out).mono ?_;rintro e X1t ⟨rfl,e1t⟩)
       refine hK.out _ _ (HSt.out _ (hHeld.2.2.2.trans (e1t.mono hHeld.2.2.2.size))) (fun hHeld=>?_)
       clear hK Kc
       have gyX1t:wq.heap.size≤X1t.heap.size:=hHeld.2.2.2.size
       refine tQ 7 ?_
       simp only [Act.put,ps1,ps2,ps3]
       refine tcl 8 fun Kc hK=>?_
       go_simp
       refine hK.out _ _ (HSt.out _ (hHeld.2.2.2.alloc hHeld.2.2.2.size _)) (fun hHeld=>?_)
       clear hK Kc
       have y:=Row.new X1t [.int .i64 0, .int .i64 0, .int .i64 0] 43
       have ly:X1t.heap.size<(X1t.alloc (.cells #[.int .i64 0, .int .i64 0, .int .i64 0] 43)).heap.size:=by simp
       have gy:wq.heap.size≤X1t.heap.size:=gyX1t
       replace y:Row (X1t.alloc (.cells #[.int .i64 0, .int .i64 0, .int .i64 0] 43)) X1t.heap.size [.int .i64 0, .int .i64 0, .int .i64 0]:=y
       generalize X1t.alloc (.cells #[.int .i64 0, .int .i64 0, .int .i64 0] 43)=X2t at y ly hHeld ⊢
       generalize X1t.heap.size=pb at y ly gy ⊢
       have sc0:=y.cell 0 _ rfl
       have sf0:=y.free 0 (by simp)
       have sc1:=y.cell 1 _ rfl
       have sf1:=y.free 1 (by simp)
       have sc2:=y.cell 2 _ rfl
       have sf2:=y.free 2 (by simp)
       refine tcl 9 fun Kc hK=>?_
       go_simp
       refine hK.out _ _ (HSt.out _ ((((hHeld.2.2.2.setCell gy _).setCell gy _).setCell gy _))) (fun hHeld=>?_)
       clear hK Kc
       have y2:=(((y.set 0 (.int .i64 no) (by simp)).set 1 (.int .i64 U) (by simp)).set 2 (.int .i64 V) (by simp))
       refine wpAnyH_done (by kernel_rfl) ?_ _
       rw [HQQ.out]
       exact⟨rfl,pb,rfl,y2,hHeld.2.2.2,gy,by simp only [World.size_setCell];exact ly⟩
      ·skip
       go_simp
       refine hK.out _ _ (HSt.out _ (hHeld.2.2.2.alloc hHeld.2.2.2.size _)) (fun hHeld=>?_)
       clear hK Kc
       have y:=Row.new X0t [.int .i64 0, .int .i64 0, .int .i64 0] 43
       have ly:X0t.heap.size<(X0t.alloc (.cells #[.int .i64 0, .int .i64 0, .int .i64 0] 43)).heap.size:=by simp
       have gy:wq.heap.size≤X0t.heap.size:=gyX0t
       replace y:Row (X0t.alloc (.cells #[.int .i64 0, .int .i64 0, .int .i64 0] 43)) X0t.heap.size [.int .i64 0, .int .i64 0, .int .i64 0]:=y
       generalize X0t.alloc (.cells #[.int .i64 0, .int .i64 0, .int .i64 0] 43)=X3t at y ly hHeld ⊢
       generalize X0t.heap.size=pb at y ly gy ⊢
       refine tcl 6 fun Kc hK=>?_
       go_simp
       (go_at_call 13;refine(lSum X0 Y0 i j _ HU.out HV.out).mono ?_;rintro e X4t ⟨rfl,e4t⟩)
       refine hK.out _ _ (HSt.out _ (hHeld.2.2.2.trans (e4t.mono hHeld.2.2.2.size))) (fun hHeld=>?_)
       clear hK Kc
       have gyX4t:wq.heap.size≤X4t.heap.size:=hHeld.2.2.2.size
       replace y:=y.below e4t ly
       replace ly:=Nat.lt_of_lt_of_le ly e4t.size
       refine tQ 7 ?_
       simp only [Act.put,ps1,ps2,ps3]
       have sc0:=y.cell 0 _ rfl
       have sf0:=y.free 0 (by simp)
       have sc1:=y.cell 1 _ rfl
       have sf1:=y.free 1 (by simp)
       have sc2:=y.cell 2 _ rfl
       have sf2:=y.free 2 (by simp)
       refine tcl 9 fun Kc hK=>?_
       go_simp
       refine hK.out _ _ (HSt.out _ ((((hHeld.2.2.2.setCell gy _).setCell gy _).setCell gy _))) (fun hHeld=>?_)
       clear hK Kc
       have y2:=(((y.set 0 (.int .i64 no) (by simp)).set 1 (.int .i64 U) (by simp)).set 2 (.int .i64 V) (by simp))
       refine wpAnyH_done (by kernel_rfl) ?_ _
       rw [HQQ.out]
       exact⟨rfl,pb,rfl,y2,hHeld.2.2.2,gy,by simp only [World.size_setCell];exact ly⟩
     rw [HQQ.out]
     rintro e act w2 ⟨rfl,pb,rfl,yt,bw2,gyt,lyt⟩
     clear HQQ QQ HSt
     try dsimp only
     have k2:=kr.trans (bw2.mono zq)
     have z2:=bw2.size
     have BX:=B4.trans (k2.mono (by omega))
     have Rw2:=Rw.below k2 lw
     have Rr2:=Rr.below k2 lr
     have p0:=Rw2.cell 0 _ rfl
     have p1:=Rw2.cell 1 _ rfl
     have p2:=Rw2.cell 2 _ rfl
     have h0:=yt.cell 0 _ rfl
     have h1:=yt.cell 1 _ rfl
     have h2:=yt.cell 2 _ rfl
     clear y0 s0 s1 HU HV
     go_wp2_with (go_at_call 37;fail)
     by_cases hout:outI S t U V q1 q2= -1
     ·have HRES:Hid (tryF S t q1 q2 49 0=some (U,V)):=by unfold Hid;rw [HA.out,HT.out,if_pos hout]
      refine(HW1.out w2 U V true BX (decide_eq_true hout).symm).mono ?_
      rintro e w5 ⟨rfl,b5⟩
      have R5:=yt.below b5 lyt
      have Rr5:=Rr2.below b5 (by omega)
      have h0:=R5.cell 0 _ rfl
      have h1:=R5.cell 1 _ rfl
      have h2:=R5.cell 2 _ rfl
      have B5:=BX.trans (b5.mono BX.size)
      have o0:=Rr5.cell 0 _ rfl
      have f0:=Rr5.free 0 (by simp)
      have o1:=Rr5.cell 1 _ rfl
      have f1:=Rr5.free 1 (by simp)
      have o2:=Rr5.cell 2 _ rfl
      have f2:=Rr5.free 2 (by simp)
      have RX:=(((Rr5.set 0 (.int .i64 no) (by simp)).set 1 (.int .i64 U) (by simp)).set 2 (.int .i64 V) (by simp))
      have BZ:=(((B5.setCell (p:=⟨w.heap.size+2,0,none⟩) (by simp) (.int .i64 no)).setCell (p:=⟨w.heap.size+2,1,none⟩) (by simp) (.int .i64 U)).setCell (p:=⟨w.heap.size+2,2,none⟩) (by simp) (.int .i64 V))
      have n0:=RX.cell 0 _ rfl
      have n1:=RX.cell 1 _ rfl
      have n2:=RX.cell 2 _ rfl
      clear RX Rr5
      clear HT HA R5 hout p0 p1 p2
      go_wp2
      exact bodyPost_ret (v:= .tuple #[.agg #[.int .i64 no, .int .i64 U, .int .i64 V], .bool true]) (by simp [results,Try.results24,go_sem, *]) rfl ⟨by rw [HRES.out];exact HFY.out (U,V),BZ⟩
     ·have HRES:Hid (tryF S t q1 q2 49 0=tryF S t q1 q2 (49- 7*a- (b+1)) (7*a+(b+1))):=by unfold Hid;rw [HA.out,HT.out,if_neg hout]
      refine(HW1.out w2 U V false BX (decide_eq_false hout).symm).mono ?_
      rintro e w5 ⟨rfl,b5⟩
      have k5:=k2.trans (b5.mono (by omega))
      clear HT HA hout p0 p1 p2 h0 h1 h2
      go_wp2
      go_roundw
      case rel=>exact⟨b+1,by have:=hjb.out;omega,by have:=HJ.out;simp;omega,HRES,k5⟩
      case measure=>have:=HJ.out;have:=hjb.out;simp [Go.RowKit.intOf];omega
    ·have HRES:Hid (tryF S t q1 q2 49 0=tryF S t q1 q2 (49- 7*(a+1)) (7*(a+1))):=by
      unfold Hid
      have:=HJ.out
      have e:b=7:=by omega
      rw [HA.out,e]
      congr 1<;>omega
     clear HA
     go_wp2
     go_roundw
     case rel=>exact⟨a+1,by have:=hia.out;omega,by have:=HI.out;simp;omega,HRES,kr⟩
     case measure=>have:=HI.out;have:=hia.out;simp [Go.RowKit.intOf];omega
  ·have HRES:Hid (tryF S t q1 q2 49 0=none):=by
    unfold Hid
    have:=HI.out
    have e:a=7:=by omega
    rw [HA.out,e]
    rfl
   have Rr2:=Rr.below kr lr
   have BX:=B4.trans (kr.mono (by omega))
   have o0:=Rr2.cell 0 _ rfl
   have f0:=Rr2.free 0 (by simp)
   have o1:=Rr2.cell 1 _ rfl
   have f1:=Rr2.free 1 (by simp)
   have o2:=Rr2.cell 2 _ rfl
   have f2:=Rr2.free 2 (by simp)
   have RX:=(((Rr2.set 0 (.int .i64 0) (by simp)).set 1 (.int .i64 0) (by simp)).set 2 (.int .i64 0) (by simp))
   have BZ:=(((BX.setCell (p:=⟨w.heap.size+2,0,none⟩) (by simp) (.int .i64 0)).setCell (p:=⟨w.heap.size+2,1,none⟩) (by simp) (.int .i64 0)).setCell (p:=⟨w.heap.size+2,2,none⟩) (by simp) (.int .i64 0))
   have n0:=RX.cell 0 _ rfl
   have n1:=RX.cell 1 _ rfl
   have n2:=RX.cell 2 _ rfl
   clear RX Rr2
   clear HA
   go_wp2
   exact bodyPost_ret (v:= .tuple #[.agg #[.int .i64 0, .int .i64 0, .int .i64 0], .bool false]) (by simp [results,Try.results24,go_sem, *]) rfl ⟨by rw [HRES.out];exact HFN.out,BZ⟩
theorem fieldFaces(n:Int)(a b:Option Addr)(la ca lb cb:Nat)(w:World):(Instr.field 71 (.agg #[.int .i64 n, .slice a la ca, .slice b lb cb]) 2).run Try.prog w= .ok (.slice b lb cb) w:=by simp [Instr.field,go_sem,asAgg]
def StartIs(r:Option Ce)(e:Ending):Prop:=match r with
 |none=>e= .returned (.tuple #[.int .i64 (-1), .bool false])
 |some c=>e= .returned (.tuple #[.int .i64 c.no, .bool true])
def AllIs(r:Option (Ce×Int×Int))(e:Ending):Prop:=match r with
 |none=>e= .returned (.tuple #[.agg #[.int .i64 0, .int .i64 0, .int .i64 0], .bool false])
 |some q=>e= .returned (.tuple #[.agg #[.int .i64 q.1.no, .int .i64 q.2.1, .int .i64 q.2.2], .bool true])
set_option maxRecDepth 100000 in
set_option maxHeartbeats 4000000 in
theorem wStart{MP:MeShape}(HSp:MeSp MP)(base pp:Nat)(S:Ms)(m:Nat)(F:Nat→Prop)(w:World)(HP:MP base pp S F w)(O:MsOk S m)(hm:m≤1000)(f q1 q2:Int)(hf:In64 f):
  Calls Try.prog 10 #[.agg #[ptR pp, .int .i64 q1, .int .i64 q2], .int .i64 f] w fun e w'=>StartIs (firstC S f) e∧Below w.heap.size w w':=by
 have hlen:=O.lens.2.1
 obtain⟨W,hW⟩: ∃ W,W=(w.alloc (.cells #[ptR pp, .int .i64 q1, .int .i64 q2] 39)):=⟨_,rfl⟩
 have bW:Below w.heap.size w W:=by rw [hW];exact((Below.refl _ _).alloc (Nat.le_refl _) _)
 have zW:W.heap.size=w.heap.size+1:=by rw [hW];simp
 have Rw:Row W (w.heap.size) [ptR pp, .int .i64 q1, .int .i64 q2]:=by
  have h0:=Row.new w [ptR pp, .int .i64 q1, .int .i64 q2] 39
  rw [hW];exact h0
 have lw:w.heap.size<W.heap.size:=by omega
 have HW:(w.alloc (.cells #[ptR pp, .int .i64 q1, .int .i64 q2] 39))=W:=hW.symm
 clear hW
 have CF:Hid _:=HSp.face base pp S m F W (HSp.below HP bW) O hm f hf
 have CD:Hid (∀ w',Below W.heap.size W w'→Calls Try.prog 20 #[ptR pp] w' (GotDump w' S)):=fun w' hb=>HSp.dump base pp S m F w' (HSp.below HP (bW.trans (hb.mono (by omega)))) O hm
 obtain⟨t,ht⟩: ∃ t,t=faceOf S f:=⟨_,rfl⟩
 rw [←ht]at CF
 have p0:=Rw.cell 0 _ rfl
 cases hF:isF S f with
 |true=>
  obtain⟨c,hc,hn⟩:=isF_iff.1 hF
  have HR:Hid (StartIs (firstC S f) (.returned (.tuple #[.int .i64 f, .bool true]))):=by
   unfold Hid firstC
   rw [←hn,(wgFace O hc).2]
   rfl
  rw [hF]at CF
  clear HP ht CD hF hn
  go_enter Try.func10,Try.ntmps10
  go_wp2_with (go_at_call 19;fail)
  refine Calls.mono CF.out ?_
  rintro e w2 ⟨rfl,b2⟩
  have B3:Below w.heap.size w (w2.alloc (.cells #[.int .i64 t.v0, .int .i64 t.v1, .int .i64 t.v2, .int .i64 t.x0, .int .i64 t.y0, .int .i64 t.x1, .int .i64 t.y1, .int .i64 t.x2, .int .i64 t.y2] 65)):=(bW.trans (b2.mono (by omega))).alloc (by have:=b2.size;omega) _
  clear CF p0
  go_wp2
  exact bodyPost_ret (v:= .tuple #[.int .i64 f, .bool true]) (by simp [results,Try.results10,go_sem]) rfl ⟨HR.out,B3⟩
 |false=>
  have hno:S.C.find? (fun c=>decide (c.no=f))=none:=m_faceOf_no hF
  have hfc:firstC S f=S.C.head? :=by unfold firstC;rw [hno]
  rw [hfc]
  rw [hF]at CF
  clear HP ht hF hno hfc
  go_enter Try.func10,Try.ntmps10
  go_wp2_with (go_at_call 19;fail)
  refine Calls.mono CF.out ?_
  rintro e w2 ⟨rfl,b2⟩
  obtain⟨w3,hw3⟩: ∃ w3,w3=w2.alloc (.cells #[.int .i64 t.v0, .int .i64 t.v1, .int .i64 t.v2, .int .i64 t.x0, .int .i64 t.y0, .int .i64 t.x1, .int .i64 t.y1, .int .i64 t.x2, .int .i64 t.y2] 65):=⟨_,rfl⟩
  have q3:Below W.heap.size W w3:=by rw [hw3];exact b2.alloc b2.size _
  have z3:=q3.size
  have B3:Below w.heap.size w w3:=bW.trans (q3.mono (by omega))
  have p3:=(Rw.below q3 (by omega)).cell 0 _ rfl
  rw [hw3]at p3
  have H3:Hid _:=hw3.symm
  clear CF p0 hw3
  go_wp2_with (go_at_call 20;fail)
  rw [H3.out]
  refine Calls.mono (CD.out w3 q3) ?_
  rintro e w4 ⟨a,ca,b,cb,rfl,hd,b4⟩
  have B4:=B3.trans (b4.mono B3.size)
  have hff:=fieldFaces S.n a b S.V.length ca S.C.length cb w4
  obtain⟨bs,ho1,ho2⟩:=hd.ex
  clear CD p3 H3 ho1 hd
  obtain⟨n,hn⟩: ∃ n,n=S.C.length:=⟨_,rfl⟩
  rw [←hn]at hff ⊢
  by_cases hz:n=0
  ·have HH:Hid (StartIs S.C.head? (.returned (.tuple #[.int .i64 (-1), .bool false]))):=by
    unfold Hid
    rw [List.length_eq_zero_iff.1 (by omega:S.C.length=0)]
    rfl
   subst hz
   clear ho2 hn hlen
   go_wp2
   exact bodyPost_ret (v:= .tuple #[.int .i64 (-1), .bool false]) (by simp [results,Try.results10,go_sem]) rfl ⟨HH.out,B4⟩
  ·obtain⟨c,hc0⟩: ∃ c,S.C[0]? =some c:=⟨S.C[0]'(by omega),List.getElem?_eq_getElem _⟩
   have HH:Hid (StartIs S.C.head? (.returned (.tuple #[.int .i64 c.no, .bool true]))):=by
    unfold Hid
    rw [List.head?_eq_getElem?,hc0]
    rfl
   obtain⟨g,rfl,hg,HE⟩:=OwnS.elem ceC_len ho2 hc0
   have e0:w4.cell? ⟨g,0,none⟩=some (.int .i64 c.no):=HE 0 _ rfl
   have hpos:(0:Int)<(n:Int):=by omega
   have hnz:((n:Int)==0)=false:=by simpa using(by omega: ¬(n:Int)=0)
   obtain⟨no,hno⟩: ∃ f,f=c.no:=⟨_,rfl⟩
   rw [←hno]at e0 HH
   clear HE ho2 hn hlen hc0 hno hz
   go_wp2
   exact bodyPost_ret (v:= .tuple #[.int .i64 no, .bool true]) (by simp [results,Try.results10,go_sem]) rfl ⟨HH.out,B4⟩
set_option maxRecDepth 100000 in
set_option maxHeartbeats 8000000 in
theorem wAll{MP:MeShape}(HSp:MeSp MP)(base pp:Nat)(S:Ms)(m:Nat)(F:Nat→Prop)(w:World)(HP:MP base pp S F w)(O:MsOk S m)(hm:m≤1000)(q1 q2:Int)(hq:canC q1 q2=true):
  Calls Try.prog 12 #[.agg #[ptR pp, .int .i64 q1, .int .i64 q2]] w fun e w'=>AllIs (seekW S q1 q2 S.C) e∧Below w.heap.size w w':=by
 have hlen:=O.lens.2.1
 obtain⟨W,hW⟩: ∃ W,W=((w.alloc (.cells #[ptR pp, .int .i64 q1, .int .i64 q2] 39)).alloc (.cells #[.int .i64 0, .int .i64 0, .int .i64 0] 43)):=⟨_,rfl⟩
 have bW:Below w.heap.size w W:=by rw [hW];exact(((Below.refl _ _).alloc (Nat.le_refl _) _).alloc (by simp<;>omega) _)
 have zW:W.heap.size=w.heap.size+2:=by rw [hW];simp
 have Rw:Row W (w.heap.size) [ptR pp, .int .i64 q1, .int .i64 q2]:=by
  have h0:=Row.new w [ptR pp, .int .i64 q1, .int .i64 q2] 39
  rw [hW];exact(h0.alloc _ (by simp<;>omega))
 have lw:w.heap.size<W.heap.size:=by omega
 have Rr:Row W (w.heap.size+1) [.int .i64 0, .int .i64 0, .int .i64 0]:=by
  have h0:=Row.new (w.alloc (.cells #[ptR pp, .int .i64 q1, .int .i64 q2] 39)) [.int .i64 0, .int .i64 0, .int .i64 0] 43
  simp only [World.size_alloc]at h0
  rw [hW];exact h0
 have lr:w.heap.size+1<W.heap.size:=by omega
 have HW:((w.alloc (.cells #[ptR pp, .int .i64 q1, .int .i64 q2] 39)).alloc (.cells #[.int .i64 0, .int .i64 0, .int .i64 0] 43))=W:=hW.symm
 clear hW
 have CD:Hid _:=HSp.dump base pp S m F W (HSp.below HP bW) O hm
 have CL:Hid (∀ (w':World) (c:Ce),c∈S.C→Below W.heap.size W w'→Calls Try.prog 24 #[.agg #[ptR pp, .int .i64 q1, .int .i64 q2],ceV c] w' fun e w''=>HitIs c (tryF S c.t q1 q2 49 0) e∧Below w'.heap.size w' w''):=fun w' c hc hb=>wLookAt HSp base pp S m F w' (HSp.below HP (bW.trans (hb.mono (by omega)))) O hm c hc q1 q2 hq
 have p0:=Rw.cell 0 _ rfl
 clear HP hq
 replace HW:Hid _:=HW
 go_enter Try.func12,Try.ntmps12
 go_wp2_with (go_at_call 20;fail)
 rw [HW.out]
 clear HW
 refine Calls.mono CD.out ?_
 rintro e w4 ⟨a,ca,b,cb,rfl,hd,b4⟩
 have z4:=b4.size
 have hff:=fieldFaces S.n a b S.V.length ca S.C.length cb w4
 obtain⟨bs,_,ho2⟩:=hd.ex
 have HO:Hid (OwnS w4 bs 74 10 b S.C.length cb (flat ceC S.C)):=ho2
 obtain⟨n,hn⟩: ∃ n,n=S.C.length:=⟨_,rfl⟩
 have HN:Hid _:=hn
 rw [←hn]at hff hlen ⊢
 clear CD p0 hd ho2 hn
 go_wp2
 clear hff
 go_loopw [13] (fun k wr=> ∃ i:Nat,i≤n∧k= .int .i64 (i:Int)∧Hid (seekW S q1 q2 S.C=seekW S q1 q2 (S.C.drop i))∧Below w4.heap.size w4 wr) (fun k _=>n- (Go.RowKit.intOf k).toNat)
 case atStart=>exact⟨0,by omega,rfl,rfl,Below.refl _ _⟩
 case round=>
  obtain⟨i,hi,rfl,HA,kr⟩:=hrel
  obtain⟨wq,hwq⟩: ∃ w,w=wr:=⟨_,rfl⟩
  rw [←hwq]at kr ⊢
  clear hwq
  have zq:=kr.size
  have kW:Below W.heap.size W wq:=b4.trans (kr.mono (by omega))
  have Rw1:=Rw.below kW lw
  have Rr1:=Rr.below kW lr
  by_cases hlt:i<n
  ·have hlt':(i:Int)<(n:Int):=by omega
   obtain⟨c,hc0⟩: ∃ c,S.C[i]? =some c:=⟨S.C[i]'(by rw [←HN.out];exact hlt),List.getElem?_eq_getElem _⟩
   obtain⟨g,rfl,hg,HE⟩:=OwnS.elem ceC_len (OwnS.below HO.out kr) hc0
   have HD:Hid _:=seekW_drop (S:=S) (qx:=q1) (qy:=q2) hc0
   have CC:Hid (∀ w',Below W.heap.size W w'→_):=fun w' hb=>CL.out w' c (List.mem_of_getElem? hc0) hb
   obtain⟨t,ht⟩: ∃ t,t=c.t:=⟨_,rfl⟩
   obtain⟨no,hno⟩: ∃ f,f=c.no:=⟨_,rfl⟩
   have y0:wq.cell? ⟨g,i*10,none⟩=some (.int .i64 c.no):=HE 0 _ rfl
   have y1:wq.cell? ⟨g,i*10+1,none⟩=some (.int .i64 c.t.v0):=HE 1 _ rfl
   have y2:wq.cell? ⟨g,i*10+2,none⟩=some (.int .i64 c.t.v1):=HE 2 _ rfl
   have y3:wq.cell? ⟨g,i*10+3,none⟩=some (.int .i64 c.t.v2):=HE 3 _ rfl
   have y4:wq.cell? ⟨g,i*10+4,none⟩=some (.int .i64 c.t.x0):=HE 4 _ rfl
   have y5:wq.cell? ⟨g,i*10+5,none⟩=some (.int .i64 c.t.y0):=HE 5 _ rfl
   have y6:wq.cell? ⟨g,i*10+6,none⟩=some (.int .i64 c.t.x1):=HE 6 _ rfl
   have y7:wq.cell? ⟨g,i*10+7,none⟩=some (.int .i64 c.t.y1):=HE 7 _ rfl
   have y8:wq.cell? ⟨g,i*10+8,none⟩=some (.int .i64 c.t.x2):=HE 8 _ rfl
   have y9:wq.cell? ⟨g,i*10+9,none⟩=some (.int .i64 c.t.y2):=HE 9 _ rfl
   unfold ceV at CC
   rw [←hno]at y0
   rw [←ht]at y1 y2 y3 y4 y5 y6 y7 y8 y9
   rw [←ht,←hno]at CC
   have HNO:Hid _:=hno
   have HTT:Hid _:=ht
   clear ht hno
   have p0:=Rw1.cell 0 _ rfl
   have p1:=Rw1.cell 1 _ rfl
   have p2:=Rw1.cell 2 _ rfl
   have hlq:w.heap.size<wq.heap.size:=by omega
   obtain⟨w5,hw5⟩: ∃ w5,w5=wq.alloc (.cells #[.int .i64 no, .int .i64 t.v0, .int .i64 t.v1, .int .i64 t.v2, .int .i64 t.x0, .int .i64 t.y0, .int .i64 t.x1, .int .i64 t.y1, .int .i64 t.x2, .int .i64 t.y2] 74):=⟨_,rfl⟩
   have k5:Below wq.heap.size wq w5:=by rw [hw5];exact(Below.refl _ _).alloc (Nat.le_refl _) _
   have R5:Row w5 wq.heap.size [.int .i64 no, .int .i64 t.v0, .int .i64 t.v1, .int .i64 t.v2, .int .i64 t.x0, .int .i64 t.y0, .int .i64 t.x1, .int .i64 t.y1, .int .i64 t.x2, .int .i64 t.y2]:=by rw [hw5];exact Row.new wq [.int .i64 no, .int .i64 t.v0, .int .i64 t.v1, .int .i64 t.v2, .int .i64 t.x0, .int .i64 t.y0, .int .i64 t.x1, .int .i64 t.y1, .int .i64 t.x2, .int .i64 t.y2] _
   have s0:=R5.cell 0 _ rfl
   have s1:=R5.cell 1 _ rfl
   have s2:=R5.cell 2 _ rfl
   have s3:=R5.cell 3 _ rfl
   have s4:=R5.cell 4 _ rfl
   have s5:=R5.cell 5 _ rfl
   have s6:=R5.cell 6 _ rfl
   have s7:=R5.cell 7 _ rfl
   have s8:=R5.cell 8 _ rfl
   have s9:=R5.cell 9 _ rfl
   have v0:=(Rw1.below k5 hlq).cell 0 _ rfl
   have v1:=(Rw1.below k5 hlq).cell 1 _ rfl
   have v2:=(Rw1.below k5 hlq).cell 2 _ rfl
   rw [hw5]at s0 s1 s2 s3 s4 s5 s6 s7 s8 s9 v0 v1 v2
   have H5:Hid _:=hw5.symm
   have z5:=k5.size
   clear HE R5 p0 p1 p2 hw5 hc0
   go_wp2_with (go_at_call 24;fail)
   rw [H5.out]
   refine Calls.mono (CC.out w5 (kW.trans (k5.mono (by omega)))) ?_
   rintro e w6 ⟨he,b6⟩
   have z6:=b6.size
   have k6:Below w4.heap.size w4 w6:=kr.trans ((k5.trans (b6.mono (by omega))).mono (by omega))
   clear CC y0 y1 y2 y3 y4 y5 y6 y7 y8 y9 s0 s1 s2 s3 s4 s5 s6 s7 s8 s9 v0 v1 v2
   cases hT:tryF S c.t q1 q2 49 0 with
   |none=>
    have HRES:Hid (seekW S q1 q2 S.C=seekW S q1 q2 (S.C.drop (i+1))):=by unfold Hid;rw [HA.out,HD.out,hT]
    rw [HTT.out,hT]at he
    have he:e=_:=he
    subst he
    have k7:Below w4.heap.size w4 (w6.alloc (.cells #[.int .i64 0, .int .i64 0, .int .i64 0] 43)):=k6.alloc k6.size _
    clear HA HD hT
    go_wp2
    go_roundw
    case rel=>exact⟨i+1,by omega,by simp,HRES,k7⟩
    case measure=>simp [Go.RowKit.intOf];omega
   |some r=>
    obtain⟨U,V⟩:=r
    have HRES:Hid (AllIs (seekW S q1 q2 S.C) (.returned (.tuple #[.agg #[.int .i64 no, .int .i64 U, .int .i64 V], .bool true]))):=by unfold Hid;rw [HA.out,HD.out,hT,HNO.out];rfl
    rw [HTT.out,hT]at he
    have he:e= .returned (.tuple #[.agg #[.int .i64 c.no, .int .i64 U, .int .i64 V], .bool true]):=he
    rw [←HNO.out]at he
    subst he
    obtain⟨w7,hw7⟩: ∃ w7,w7=w6.alloc (.cells #[.int .i64 no, .int .i64 U, .int .i64 V] 43):=⟨_,rfl⟩
    have k7:Below w6.heap.size w6 w7:=by rw [hw7];exact(Below.refl _ _).alloc (Nat.le_refl _) _
    have R7:Row w7 w6.heap.size [.int .i64 no, .int .i64 U, .int .i64 V]:=by rw [hw7];exact Row.new w6 [.int .i64 no, .int .i64 U, .int .i64 V] _
    have h0:=R7.cell 0 _ rfl
    have h1:=R7.cell 1 _ rfl
    have h2:=R7.cell 2 _ rfl
    have k47:=k6.trans (k7.mono (by omega))
    have z7:=k7.size
    have Rr7:=(Rr.below b4 lr).below k47 (by omega)
    have B7:Below w.heap.size w w7:=(bW.trans (b4.mono (by omega))).trans (k47.mono (by omega))
    rw [hw7]at Rr7 B7 h0 h1 h2
    have o0:=Rr7.cell 0 _ rfl
    have f0:=Rr7.free 0 (by simp)
    have o1:=Rr7.cell 1 _ rfl
    have f1:=Rr7.free 1 (by simp)
    have o2:=Rr7.cell 2 _ rfl
    have f2:=Rr7.free 2 (by simp)
    have RX:=(((Rr7.set 0 (.int .i64 no) (by simp)).set 1 (.int .i64 U) (by simp)).set 2 (.int .i64 V) (by simp))
    have BZ:=(((B7.setCell (p:=⟨w.heap.size+1,0,none⟩) (by simp) (.int .i64 no)).setCell (p:=⟨w.heap.size+1,1,none⟩) (by simp) (.int .i64 U)).setCell (p:=⟨w.heap.size+1,2,none⟩) (by simp) (.int .i64 V))
    have n0:=RX.cell 0 _ rfl
    have n1:=RX.cell 1 _ rfl
    have n2:=RX.cell 2 _ rfl
    clear RX Rr7
    clear HA HD hT R7
    go_wp2
    exact bodyPost_ret (v:= .tuple #[.agg #[.int .i64 no, .int .i64 U, .int .i64 V], .bool true]) (by simp [results,Try.results12,go_sem, *]) rfl ⟨HRES.out,BZ⟩
  ·obtain rfl:n=i:=by omega
   have HRES:Hid (AllIs (seekW S q1 q2 S.C) (.returned (.tuple #[.agg #[.int .i64 0, .int .i64 0, .int .i64 0], .bool false]))):=by
    unfold Hid
    rw [HA.out,List.drop_of_length_le (by rw [←HN.out];exact Nat.le_refl _)]
    rfl
   have BX:=bW.trans (kW.mono (by omega))
   have o0:=Rr1.cell 0 _ rfl
   have f0:=Rr1.free 0 (by simp)
   have o1:=Rr1.cell 1 _ rfl
   have f1:=Rr1.free 1 (by simp)
   have o2:=Rr1.cell 2 _ rfl
   have f2:=Rr1.free 2 (by simp)
   have RX:=(((Rr1.set 0 (.int .i64 0) (by simp)).set 1 (.int .i64 0) (by simp)).set 2 (.int .i64 0) (by simp))
   have BZ:=(((BX.setCell (p:=⟨w.heap.size+1,0,none⟩) (by simp) (.int .i64 0)).setCell (p:=⟨w.heap.size+1,1,none⟩) (by simp) (.int .i64 0)).setCell (p:=⟨w.heap.size+1,2,none⟩) (by simp) (.int .i64 0))
   have n0:=RX.cell 0 _ rfl
   have n1:=RX.cell 1 _ rfl
   have n2:=RX.cell 2 _ rfl
   clear RX Rr1
   clear HA
   go_wp2
   exact bodyPost_ret (v:= .tuple #[.agg #[.int .i64 0, .int .i64 0, .int .i64 0], .bool false]) (by simp [results,Try.results12,go_sem, *]) rfl ⟨HRES.out,BZ⟩
def FindIs(r:Fnd)(e:Ending):Prop:=e= .returned (.tuple #[.int .i64 r.f, .agg #[.int .i64 r.x, .int .i64 r.y], .int .i64 r.n, .bool r.ok])
theorem home_can{N p1 p2:Int}(hn:1≤N∧N≤17179869184)(h:canC p1 p2=true):canC (p1 % N) (p2 % N)=true∧(-1099511627776≤p1/N∧p1/N≤1099511627776)∧(-1099511627776≤p2/N∧p2/N≤1099511627776):=by
 obtain⟨h1,h2⟩:=canC_true.1 h
 have key: ∀ p:Int,inC p=true→inC (p % N)=true∧ -1099511627776≤p/N∧p/N≤1099511627776:=by
  intro p hp
  have b:=inC_true.1 hp
  have e1:=Int.emod_nonneg p (b:=N) (by omega)
  have e2:=Int.emod_lt_of_pos p (b:=N) (by omega)
  have e3:p/N≤1099511627776:=by
   rcases Int.lt_or_le p 0 with q|q
   ·have:=Int.ediv_neg_of_neg_of_pos q (b:=N) (by omega)
    omega
   ·exact Int.le_trans (Int.ediv_le_self _ q) b.2
  have e4: -1099511627776≤p/N:=(Int.le_ediv_iff_mul_le (by omega)).2 (by
   have:1099511627776*1≤1099511627776*N:=Int.mul_le_mul_of_nonneg_left hn.1 (by decide)
   rw [Int.neg_mul]
   omega)
  exact⟨inC_true.2 ⟨by omega,by omega⟩,e4,e3⟩
 have a:=key p1 h1
 have b:=key p2 h2
 exact⟨canC_true.2 ⟨a.1,b.1⟩,a.2,b.2⟩
theorem seekW_small{S:Ms}{m:Nat}(O:MsOk S m){q1 q2:Int}{d:Ce}{hx hy:Int}(h:seekW S q1 q2 S.C=some (d,hx,hy)):(-2199023255556≤hx∧hx≤2199023255556)∧(-2199023255556≤hy∧hy≤2199023255556):=by
 have h2:=seekW_mem h
 exact tryF_small O h2.1 (by omega) h2.2
theorem goW_few{S:Ms}{q1 q2:Int}: ∀ {k:Nat} {c:Ce} {x y:Int},(goW S q1 q2 k c x y).2≤k:=by
 intro k
 induction k with
 |zero=>intro c x y;unfold goW;split<;>exact Nat.le_refl _
 |succ k ih=>
  intro c x y
  unfold goW
  split
  ·exact Nat.zero_le _
  ·split
   ·exact Nat.zero_le _
   ·split
    ·exact Nat.zero_le _
    ·exact Nat.succ_le_succ ih
theorem goW_is{S:Ms}{q1 q2:Int}: ∀ {k:Nat} {c:Ce} {x y:Int} {r:Ce×Int×Int} {n:Nat},c∈S.C→goW S q1 q2 k c x y=(some r,n)→r.1∈S.C∧outI S r.1.t r.2.1 r.2.2 q1 q2= -1∧n≤k:=by
 intro k
 induction k with
 |zero=>
  intro c x y r n hc h
  unfold goW at h
  split at h
  ·rename_i ho
   cases h
   exact⟨hc,ho,Nat.le_refl _⟩
  ·cases h
 |succ k ih=>
  intro c x y r n hc h
  by_cases ho:outI S c.t x y q1 q2= -1
  ·rw [goW_here ho]at h
   cases h
   exact⟨hc,ho,Nat.zero_le _⟩
  ·by_cases h2:outI S c.t x y q1 q2= -2
   ·rw [goW_far h2]at h;cases h
   ·have hcs:=out_cases S c.t x y q1 q2
    have h0:0≤outI S c.t x y q1 q2:=by omega
    cases hs:stepC S c (outI S c.t x y q1 q2).toNat with
    |none=>rw [goW_out h0 hs]at h;cases h
    |some d=>
     rw [goW_step h0 hs]at h
     obtain⟨_,_,hm,_⟩:=stepC_is hs
     have e1:(goW S q1 q2 k d.1 (x+d.2.1) (y+d.2.2)).1=some r:=congrArg Prod.fst h
     have e2:(goW S q1 q2 k d.1 (x+d.2.1) (y+d.2.2)).2+1=n:=congrArg Prod.snd h
     have:=ih hm (Prod.ext e1 rfl:goW S q1 q2 k d.1 (x+d.2.1) (y+d.2.2)=(some r,_))
     have h4:=goW_few (S:=S) (q1:=q1) (q2:=q2) (k:=k) (c:=d.1) (x:=x+d.2.1) (y:=y+d.2.2)
     exact⟨this.1,this.2.1,by rw [←e2];exact Nat.succ_le_succ h4⟩
theorem fuel_few(f:Int):fuelN f≤1000:=by unfold fuelN;split<;>(try split)<;>omega
def GoIs(g:Option (Ce×Int×Int)×Nat)(e:Ending):Prop:=match g.1 with
 |none=>e= .returned (.tuple #[.agg #[.int .i64 0, .int .i64 0, .int .i64 0], .int .i64 (g.2:Int), .bool false])
 |some r=>e= .returned (.tuple #[.agg #[.int .i64 r.1.no, .int .i64 r.2.1, .int .i64 r.2.2], .int .i64 (g.2:Int), .bool true])
def GoSpec(MP:MeShape):Prop:= ∀ (base pp:Nat) (S:Ms) (m:Nat) (F:Nat→Prop) (w:World),MP base pp S F w→MsOk S m→m≤1000→ ∀ (c:Ce) (q1 q2:Int) (k:Nat),c∈S.C→canC q1 q2=true→k≤1000→Calls Try.prog 11 #[.agg #[ptR pp, .int .i64 q1, .int .i64 q2], .int .i64 c.no, .int .i64 (k:Int)] w fun e w'=>GoIs (goW S q1 q2 k c 0 0) e∧Below w.heap.size w w'
end Go.Proofs.Ytaadknpjbogkbaa
