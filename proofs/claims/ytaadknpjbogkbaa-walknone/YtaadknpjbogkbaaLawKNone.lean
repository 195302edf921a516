/-
  WalkNone: of no mesh, and of one without faces, nothing is found.
-/
import Derived.Test.YtaadknpjbogkbaaP1
import Derived.Test.YtaadknpjbogkbaaP2
import Derived.Test.YtaadknpjbogkbaaP3
import Derived.Test.YtaadknpjbogkbaaP4
import Derived.Test.YtaadknpjbogkbaaP5
import Derived.Test.YtaadknpjbogkbaaP6
import Derived.Test.YtaadknpjbogkbaaP7
import Derived.Test.YtaadknpjbogkbaaP8
import Derived.Test.YtaadknpjbogkbaaP9
import Derived.Test.YtaadknpjbogkbaaP10
import Derived.Test.YtaadknpjbogkbaaChecked
import Derived.Test.YtaadknpjbogkbaaRows
namespace Go.Proofs.Ytaadknpjbogkbaa
open Go.RowKit
set_option linter.unusedVariables false

namespace knone
open Go.ChangeShapes Go.WideShapes Go.ChangeAt Go.Joins
theorem find_none{n:Int}(f p1 p2 fuel:Int):findW (Ms.new n) f p1 p2 fuel=noFnd:=by
  unfold findW
  split
  · rfl
  · rfl
set_option maxRecDepth 100000 in
set_option maxHeartbeats 8000000 in
theorem walk(side:Int)(h1: -9223372036854775808≤side)(h2:side≤9223372036854775807)(f fu p1 p2:Int)(hf:In64 f)(hfu:In64 fu)(hp1:In64 p1)(hp2:In64 p2)(w:World):
    Calls Try.prog 3 #[.int .i64 side, .agg #[.int .i64 f, .int .i64 fu, .int .i64 p1, .int .i64 p2]] w fun e w'=>e= .returned (.bool true)∧Below w.heap.size w w':=by
  obtain⟨g,hg⟩: ∃ g:Int,g=if side<1∨1073741824<side then 12 else side:=⟨_,rfl⟩
  have hgr:1≤g∧g≤17179869184:=by rw [hg];split<;>omega
  have CS:Hid (∀ w',Calls Try.prog 6 #[.int .i64 side] w' fun e w''=>e= .returned (.int .i64 g)∧Below w'.heap.size w' w''):=fun w'=>aSide side w' hg
  have CN:Hid (∀ w',Calls Try.prog 5 #[.int .i64 g] w' fun e w''=> ∃ (p:Nat) (F:Nat→Prop),e= .returned (ptR p)∧MeP w'.heap.size p (Ms.new g) F w''∧(∀ k,F k→w'.heap.size≤k)∧Below w'.heap.size w' w''):=fun w'=>meSp.new w'.heap.size g w' (Nat.le_refl _) hgr
  have CA:Hid (∀ w',Calls Try.prog 4 #[.pointer none, .int .i64 f, .agg #[.int .i64 p1, .int .i64 p2], .int .i64 fu] w' fun e w''=>e= .returned (.tuple #[.int .i64 (-1), .agg #[.int .i64 0, .int .i64 0], .int .i64 0, .bool false])∧Below w'.heap.size w' w''):=fun w'=>wFindNil meNone w' f p1 p2 fu
  have CB:Hid (∀ (w':World) (base p:Nat) (F:Nat→Prop),MeP base p (Ms.new g) F w'→Calls Try.prog 4 #[ptR p, .int .i64 f, .agg #[.int .i64 p1, .int .i64 p2], .int .i64 fu] w' fun e w''=>e= .returned (.tuple #[.int .i64 (-1), .agg #[.int .i64 0, .int .i64 0], .int .i64 0, .bool false])∧Below w'.heap.size w' w''):=fun w' base p F mp=>by
    have:=wFind meSp base p (Ms.new g) 0 F w' mp (MsOk.new g hgr) (by decide) (wGo meSp) f p1 p2 fu hf hp1 hp2 hfu
    rw [find_none]at this
    exact this
  have CL:Hid (∀ w',Calls Try.prog 7 #[] w' fun e w''=>e= .returned (.bool true)∧Below w'.heap.size w' w''):=fun w'=>aLives16 meSp (wGo meSp) w'
  obtain⟨W,hW⟩: ∃ W,W=w.alloc (.cells ([.int .i64 f, .int .i64 fu, .int .i64 p1, .int .i64 p2]:List Value).toArray 25):=⟨_,rfl⟩
  have BW:Below w.heap.size w W:=by rw [hW];exact(Below.refl _ _).alloc (Nat.le_refl _) _
  have zW:W.heap.size=w.heap.size+1:=by rw [hW];simp
  have R0:Row W w.heap.size [.int .i64 f, .int .i64 fu, .int .i64 p1, .int .i64 p2]:=by rw [hW];exact Row.new w _ _
  have hW':w.alloc (.cells #[.int .i64 f, .int .i64 fu, .int .i64 p1, .int .i64 p2] 25)=W:=hW.symm
  have lw:w.heap.size<W.heap.size:=by omega
  have r0:=R0.cell 0 _ rfl
  have r1:=R0.cell 1 _ rfl
  have r2:=R0.cell 2 _ rfl
  have r3:=R0.cell 3 _ rfl
  clear hW hf hfu hp1 hp2 hg hgr h1 h2
  go_enter Try.func3,Try.ntmps3
  go_wp2_with (go_at_call 4;fail)
  refine Calls.mono (CA.out _) ?_
  rintro e w4 ⟨rfl,b4⟩
  obtain⟨w5,hw5⟩: ∃ w5,w5=w4.alloc (.cells #[.int .i64 0, .int .i64 0] 27):=⟨_,rfl⟩
  have k5:Below W.heap.size W w5:=by rw [hw5];exact b4.alloc b4.size _
  have R5:Row w5 w4.heap.size [.int .i64 0, .int .i64 0]:=by rw [hw5];exact Row.new w4 [.int .i64 0, .int .i64 0] _
  have l5:w4.heap.size<w5.heap.size:=by rw [hw5];simp
  have z5:=k5.size
  have B5:=BW.trans (k5.mono (by omega))
  have RW5:Row w5 w.heap.size [.int .i64 f, .int .i64 fu, .int .i64 p1, .int .i64 p2]:=R0.below k5 lw
  have r0:=RW5.cell 0 _ rfl
  have r1:=RW5.cell 1 _ rfl
  have r2:=RW5.cell 2 _ rfl
  have r3:=RW5.cell 3 _ rfl
  have lw5:w.heap.size<w5.heap.size:=by omega
  have H5:Hid _:=hw5.symm
  clear CA hw5 hW'
  go_wp2
  rw [H5.out]
  have HSn:Hid (∀ w',Below w5.heap.size w5 w'→(fun w'=>w'.cell? ⟨w.heap.size,0,none⟩=some (.int .i64 f)∧w'.cell? ⟨w.heap.size,1,none⟩=some (.int .i64 fu)∧w'.cell? ⟨w.heap.size,2,none⟩=some (.int .i64 p1)∧w'.cell? ⟨w.heap.size,3,none⟩=some (.int .i64 p2)∧Below w5.heap.size w5 w') w'):=by
    unfold Hid
    intro w' hb
    exact⟨(hb.cell (p:=⟨w.heap.size,0,none⟩) lw5).trans r0,(hb.cell (p:=⟨w.heap.size,1,none⟩) lw5).trans r1,(hb.cell (p:=⟨w.heap.size,2,none⟩) lw5).trans r2,(hb.cell (p:=⟨w.heap.size,3,none⟩) lw5).trans r3,hb⟩
  obtain⟨QQ,hQQ⟩: ∃ QQ:Exit→Go.Act→World→Prop,QQ=fun e act wr=>e= .normal∧ ∃ pb pw:Nat,act=⟨#[.int .i64 side, .agg #[.int .i64 f, .int .i64 fu, .int .i64 p1, .int .i64 p2],undef, .pointer (some ⟨w.heap.size,0,none⟩), .bool false, .int .i64 (-1), .pointer (some ⟨w4.heap.size,0,none⟩), .int .i64 0, .bool false, .int .i64 (-1), .pointer (some ⟨pb,0,none⟩), .int .i64 0, .bool false, .tuple #[.int .i64 (-1), .agg #[.int .i64 0, .int .i64 0], .int .i64 0, .bool false], .pointer (some ⟨w.heap.size,0,none⟩), .int .i64 f, .pointer (some ⟨w.heap.size,2,none⟩), .agg #[.int .i64 p1, .int .i64 p2], .pointer (some ⟨w.heap.size,1,none⟩), .int .i64 fu, .tuple #[.int .i64 (-1), .agg #[.int .i64 0, .int .i64 0], .int .i64 0, .bool false], .int .i64 (-1), .agg #[.int .i64 0, .int .i64 0], .int .i64 0, .bool false, .tuple #[.int .i64 (-1), .agg #[.int .i64 0, .int .i64 0], .int .i64 0, .bool false], .int .i64 side, .int .i64 g,ptR pw, .pointer (some ⟨w.heap.size,0,none⟩), .int .i64 f, .pointer (some ⟨w.heap.size,2,none⟩), .agg #[.int .i64 p1, .int .i64 p2], .pointer (some ⟨w.heap.size,1,none⟩), .int .i64 fu, .tuple #[.int .i64 (-1), .agg #[.int .i64 0, .int .i64 0], .int .i64 0, .bool false], .int .i64 (-1), .agg #[.int .i64 0, .int .i64 0], .int .i64 0, .bool false,undef,undef,undef,undef,undef,undef,undef,undef,undef,undef,undef,undef,undef,undef,undef,undef,undef,undef,undef,undef,undef,undef,undef,undef,undef,undef,undef,undef,undef,undef,undef,undef,undef,undef,undef], []⟩∧Row wr pb [.int .i64 0, .int .i64 0]∧Below w5.heap.size w5 wr∧w5.heap.size≤pb∧pb<wr.heap.size:=⟨_,rfl⟩
  have HQQ:Hid _:=hQQ
  clear hQQ
  refine wp_mono (Q:=QQ) ?_ ?_
  · refine wp_region_held_drew (S:=fun w'=>w'.cell? ⟨w.heap.size,0,none⟩=some (.int .i64 f)∧w'.cell? ⟨w.heap.size,1,none⟩=some (.int .i64 fu)∧w'.cell? ⟨w.heap.size,2,none⟩=some (.int .i64 p1)∧w'.cell? ⟨w.heap.size,3,none⟩=some (.int .i64 p2)∧Below w5.heap.size w5 w') (by kernel_rfl) ?_ (fun hHeld=>?_)
    · exact HSn.out _ (Below.refl _ _).drew
    refine take_yes (i:=0) (v:=?vn0x1) rfl (by kernel_rfl) (by kernel_rfl) (by kernel_rfl) (fun _ _ _ h=>by rw [HQQ.out]at h;exact Exit.noConfusion h.1) (by rfl) (by assumption) ?hyn0x1 ?restn0x1
    case hyn0x1=>(intro w hSw;(try dsimp only at hSw);first|(go_simp;done)|(go_simp;with_reducible rfl))
    simp only [Act.put,List.setIfInBounds_toArray,List.set_cons_zero,List.set_cons_succ]
    refine take_yes (i:=3) (v:=?vn3x2) rfl (by kernel_rfl) (by kernel_rfl) (by kernel_rfl) (fun _ _ _ h=>by rw [HQQ.out]at h;exact Exit.noConfusion h.1) (by rfl) (by assumption) ?hyn3x2 ?restn3x2
    case hyn3x2=>(intro w hSw;(try dsimp only at hSw);first|(go_simp;done)|(go_simp;with_reducible rfl))
    simp only [Act.put,List.setIfInBounds_toArray,List.set_cons_zero,List.set_cons_succ]
    refine take_yes (i:=4) (v:=?vn4x3) rfl (by kernel_rfl) (by kernel_rfl) (by kernel_rfl) (fun _ _ _ h=>by rw [HQQ.out]at h;exact Exit.noConfusion h.1) (by rfl) (by assumption) ?hyn4x3 ?restn4x3
    case hyn4x3=>(intro w hSw;(try dsimp only at hSw);first|(go_simp;done)|(go_simp;with_reducible rfl))
    simp only [Act.put,List.setIfInBounds_toArray,List.set_cons_zero,List.set_cons_succ]
    refine take_yes (i:=5) (v:=?vn5x4) rfl (by kernel_rfl) (by kernel_rfl) (by kernel_rfl) (fun _ _ _ h=>by rw [HQQ.out]at h;exact Exit.noConfusion h.1) (by rfl) (by assumption) ?hyn5x4 ?restn5x4
    case hyn5x4=>(intro w hSw;(try dsimp only at hSw);first|(go_simp;done)|(go_simp;with_reducible rfl))
    simp only [Act.put,List.setIfInBounds_toArray,List.set_cons_zero,List.set_cons_succ]
    refine take_yes (i:=6) (v:=?vn6x5) rfl (by kernel_rfl) (by kernel_rfl) (by kernel_rfl) (fun _ _ _ h=>by rw [HQQ.out]at h;exact Exit.noConfusion h.1) (by rfl) (by assumption) ?hyn6x5 ?restn6x5
    case hyn6x5=>(intro w hSw;(try dsimp only at hSw);first|(go_simp;done)|(go_simp;with_reducible rfl))
    simp only [Act.put,List.setIfInBounds_toArray,List.set_cons_zero,List.set_cons_succ]
    refine take_yes (i:=7) (v:=?vn7x6) rfl (by kernel_rfl) (by kernel_rfl) (by kernel_rfl) (fun _ _ _ h=>by rw [HQQ.out]at h;exact Exit.noConfusion h.1) (by rfl) (by assumption) ?hyn7x6 ?restn7x6
    case hyn7x6=>(intro w hSw;(try dsimp only at hSw);first|(go_simp;done)|(go_simp;with_reducible rfl))
    simp only [Act.put,List.setIfInBounds_toArray,List.set_cons_zero,List.set_cons_succ]
    refine take_yes (i:=8) (v:=?vn8x7) rfl (by kernel_rfl) (by kernel_rfl) (by kernel_rfl) (fun _ _ _ h=>by rw [HQQ.out]at h;exact Exit.noConfusion h.1) (by rfl) (by assumption) ?hyn8x7 ?restn8x7
    case hyn8x7=>(intro w hSw;(try dsimp only at hSw);first|(go_simp;done)|(go_simp;with_reducible rfl))
    simp only [Act.put,List.setIfInBounds_toArray,List.set_cons_zero,List.set_cons_succ]
    generalize w5.drew=X0n at hHeld ⊢
    have gyX0n:w5.heap.size≤X0n.heap.size:=hHeld.2.2.2.2.size
    refine wpAnyH_ready (rs:= [1,15]) (by kernel_rfl) (by simp) (AllReadyH.cons (i:=1) rfl (fun Kc hK=>?_) (AllReadyH.cons (i:=15) rfl (fun Kc hK=>?_) AllReadyH.nil))
    · skip
      go_simp
      (go_at_call 6;refine Calls.mono (CS.out _) ?_;rintro e X1n ⟨rfl,e1n⟩)
      refine hK.out _ _ (HSn.out _ (hHeld.2.2.2.2.trans (e1n.mono hHeld.2.2.2.2.size))) (fun hHeld=>?_)
      clear hK Kc
      have gyX1n:w5.heap.size≤X1n.heap.size:=hHeld.2.2.2.2.size
      refine wpAnyH_ready (rs:= [2,15]) (by kernel_rfl) (by simp) (AllReadyH.cons (i:=2) rfl (fun Kc hK=>?_) (AllReadyH.cons (i:=15) rfl (fun Kc hK=>?_) AllReadyH.nil))
      · skip
        go_simp
        (go_at_call 5;refine Calls.mono (CN.out _) ?_;rintro e X2n ⟨pw,Fw,rfl,mp,hFw,e2n⟩;have bs: ∃ q,MeP q pw (Ms.new g) Fw X2n:=⟨_,mp⟩;clear mp hFw;obtain⟨bq,mp⟩:=bs)
        refine hK.out _ _ (HSn.out _ (hHeld.2.2.2.2.trans (e2n.mono hHeld.2.2.2.2.size))) (fun hHeld=>?_)
        clear hK Kc
        have gyX2n:w5.heap.size≤X2n.heap.size:=hHeld.2.2.2.2.size
        refine wpAnyH_ready (rs:= [9,15]) (by kernel_rfl) (by simp) (AllReadyH.cons (i:=9) rfl (fun Kc hK=>?_) (AllReadyH.cons (i:=15) rfl (fun Kc hK=>?_) AllReadyH.nil))
        · skip
          go_simp
          (go_at_call 4;refine Calls.mono (CB.out _ _ pw _ mp) ?_;rintro e X3n ⟨rfl,e3n⟩)
          refine hK.out _ _ (HSn.out _ (hHeld.2.2.2.2.trans (e3n.mono hHeld.2.2.2.2.size))) (fun hHeld=>?_)
          clear hK Kc
          have gyX3n:w5.heap.size≤X3n.heap.size:=hHeld.2.2.2.2.size
          refine take_yes (i:=10) (v:=?vn10x8) rfl (by kernel_rfl) (by kernel_rfl) (by kernel_rfl) (fun _ _ _ h=>by rw [HQQ.out]at h;exact Exit.noConfusion h.1) (by rfl) (by assumption) ?hyn10x8 ?restn10x8
          case hyn10x8=>(intro w hSw;(try dsimp only at hSw);first|(go_simp;done)|(go_simp;with_reducible rfl))
          simp only [Act.put,List.setIfInBounds_toArray,List.set_cons_zero,List.set_cons_succ]
          refine take_yes (i:=11) (v:=?vn11x9) rfl (by kernel_rfl) (by kernel_rfl) (by kernel_rfl) (fun _ _ _ h=>by rw [HQQ.out]at h;exact Exit.noConfusion h.1) (by rfl) (by assumption) ?hyn11x9 ?restn11x9
          case hyn11x9=>(intro w hSw;(try dsimp only at hSw);first|(go_simp;done)|(go_simp;with_reducible rfl))
          simp only [Act.put,List.setIfInBounds_toArray,List.set_cons_zero,List.set_cons_succ]
          refine take_yes (i:=12) (v:=?vn12x10) rfl (by kernel_rfl) (by kernel_rfl) (by kernel_rfl) (fun _ _ _ h=>by rw [HQQ.out]at h;exact Exit.noConfusion h.1) (by rfl) (by assumption) ?hyn12x10 ?restn12x10
          case hyn12x10=>(intro w hSw;(try dsimp only at hSw);first|(go_simp;done)|(go_simp;with_reducible rfl))
          simp only [Act.put,List.setIfInBounds_toArray,List.set_cons_zero,List.set_cons_succ]
          refine take_yes (i:=13) (v:=?vn13x11) rfl (by kernel_rfl) (by kernel_rfl) (by kernel_rfl) (fun _ _ _ h=>by rw [HQQ.out]at h;exact Exit.noConfusion h.1) (by rfl) (by assumption) ?hyn13x11 ?restn13x11
          case hyn13x11=>(intro w hSw;(try dsimp only at hSw);first|(go_simp;done)|(go_simp;with_reducible rfl))
          simp only [Act.put,List.setIfInBounds_toArray,List.set_cons_zero,List.set_cons_succ]
          refine take_yes (i:=14) (v:=?vn14x12) rfl (by kernel_rfl) (by kernel_rfl) (by kernel_rfl) (fun _ _ _ h=>by rw [HQQ.out]at h;exact Exit.noConfusion h.1) (by rfl) (by assumption) ?hyn14x12 ?restn14x12
          case hyn14x12=>(intro w hSw;(try dsimp only at hSw);first|(go_simp;done)|(go_simp;with_reducible rfl))
          simp only [Act.put,List.setIfInBounds_toArray,List.set_cons_zero,List.set_cons_succ]
          refine tcl 15 fun Kc hK=>?_
          go_simp
          refine hK.out _ _ (HSn.out _ (hHeld.2.2.2.2.alloc hHeld.2.2.2.2.size _)) (fun hHeld=>?_)
          clear hK Kc
          have y:=Row.new X3n [.int .i64 0, .int .i64 0] 27
          have ly:X3n.heap.size<(X3n.alloc (.cells #[.int .i64 0, .int .i64 0] 27)).heap.size:=by simp
          have gy:w5.heap.size≤X3n.heap.size:=gyX3n
          replace y:Row (X3n.alloc (.cells #[.int .i64 0, .int .i64 0] 27)) X3n.heap.size [.int .i64 0, .int .i64 0]:=y
          generalize X3n.alloc (.cells #[.int .i64 0, .int .i64 0] 27)=X4n at y ly hHeld ⊢
          generalize X3n.heap.size=pb at y ly gy ⊢
          refine take_yes (i:=16) (v:=?vn16x13) rfl (by kernel_rfl) (by kernel_rfl) (by kernel_rfl) (fun _ _ _ h=>by rw [HQQ.out]at h;exact Exit.noConfusion h.1) (by rfl) (by assumption) ?hyn16x13 ?restn16x13
          case hyn16x13=>(intro w hSw;(try dsimp only at hSw);first|(go_simp;done)|(go_simp;with_reducible rfl))
          simp only [Act.put,List.setIfInBounds_toArray,List.set_cons_zero,List.set_cons_succ]
          have sc0:=y.cell 0 _ rfl
          have sf0:=y.free 0 (by simp)
          have sc1:=y.cell 1 _ rfl
          have sf1:=y.free 1 (by simp)
          refine tcl 17 fun Kc hK=>?_
          go_simp
          refine hK.out _ _ (HSn.out _ (((hHeld.2.2.2.2.setCell gy _).setCell gy _))) (fun hHeld=>?_)
          clear hK Kc
          have y2:=((y.set 0 (.int .i64 0) (by simp)).set 1 (.int .i64 0) (by simp))
          refine take_yes (i:=18) (v:=?vn18x14) rfl (by kernel_rfl) (by kernel_rfl) (by kernel_rfl) (fun _ _ _ h=>by rw [HQQ.out]at h;exact Exit.noConfusion h.1) (by rfl) (by assumption) ?hyn18x14 ?restn18x14
          case hyn18x14=>(intro w hSw;(try dsimp only at hSw);first|(go_simp;done)|(go_simp;with_reducible rfl))
          simp only [Act.put,List.setIfInBounds_toArray,List.set_cons_zero,List.set_cons_succ]
          refine take_yes (i:=19) (v:=?vn19x15) rfl (by kernel_rfl) (by kernel_rfl) (by kernel_rfl) (fun _ _ _ h=>by rw [HQQ.out]at h;exact Exit.noConfusion h.1) (by rfl) (by assumption) ?hyn19x15 ?restn19x15
          case hyn19x15=>(intro w hSw;(try dsimp only at hSw);first|(go_simp;done)|(go_simp;with_reducible rfl))
          simp only [Act.put,List.setIfInBounds_toArray,List.set_cons_zero,List.set_cons_succ]
          refine wpAnyH_done (by kernel_rfl) ?_ _
          rw [HQQ.out]
          exact⟨rfl,pb,pw,rfl,y2,hHeld.2.2.2.2,gy,by simp only [World.size_setCell];exact ly⟩
        · skip
          go_simp
          refine hK.out _ _ (HSn.out _ (hHeld.2.2.2.2.alloc hHeld.2.2.2.2.size _)) (fun hHeld=>?_)
          clear hK Kc
          have y:=Row.new X2n [.int .i64 0, .int .i64 0] 27
          have ly:X2n.heap.size<(X2n.alloc (.cells #[.int .i64 0, .int .i64 0] 27)).heap.size:=by simp
          have gy:w5.heap.size≤X2n.heap.size:=gyX2n
          replace y:Row (X2n.alloc (.cells #[.int .i64 0, .int .i64 0] 27)) X2n.heap.size [.int .i64 0, .int .i64 0]:=y
          replace mp:=meSp.below mp (show Below X2n.heap.size X2n (X2n.alloc (.cells #[.int .i64 0, .int .i64 0] 27))from(Below.refl _ _).alloc (Nat.le_refl _) _)
          generalize X2n.alloc (.cells #[.int .i64 0, .int .i64 0] 27)=X5n at y ly hHeld mp ⊢
          generalize X2n.heap.size=pb at y ly gy ⊢
          refine tcl 9 fun Kc hK=>?_
          go_simp
          (go_at_call 4;refine Calls.mono (CB.out _ _ pw _ mp) ?_;rintro e X6n ⟨rfl,e6n⟩)
          refine hK.out _ _ (HSn.out _ (hHeld.2.2.2.2.trans (e6n.mono hHeld.2.2.2.2.size))) (fun hHeld=>?_)
          clear hK Kc
          have gyX6n:w5.heap.size≤X6n.heap.size:=hHeld.2.2.2.2.size
          replace y:=y.below e6n ly
          replace ly:=Nat.lt_of_lt_of_le ly e6n.size
          refine take_yes (i:=10) (v:=?vn10x16) rfl (by kernel_rfl) (by kernel_rfl) (by kernel_rfl) (fun _ _ _ h=>by rw [HQQ.out]at h;exact Exit.noConfusion h.1) (by rfl) (by assumption) ?hyn10x16 ?restn10x16
          case hyn10x16=>(intro w hSw;(try dsimp only at hSw);first|(go_simp;done)|(go_simp;with_reducible rfl))
          simp only [Act.put,List.setIfInBounds_toArray,List.set_cons_zero,List.set_cons_succ]
          refine take_yes (i:=11) (v:=?vn11x17) rfl (by kernel_rfl) (by kernel_rfl) (by kernel_rfl) (fun _ _ _ h=>by rw [HQQ.out]at h;exact Exit.noConfusion h.1) (by rfl) (by assumption) ?hyn11x17 ?restn11x17
          case hyn11x17=>(intro w hSw;(try dsimp only at hSw);first|(go_simp;done)|(go_simp;with_reducible rfl))
          simp only [Act.put,List.setIfInBounds_toArray,List.set_cons_zero,List.set_cons_succ]
          refine take_yes (i:=12) (v:=?vn12x18) rfl (by kernel_rfl) (by kernel_rfl) (by kernel_rfl) (fun _ _ _ h=>by rw [HQQ.out]at h;exact Exit.noConfusion h.1) (by rfl) (by assumption) ?hyn12x18 ?restn12x18
          case hyn12x18=>(intro w hSw;(try dsimp only at hSw);first|(go_simp;done)|(go_simp;with_reducible rfl))
          simp only [Act.put,List.setIfInBounds_toArray,List.set_cons_zero,List.set_cons_succ]
          refine take_yes (i:=13) (v:=?vn13x19) rfl (by kernel_rfl) (by kernel_rfl) (by kernel_rfl) (fun _ _ _ h=>by rw [HQQ.out]at h;exact Exit.noConfusion h.1) (by rfl) (by assumption) ?hyn13x19 ?restn13x19
          case hyn13x19=>(intro w hSw;(try dsimp only at hSw);first|(go_simp;done)|(go_simp;with_reducible rfl))
          simp only [Act.put,List.setIfInBounds_toArray,List.set_cons_zero,List.set_cons_succ]
          refine take_yes (i:=14) (v:=?vn14x20) rfl (by kernel_rfl) (by kernel_rfl) (by kernel_rfl) (fun _ _ _ h=>by rw [HQQ.out]at h;exact Exit.noConfusion h.1) (by rfl) (by assumption) ?hyn14x20 ?restn14x20
          case hyn14x20=>(intro w hSw;(try dsimp only at hSw);first|(go_simp;done)|(go_simp;with_reducible rfl))
          simp only [Act.put,List.setIfInBounds_toArray,List.set_cons_zero,List.set_cons_succ]
          refine take_yes (i:=16) (v:=?vn16x21) rfl (by kernel_rfl) (by kernel_rfl) (by kernel_rfl) (fun _ _ _ h=>by rw [HQQ.out]at h;exact Exit.noConfusion h.1) (by rfl) (by assumption) ?hyn16x21 ?restn16x21
          case hyn16x21=>(intro w hSw;(try dsimp only at hSw);first|(go_simp;done)|(go_simp;with_reducible rfl))
          simp only [Act.put,List.setIfInBounds_toArray,List.set_cons_zero,List.set_cons_succ]
          have sc0:=y.cell 0 _ rfl
          have sf0:=y.free 0 (by simp)
          have sc1:=y.cell 1 _ rfl
          have sf1:=y.free 1 (by simp)
          refine tcl 17 fun Kc hK=>?_
          go_simp
          refine hK.out _ _ (HSn.out _ (((hHeld.2.2.2.2.setCell gy _).setCell gy _))) (fun hHeld=>?_)
          clear hK Kc
          have y2:=((y.set 0 (.int .i64 0) (by simp)).set 1 (.int .i64 0) (by simp))
          refine take_yes (i:=18) (v:=?vn18x22) rfl (by kernel_rfl) (by kernel_rfl) (by kernel_rfl) (fun _ _ _ h=>by rw [HQQ.out]at h;exact Exit.noConfusion h.1) (by rfl) (by assumption) ?hyn18x22 ?restn18x22
          case hyn18x22=>(intro w hSw;(try dsimp only at hSw);first|(go_simp;done)|(go_simp;with_reducible rfl))
          simp only [Act.put,List.setIfInBounds_toArray,List.set_cons_zero,List.set_cons_succ]
          refine take_yes (i:=19) (v:=?vn19x23) rfl (by kernel_rfl) (by kernel_rfl) (by kernel_rfl) (fun _ _ _ h=>by rw [HQQ.out]at h;exact Exit.noConfusion h.1) (by rfl) (by assumption) ?hyn19x23 ?restn19x23
          case hyn19x23=>(intro w hSw;(try dsimp only at hSw);first|(go_simp;done)|(go_simp;with_reducible rfl))
          simp only [Act.put,List.setIfInBounds_toArray,List.set_cons_zero,List.set_cons_succ]
          refine wpAnyH_done (by kernel_rfl) ?_ _
          rw [HQQ.out]
          exact⟨rfl,pb,pw,rfl,y2,hHeld.2.2.2.2,gy,by simp only [World.size_setCell];exact ly⟩
      · skip
        go_simp
        refine hK.out _ _ (HSn.out _ (hHeld.2.2.2.2.alloc hHeld.2.2.2.2.size _)) (fun hHeld=>?_)
        clear hK Kc
        have y:=Row.new X1n [.int .i64 0, .int .i64 0] 27
        have ly:X1n.heap.size<(X1n.alloc (.cells #[.int .i64 0, .int .i64 0] 27)).heap.size:=by simp
        have gy:w5.heap.size≤X1n.heap.size:=gyX1n
        replace y:Row (X1n.alloc (.cells #[.int .i64 0, .int .i64 0] 27)) X1n.heap.size [.int .i64 0, .int .i64 0]:=y
        generalize X1n.alloc (.cells #[.int .i64 0, .int .i64 0] 27)=X7n at y ly hHeld ⊢
        generalize X1n.heap.size=pb at y ly gy ⊢
        refine tcl 2 fun Kc hK=>?_
        go_simp
        (go_at_call 5;refine Calls.mono (CN.out _) ?_;rintro e X8n ⟨pw,Fw,rfl,mp,hFw,e8n⟩;have bs: ∃ q,MeP q pw (Ms.new g) Fw X8n:=⟨_,mp⟩;clear mp hFw;obtain⟨bq,mp⟩:=bs)
        refine hK.out _ _ (HSn.out _ (hHeld.2.2.2.2.trans (e8n.mono hHeld.2.2.2.2.size))) (fun hHeld=>?_)
        clear hK Kc
        have gyX8n:w5.heap.size≤X8n.heap.size:=hHeld.2.2.2.2.size
        replace y:=y.below e8n ly
        replace ly:=Nat.lt_of_lt_of_le ly e8n.size
        refine tcl 9 fun Kc hK=>?_
        go_simp
        (go_at_call 4;refine Calls.mono (CB.out _ _ pw _ mp) ?_;rintro e X9n ⟨rfl,e9n⟩)
        refine hK.out _ _ (HSn.out _ (hHeld.2.2.2.2.trans (e9n.mono hHeld.2.2.2.2.size))) (fun hHeld=>?_)
        clear hK Kc
        have gyX9n:w5.heap.size≤X9n.heap.size:=hHeld.2.2.2.2.size
        replace y:=y.below e9n ly
        replace ly:=Nat.lt_of_lt_of_le ly e9n.size
        refine take_yes (i:=10) (v:=?vn10x24) rfl (by kernel_rfl) (by kernel_rfl) (by kernel_rfl) (fun _ _ _ h=>by rw [HQQ.out]at h;exact Exit.noConfusion h.1) (by rfl) (by assumption) ?hyn10x24 ?restn10x24
        case hyn10x24=>(intro w hSw;(try dsimp only at hSw);first|(go_simp;done)|(go_simp;with_reducible rfl))
        simp only [Act.put,List.setIfInBounds_toArray,List.set_cons_zero,List.set_cons_succ]
        refine take_yes (i:=11) (v:=?vn11x25) rfl (by kernel_rfl) (by kernel_rfl) (by kernel_rfl) (fun _ _ _ h=>by rw [HQQ.out]at h;exact Exit.noConfusion h.1) (by rfl) (by assumption) ?hyn11x25 ?restn11x25
        case hyn11x25=>(intro w hSw;(try dsimp only at hSw);first|(go_simp;done)|(go_simp;with_reducible rfl))
        simp only [Act.put,List.setIfInBounds_toArray,List.set_cons_zero,List.set_cons_succ]
        refine take_yes (i:=12) (v:=?vn12x26) rfl (by kernel_rfl) (by kernel_rfl) (by kernel_rfl) (fun _ _ _ h=>by rw [HQQ.out]at h;exact Exit.noConfusion h.1) (by rfl) (by assumption) ?hyn12x26 ?restn12x26
        case hyn12x26=>(intro w hSw;(try dsimp only at hSw);first|(go_simp;done)|(go_simp;with_reducible rfl))
        simp only [Act.put,List.setIfInBounds_toArray,List.set_cons_zero,List.set_cons_succ]
        refine take_yes (i:=13) (v:=?vn13x27) rfl (by kernel_rfl) (by kernel_rfl) (by kernel_rfl) (fun _ _ _ h=>by rw [HQQ.out]at h;exact Exit.noConfusion h.1) (by rfl) (by assumption) ?hyn13x27 ?restn13x27
        case hyn13x27=>(intro w hSw;(try dsimp only at hSw);first|(go_simp;done)|(go_simp;with_reducible rfl))
        simp only [Act.put,List.setIfInBounds_toArray,List.set_cons_zero,List.set_cons_succ]
        refine take_yes (i:=14) (v:=?vn14x28) rfl (by kernel_rfl) (by kernel_rfl) (by kernel_rfl) (fun _ _ _ h=>by rw [HQQ.out]at h;exact Exit.noConfusion h.1) (by rfl) (by assumption) ?hyn14x28 ?restn14x28
        case hyn14x28=>(intro w hSw;(try dsimp only at hSw);first|(go_simp;done)|(go_simp;with_reducible rfl))
        simp only [Act.put,List.setIfInBounds_toArray,List.set_cons_zero,List.set_cons_succ]
        refine take_yes (i:=16) (v:=?vn16x29) rfl (by kernel_rfl) (by kernel_rfl) (by kernel_rfl) (fun _ _ _ h=>by rw [HQQ.out]at h;exact Exit.noConfusion h.1) (by rfl) (by assumption) ?hyn16x29 ?restn16x29
        case hyn16x29=>(intro w hSw;(try dsimp only at hSw);first|(go_simp;done)|(go_simp;with_reducible rfl))
        simp only [Act.put,List.setIfInBounds_toArray,List.set_cons_zero,List.set_cons_succ]
        have sc0:=y.cell 0 _ rfl
        have sf0:=y.free 0 (by simp)
        have sc1:=y.cell 1 _ rfl
        have sf1:=y.free 1 (by simp)
        refine tcl 17 fun Kc hK=>?_
        go_simp
        refine hK.out _ _ (HSn.out _ (((hHeld.2.2.2.2.setCell gy _).setCell gy _))) (fun hHeld=>?_)
        clear hK Kc
        have y2:=((y.set 0 (.int .i64 0) (by simp)).set 1 (.int .i64 0) (by simp))
        refine take_yes (i:=18) (v:=?vn18x30) rfl (by kernel_rfl) (by kernel_rfl) (by kernel_rfl) (fun _ _ _ h=>by rw [HQQ.out]at h;exact Exit.noConfusion h.1) (by rfl) (by assumption) ?hyn18x30 ?restn18x30
        case hyn18x30=>(intro w hSw;(try dsimp only at hSw);first|(go_simp;done)|(go_simp;with_reducible rfl))
        simp only [Act.put,List.setIfInBounds_toArray,List.set_cons_zero,List.set_cons_succ]
        refine take_yes (i:=19) (v:=?vn19x31) rfl (by kernel_rfl) (by kernel_rfl) (by kernel_rfl) (fun _ _ _ h=>by rw [HQQ.out]at h;exact Exit.noConfusion h.1) (by rfl) (by assumption) ?hyn19x31 ?restn19x31
        case hyn19x31=>(intro w hSw;(try dsimp only at hSw);first|(go_simp;done)|(go_simp;with_reducible rfl))
        simp only [Act.put,List.setIfInBounds_toArray,List.set_cons_zero,List.set_cons_succ]
        refine wpAnyH_done (by kernel_rfl) ?_ _
        rw [HQQ.out]
        exact⟨rfl,pb,pw,rfl,y2,hHeld.2.2.2.2,gy,by simp only [World.size_setCell];exact ly⟩
    · skip
      go_simp
      refine hK.out _ _ (HSn.out _ (hHeld.2.2.2.2.alloc hHeld.2.2.2.2.size _)) (fun hHeld=>?_)
      clear hK Kc
      have y:=Row.new X0n [.int .i64 0, .int .i64 0] 27
      have ly:X0n.heap.size<(X0n.alloc (.cells #[.int .i64 0, .int .i64 0] 27)).heap.size:=by simp
      have gy:w5.heap.size≤X0n.heap.size:=gyX0n
      replace y:Row (X0n.alloc (.cells #[.int .i64 0, .int .i64 0] 27)) X0n.heap.size [.int .i64 0, .int .i64 0]:=y
      generalize X0n.alloc (.cells #[.int .i64 0, .int .i64 0] 27)=X10n at y ly hHeld ⊢
      generalize X0n.heap.size=pb at y ly gy ⊢
      refine tcl 1 fun Kc hK=>?_
      go_simp
      (go_at_call 6;refine Calls.mono (CS.out _) ?_;rintro e X11n ⟨rfl,e11n⟩)
      refine hK.out _ _ (HSn.out _ (hHeld.2.2.2.2.trans (e11n.mono hHeld.2.2.2.2.size))) (fun hHeld=>?_)
      clear hK Kc
      have gyX11n:w5.heap.size≤X11n.heap.size:=hHeld.2.2.2.2.size
      replace y:=y.below e11n ly
      replace ly:=Nat.lt_of_lt_of_le ly e11n.size
      refine tcl 2 fun Kc hK=>?_
      go_simp
      (go_at_call 5;refine Calls.mono (CN.out _) ?_;rintro e X12n ⟨pw,Fw,rfl,mp,hFw,e12n⟩;have bs: ∃ q,MeP q pw (Ms.new g) Fw X12n:=⟨_,mp⟩;clear mp hFw;obtain⟨bq,mp⟩:=bs)
      refine hK.out _ _ (HSn.out _ (hHeld.2.2.2.2.trans (e12n.mono hHeld.2.2.2.2.size))) (fun hHeld=>?_)
      clear hK Kc
      have gyX12n:w5.heap.size≤X12n.heap.size:=hHeld.2.2.2.2.size
      replace y:=y.below e12n ly
      replace ly:=Nat.lt_of_lt_of_le ly e12n.size
      refine tcl 9 fun Kc hK=>?_
      go_simp
      (go_at_call 4;refine Calls.mono (CB.out _ _ pw _ mp) ?_;rintro e X13n ⟨rfl,e13n⟩)
      refine hK.out _ _ (HSn.out _ (hHeld.2.2.2.2.trans (e13n.mono hHeld.2.2.2.2.size))) (fun hHeld=>?_)
      clear hK Kc
      have gyX13n:w5.heap.size≤X13n.heap.size:=hHeld.2.2.2.2.size
      replace y:=y.below e13n ly
      replace ly:=Nat.lt_of_lt_of_le ly e13n.size
      refine take_yes (i:=10) (v:=?vn10x32) rfl (by kernel_rfl) (by kernel_rfl) (by kernel_rfl) (fun _ _ _ h=>by rw [HQQ.out]at h;exact Exit.noConfusion h.1) (by rfl) (by assumption) ?hyn10x32 ?restn10x32
      case hyn10x32=>(intro w hSw;(try dsimp only at hSw);first|(go_simp;done)|(go_simp;with_reducible rfl))
      simp only [Act.put,List.setIfInBounds_toArray,List.set_cons_zero,List.set_cons_succ]
      refine take_yes (i:=11) (v:=?vn11x33) rfl (by kernel_rfl) (by kernel_rfl) (by kernel_rfl) (fun _ _ _ h=>by rw [HQQ.out]at h;exact Exit.noConfusion h.1) (by rfl) (by assumption) ?hyn11x33 ?restn11x33
      case hyn11x33=>(intro w hSw;(try dsimp only at hSw);first|(go_simp;done)|(go_simp;with_reducible rfl))
      simp only [Act.put,List.setIfInBounds_toArray,List.set_cons_zero,List.set_cons_succ]
      refine take_yes (i:=12) (v:=?vn12x34) rfl (by kernel_rfl) (by kernel_rfl) (by kernel_rfl) (fun _ _ _ h=>by rw [HQQ.out]at h;exact Exit.noConfusion h.1) (by rfl) (by assumption) ?hyn12x34 ?restn12x34
      case hyn12x34=>(intro w hSw;(try dsimp only at hSw);first|(go_simp;done)|(go_simp;with_reducible rfl))
      simp only [Act.put,List.setIfInBounds_toArray,List.set_cons_zero,List.set_cons_succ]
      refine take_yes (i:=13) (v:=?vn13x35) rfl (by kernel_rfl) (by kernel_rfl) (by kernel_rfl) (fun _ _ _ h=>by rw [HQQ.out]at h;exact Exit.noConfusion h.1) (by rfl) (by assumption) ?hyn13x35 ?restn13x35
      case hyn13x35=>(intro w hSw;(try dsimp only at hSw);first|(go_simp;done)|(go_simp;with_reducible rfl))
      simp only [Act.put,List.setIfInBounds_toArray,List.set_cons_zero,List.set_cons_succ]
      refine take_yes (i:=14) (v:=?vn14x36) rfl (by kernel_rfl) (by kernel_rfl) (by kernel_rfl) (fun _ _ _ h=>by rw [HQQ.out]at h;exact Exit.noConfusion h.1) (by rfl) (by assumption) ?hyn14x36 ?restn14x36
      case hyn14x36=>(intro w hSw;(try dsimp only at hSw);first|(go_simp;done)|(go_simp;with_reducible rfl))
      simp only [Act.put,List.setIfInBounds_toArray,List.set_cons_zero,List.set_cons_succ]
      refine take_yes (i:=16) (v:=?vn16x37) rfl (by kernel_rfl) (by kernel_rfl) (by kernel_rfl) (fun _ _ _ h=>by rw [HQQ.out]at h;exact Exit.noConfusion h.1) (by rfl) (by assumption) ?hyn16x37 ?restn16x37
      case hyn16x37=>(intro w hSw;(try dsimp only at hSw);first|(go_simp;done)|(go_simp;with_reducible rfl))
      simp only [Act.put,List.setIfInBounds_toArray,List.set_cons_zero,List.set_cons_succ]
      have sc0:=y.cell 0 _ rfl
      have sf0:=y.free 0 (by simp)
      have sc1:=y.cell 1 _ rfl
      have sf1:=y.free 1 (by simp)
      refine tcl 17 fun Kc hK=>?_
      go_simp
      refine hK.out _ _ (HSn.out _ (((hHeld.2.2.2.2.setCell gy _).setCell gy _))) (fun hHeld=>?_)
      clear hK Kc
      have y2:=((y.set 0 (.int .i64 0) (by simp)).set 1 (.int .i64 0) (by simp))
      refine take_yes (i:=18) (v:=?vn18x38) rfl (by kernel_rfl) (by kernel_rfl) (by kernel_rfl) (fun _ _ _ h=>by rw [HQQ.out]at h;exact Exit.noConfusion h.1) (by rfl) (by assumption) ?hyn18x38 ?restn18x38
      case hyn18x38=>(intro w hSw;(try dsimp only at hSw);first|(go_simp;done)|(go_simp;with_reducible rfl))
      simp only [Act.put,List.setIfInBounds_toArray,List.set_cons_zero,List.set_cons_succ]
      refine take_yes (i:=19) (v:=?vn19x39) rfl (by kernel_rfl) (by kernel_rfl) (by kernel_rfl) (fun _ _ _ h=>by rw [HQQ.out]at h;exact Exit.noConfusion h.1) (by rfl) (by assumption) ?hyn19x39 ?restn19x39
      case hyn19x39=>(intro w hSw;(try dsimp only at hSw);first|(go_simp;done)|(go_simp;with_reducible rfl))
      simp only [Act.put,List.setIfInBounds_toArray,List.set_cons_zero,List.set_cons_succ]
      refine wpAnyH_done (by kernel_rfl) ?_ _
      rw [HQQ.out]
      exact⟨rfl,pb,pw,rfl,y2,hHeld.2.2.2.2,gy,by simp only [World.size_setCell];exact ly⟩
  rw [HQQ.out]
  rintro e act w8 ⟨rfl,pb,pw,rfl,yn,bw8,gyn,lyn⟩
  clear HQQ QQ HSn
  try dsimp only
  have R8:=R5.below bw8 l5
  have c0:=R8.cell 0 _ rfl
  have c1:=R8.cell 1 _ rfl
  have d0:=yn.cell 0 _ rfl
  have d1:=yn.cell 1 _ rfl
  have B8:=B5.trans (bw8.mono B5.size)
  clear r0 r1 r2 r3 CS CN CB
  go_wp2_with (go_at_call 7;fail)
  refine Calls.mono (CL.out w8) ?_
  rintro e w9 ⟨rfl,b9⟩
  have B9:=B8.trans (b9.mono B8.size)
  clear c0 c1 d0 d1 CL
  go_wp2
  go_ret
  exact⟨rfl,B9⟩
theorem own:ownKnob Try.prog.godebug=none:=by kernel_rfl
set_option maxRecDepth 100000 in
theorem lifted(os:Os)(started:os.Started)(H:Type)(enc:TypeId×Value→H):
    ReturnsInHanded {} Try.checked os 3 .any (Rows.walkNoneSpec.pre6 enc Try.prog Try.f3 Rows.walkNoneRow.domain false) (Rows.walkNoneSpec.post enc Try.prog Try.f3 false true false false):=by
  refine returnsInHanded_of_change (C:=Try.checked) own started (by kernel_rfl) Try.func3
    (ChangeSpec.witness6 (enc:=enc) (C:=Try.checked) false ⟨#[], #[.int .i64 0, .agg #[.int .i64 0, .int .i64 0, .int .i64 0, .int .i64 0]], []⟩ 8 (by kernel_rfl) (by kernel_rfl) (by kernel_rfl) (by kernel_rfl)) ?_
  intro W base args ds gs before hval0 hW hcnd _
  have hval: ∀ (j:Nat) t v,Try.f3.params[j]? =some t→args[j]? =some v→Value.okWide Try.prog W .any base t v:=hval0
  have hW':=hW
  obtain⟨p,q,hA0,hV,rfl,hfz,hnd⟩:=hW
  have hA:DataW.TrodAll enc Try.prog W 0 (fun _=>true) true Try.f3.params.toList args.toList ds p:=hA0
  rw [Try.params3]at hA hval
  obtain⟨v0,vs0,d0,ds0,p0,q0,hargs,rfl,rfl,h0,r0⟩:=trodAll_cons hA
  obtain⟨v1,vs1,d1,ds1,p1,q1,rfl,rfl,rfl,h1,r1⟩:=trodAll_cons r0
  obtain⟨rfl,rfl,rfl⟩:=trodAll_nil r1
  obtain rfl:args= #[v0,v1]:=by cases args;simp_all
  obtain⟨rfl,rfl⟩:=trodVars_none hV
  obtain⟨a0,rfl,rfl,rfl,w0⟩:=open_int Try.underlying2 (hval 0 2 v0 rfl rfl) h0
  obtain⟨a1_0,a1_1,a1_2,a1_3,rfl,rfl,rfl,w1_0,w1_1,w1_2,w1_3⟩:=open_way (hval 1 25 v1 rfl rfl) h1
  clear hA0 hval0
  have hwalk:=walk a0 (bd_i64 w0).1 (bd_i64 w0).2 a1_0 a1_1 a1_2 a1_3 (bd_i64 w1_0) (bd_i64 w1_1) (bd_i64 w1_2) (bd_i64 w1_3) W
  refine hwalk.mono fun e W' ⟨he,bel⟩=>?_
  subst he
  exact⟨_,rfl,_,_,_, [],_, [],hW',trodAll_mk1 (shut_bool Try.underlying4 _),(trodAll_cons_mk (shut_int Try.underlying2 w0) (trodAll_cons_mk (shut_way w1_0 w1_1 w1_2 w1_3) trodAll_mk0)),rfl,bel.frame _,fun h=>by cases h⟩

/-- The statement. -/
theorem proved:Rows.WalkNoneSaid:=
  OpenClaim.holds_of_wide 3 Try.f3 rfl rfl rfl rfl rfl rfl rfl ⟨rfl,rfl,rfl,rfl,rfl⟩ rfl rfl rfl rfl rfl (by kernel_rfl) Try.func3 (by kernel_rfl)
    (of_decide_eq_true (by kernel_rfl)) (by unfold Func.isWrapper;first|(rw [if_pos (by decide+kernel)];kernel_rfl)|(rw [if_neg (by decide+kernel)];exact⟨rfl,rfl⟩))
    (fun os started H enc _=>lifted os started H enc)
#print axioms proved
end knone
end Go.Proofs.Ytaadknpjbogkbaa
