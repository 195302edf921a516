/-
  Joined texts, part 15:
  What zelligeref07's InCircle answers.
  What zelligeref08's Can, last, Left and Conflict answer.
  The law's own look.
  A law's argument that is an array of three points: taken apart and put together again.
-/
import Derived.Test.YtnemailhijkemaaP14
import Derived.Test.YtnemailhijkemaaP11
import Derived.Test.YtnemailhijkemaaP12
import Derived.Test.YtnemailhijkemaaP13
import Derived.Test.YtnemailhijkemaaP9
import Derived.Test.YtnemailhijkemaaChecked
import Derived.Test.YtnemailhijkemaaP2
import Derived.Laws.IdiomArrays
import Derived.ProofKit
import Derived.OpenShut
import Derived.Lib.SmallJoins
namespace Go.Proofs.Ytnemailhijkemaa
open Go.RowKit
set_option linter.unusedVariables false

set_option maxRecDepth 100000 in
set_option maxHeartbeats 4000000 in
theorem rpCircle (a1 a2 b1 b2 c1 c2 d1 d2 : Int) (w : World) (ha : canC a1 a2 = true) (hb : canC b1 b2 = true) (hc : canC c1 c2 = true) (hd : canC d1 d2 = true) {g : Int} (hg : g = (detP a1 a2 b1 b2 c1 c2 d1 d2).sign) :
    Calls Try.prog 21 #[.agg #[.int .i64 a1, .int .i64 a2], .agg #[.int .i64 b1, .int .i64 b2], .agg #[.int .i64 c1, .int .i64 c2], .agg #[.int .i64 d1, .int .i64 d2]] w fun e w' => e = .returned (.int .i64 g) ∧ Below w.heap.size w w' := by
  cases na : nearP a1 a2 d1 d2
  · exact rpCircle0 a1 a2 b1 b2 c1 c2 d1 d2 w ha hb hc hd na hg
  · skip
    cases nb : nearP b1 b2 d1 d2
    · exact rpCircle1 a1 a2 b1 b2 c1 c2 d1 d2 w ha hb hc hd na nb hg
    · skip
      cases nc : nearP c1 c2 d1 d2
      · exact rpCircle2 a1 a2 b1 b2 c1 c2 d1 d2 w ha hb hc hd na nb nc hg
      · skip
        have HG : Hid _ := hg
        clear hg
        obtain ⟨W, hW, bW, x_a, x_b, x_c, x_d, sW⟩ := bs_2222 w (.int .i64 a1) (.int .i64 a2) (.int .i64 b1) (.int .i64 b2) (.int .i64 c1) (.int .i64 c2) (.int .i64 d1) (.int .i64 d2) 23 23 23 23
        have zbW := bW.size
        have BB := bW
        go_enter Try.func21, Try.ntmps21
        go_wp2_with (go_at_call 23; fail)
        rw [← hW]
        clear hW
        refine (rpNear a1 a2 d1 d2 W ha hd na.symm).mono ?_
        rintro e v0 ⟨rfl, bv0⟩
        have zbv0 := bv0.size
        replace BB := also BB bv0
        replace x_a := x_a.on bv0
        replace x_b := x_b.on bv0
        replace x_c := x_c.on bv0
        replace x_d := x_d.on bv0
        have ⟨x_a_0, x_a_1, x_a_2, x_a_3⟩ := x_a
        have ⟨x_b_0, x_b_1, x_b_2, x_b_3⟩ := x_b
        have ⟨x_c_0, x_c_1, x_c_2, x_c_3⟩ := x_c
        have ⟨x_d_0, x_d_1, x_d_2, x_d_3⟩ := x_d
        go_wp2_with (go_at_call 23; fail)
        refine (rpNear b1 b2 d1 d2 v0 hb hd nb.symm).mono ?_
        rintro e v1 ⟨rfl, bv1⟩
        clear x_a_0 x_a_1 x_a_2 x_a_3 x_b_0 x_b_1 x_b_2 x_b_3 x_c_0 x_c_1 x_c_2 x_c_3 x_d_0 x_d_1 x_d_2 x_d_3
        have zbv1 := bv1.size
        replace BB := also BB bv1
        replace x_a := x_a.on bv1
        replace x_b := x_b.on bv1
        replace x_c := x_c.on bv1
        replace x_d := x_d.on bv1
        have ⟨x_a_0, x_a_1, x_a_2, x_a_3⟩ := x_a
        have ⟨x_b_0, x_b_1, x_b_2, x_b_3⟩ := x_b
        have ⟨x_c_0, x_c_1, x_c_2, x_c_3⟩ := x_c
        have ⟨x_d_0, x_d_1, x_d_2, x_d_3⟩ := x_d
        go_wp2_with (go_at_call 23; fail)
        refine (rpNear c1 c2 d1 d2 v1 hc hd nc.symm).mono ?_
        rintro e v2 ⟨rfl, bv2⟩
        clear x_a_0 x_a_1 x_a_2 x_a_3 x_b_0 x_b_1 x_b_2 x_b_3 x_c_0 x_c_1 x_c_2 x_c_3 x_d_0 x_d_1 x_d_2 x_d_3
        have zbv2 := bv2.size
        replace BB := also BB bv2
        replace x_a := x_a.on bv2
        replace x_b := x_b.on bv2
        replace x_c := x_c.on bv2
        replace x_d := x_d.on bv2
        have ⟨x_a_0, x_a_1, x_a_2, x_a_3⟩ := x_a
        have ⟨x_b_0, x_b_1, x_b_2, x_b_3⟩ := x_b
        have ⟨x_c_0, x_c_1, x_c_2, x_c_3⟩ := x_c
        have ⟨x_d_0, x_d_1, x_d_2, x_d_3⟩ := x_d
        go_wp2_with (go_at_call 38; fail)
        refine (rpFlat a1 a2 b1 b2 c1 c2 d1 d2 v2 ha hb hc hd na nb nc HG.out).mono ?_
        rintro e v3 ⟨rfl, bv3⟩
        clear x_a_0 x_a_1 x_a_2 x_a_3 x_b_0 x_b_1 x_b_2 x_b_3 x_c_0 x_c_1 x_c_2 x_c_3 x_d_0 x_d_1 x_d_2 x_d_3
        have zbv3 := bv3.size
        replace BB := also BB bv3
        replace x_a := x_a.on bv3
        replace x_b := x_b.on bv3
        replace x_c := x_c.on bv3
        replace x_d := x_d.on bv3
        go_wp2
        go_ret
        exact ⟨rfl, BB⟩
end Go.Proofs.Ytnemailhijkemaa

namespace Go.Proofs.Ytnemailhijkemaa
open Go.RowKit
set_option linter.unusedVariables false

/-- A point of 64 bits. -/
def R2 (p : Pt) : Prop := R64 p.1 ∧ R64 p.2
theorem r2x {x y : Int} (h : R2 (x, y)) : -9223372036854775808 ≤ x ∧ x ≤ 9223372036854775807 := h.1
theorem r2y {x y : Int} (h : R2 (x, y)) : -9223372036854775808 ≤ y ∧ y ≤ 9223372036854775807 := h.2
theorem left_area {a b c : Pt} (ha : canC a.1 a.2 = true) (hb : canC b.1 b.2 = true) (hc : canC c.1 c.2 = true) : leftQ a b c = decide ((areaP a.1 a.2 b.1 b.2 c.1 c.2).sign = 1) := by
  unfold leftQ arP; rw [can3.2 ⟨ha, hb, hc⟩]; rfl
theorem pos_sign (x : Int) : decide (0 < x) = decide (x.sign = 1) := by rw [decide_eq_decide]; exact Int.sign_eq_one_iff_pos.symm
set_option maxRecDepth 100000 in
set_option maxHeartbeats 8000000 in
theorem rtCan (a1 a2 b1 b2 c1 c2 d1 d2 : Int) (w : World) (Ra : Hid (R2 (a1, a2))) (Rb : Hid (R2 (b1, b2))) (Rc : Hid (R2 (c1, c2))) (Rd : Hid (R2 (d1, d2))) {r : Bool} (hr : r = canAll [(a1, a2), (b1, b2), (c1, c2), (d1, d2)]) :
    Calls Try.prog 11 #[.agg #[.int .i64 a1, .int .i64 a2], .agg #[.int .i64 b1, .int .i64 b2], .agg #[.int .i64 c1, .int .i64 c2], .agg #[.int .i64 d1, .int .i64 d2]] w fun e w' => e = .returned (.bool r) ∧ Below w.heap.size w w' := by
  cases ha : canC a1 a2
  · skip
    obtain rfl : r = false := by rw [hr]; simp [canAll, ha]
    clear hr
    obtain ⟨W, hW, bW, x_a, x_b, x_c, x_d, sW⟩ := bs_2222 w (.int .i64 a1) (.int .i64 a2) (.int .i64 b1) (.int .i64 b2) (.int .i64 c1) (.int .i64 c2) (.int .i64 d1) (.int .i64 d2) 23 23 23 23
    have zbW := bW.size
    have BB := bW
    go_enter Try.func11, Try.ntmps11
    go_wp2_with (go_at_call 13; fail)
    rw [← hW]
    clear hW
    refine (rlCan a1 a2 W (r2x Ra.out) (r2y Ra.out) ha.symm).mono ?_
    rintro e w0 ⟨rfl, bw0⟩
    have zbw0 := bw0.size
    replace BB := also BB bw0
    replace x_a := x_a.on bw0
    replace x_b := x_b.on bw0
    replace x_c := x_c.on bw0
    replace x_d := x_d.on bw0
    have ⟨x_a_0, x_a_1, x_a_2, x_a_3⟩ := x_a
    have ⟨x_b_0, x_b_1, x_b_2, x_b_3⟩ := x_b
    have ⟨x_c_0, x_c_1, x_c_2, x_c_3⟩ := x_c
    have ⟨x_d_0, x_d_1, x_d_2, x_d_3⟩ := x_d
    go_wp2
    go_ret
    exact ⟨rfl, BB⟩
  · skip
    cases hb : canC b1 b2
    · skip
      obtain rfl : r = false := by rw [hr]; simp [canAll, ha, hb]
      clear hr
      obtain ⟨W, hW, bW, x_a, x_b, x_c, x_d, sW⟩ := bs_2222 w (.int .i64 a1) (.int .i64 a2) (.int .i64 b1) (.int .i64 b2) (.int .i64 c1) (.int .i64 c2) (.int .i64 d1) (.int .i64 d2) 23 23 23 23
      have zbW := bW.size
      have BB := bW
      go_enter Try.func11, Try.ntmps11
      go_wp2_with (go_at_call 13; fail)
      rw [← hW]
      clear hW
      refine (rlCan a1 a2 W (r2x Ra.out) (r2y Ra.out) ha.symm).mono ?_
      rintro e w0 ⟨rfl, bw0⟩
      have zbw0 := bw0.size
      replace BB := also BB bw0
      replace x_a := x_a.on bw0
      replace x_b := x_b.on bw0
      replace x_c := x_c.on bw0
      replace x_d := x_d.on bw0
      have ⟨x_a_0, x_a_1, x_a_2, x_a_3⟩ := x_a
      have ⟨x_b_0, x_b_1, x_b_2, x_b_3⟩ := x_b
      have ⟨x_c_0, x_c_1, x_c_2, x_c_3⟩ := x_c
      have ⟨x_d_0, x_d_1, x_d_2, x_d_3⟩ := x_d
      go_wp2_with (go_at_call 13; fail)
      refine (rlCan b1 b2 w0 (r2x Rb.out) (r2y Rb.out) hb.symm).mono ?_
      rintro e w1 ⟨rfl, bw1⟩
      clear x_a_0 x_a_1 x_a_2 x_a_3 x_b_0 x_b_1 x_b_2 x_b_3 x_c_0 x_c_1 x_c_2 x_c_3 x_d_0 x_d_1 x_d_2 x_d_3
      have zbw1 := bw1.size
      replace BB := also BB bw1
      replace x_a := x_a.on bw1
      replace x_b := x_b.on bw1
      replace x_c := x_c.on bw1
      replace x_d := x_d.on bw1
      have ⟨x_a_0, x_a_1, x_a_2, x_a_3⟩ := x_a
      have ⟨x_b_0, x_b_1, x_b_2, x_b_3⟩ := x_b
      have ⟨x_c_0, x_c_1, x_c_2, x_c_3⟩ := x_c
      have ⟨x_d_0, x_d_1, x_d_2, x_d_3⟩ := x_d
      go_wp2
      go_ret
      exact ⟨rfl, BB⟩
    · skip
      cases hc : canC c1 c2
      · skip
        obtain rfl : r = false := by rw [hr]; simp [canAll, ha, hb, hc]
        clear hr
        obtain ⟨W, hW, bW, x_a, x_b, x_c, x_d, sW⟩ := bs_2222 w (.int .i64 a1) (.int .i64 a2) (.int .i64 b1) (.int .i64 b2) (.int .i64 c1) (.int .i64 c2) (.int .i64 d1) (.int .i64 d2) 23 23 23 23
        have zbW := bW.size
        have BB := bW
        go_enter Try.func11, Try.ntmps11
        go_wp2_with (go_at_call 13; fail)
        rw [← hW]
        clear hW
        refine (rlCan a1 a2 W (r2x Ra.out) (r2y Ra.out) ha.symm).mono ?_
        rintro e w0 ⟨rfl, bw0⟩
        have zbw0 := bw0.size
        replace BB := also BB bw0
        replace x_a := x_a.on bw0
        replace x_b := x_b.on bw0
        replace x_c := x_c.on bw0
        replace x_d := x_d.on bw0
        have ⟨x_a_0, x_a_1, x_a_2, x_a_3⟩ := x_a
        have ⟨x_b_0, x_b_1, x_b_2, x_b_3⟩ := x_b
        have ⟨x_c_0, x_c_1, x_c_2, x_c_3⟩ := x_c
        have ⟨x_d_0, x_d_1, x_d_2, x_d_3⟩ := x_d
        go_wp2_with (go_at_call 13; fail)
        refine (rlCan b1 b2 w0 (r2x Rb.out) (r2y Rb.out) hb.symm).mono ?_
        rintro e w1 ⟨rfl, bw1⟩
        clear x_a_0 x_a_1 x_a_2 x_a_3 x_b_0 x_b_1 x_b_2 x_b_3 x_c_0 x_c_1 x_c_2 x_c_3 x_d_0 x_d_1 x_d_2 x_d_3
        have zbw1 := bw1.size
        replace BB := also BB bw1
        replace x_a := x_a.on bw1
        replace x_b := x_b.on bw1
        replace x_c := x_c.on bw1
        replace x_d := x_d.on bw1
        have ⟨x_a_0, x_a_1, x_a_2, x_a_3⟩ := x_a
        have ⟨x_b_0, x_b_1, x_b_2, x_b_3⟩ := x_b
        have ⟨x_c_0, x_c_1, x_c_2, x_c_3⟩ := x_c
        have ⟨x_d_0, x_d_1, x_d_2, x_d_3⟩ := x_d
        go_wp2_with (go_at_call 13; fail)
        refine (rlCan c1 c2 w1 (r2x Rc.out) (r2y Rc.out) hc.symm).mono ?_
        rintro e w2 ⟨rfl, bw2⟩
        clear x_a_0 x_a_1 x_a_2 x_a_3 x_b_0 x_b_1 x_b_2 x_b_3 x_c_0 x_c_1 x_c_2 x_c_3 x_d_0 x_d_1 x_d_2 x_d_3
        have zbw2 := bw2.size
        replace BB := also BB bw2
        replace x_a := x_a.on bw2
        replace x_b := x_b.on bw2
        replace x_c := x_c.on bw2
        replace x_d := x_d.on bw2
        have ⟨x_a_0, x_a_1, x_a_2, x_a_3⟩ := x_a
        have ⟨x_b_0, x_b_1, x_b_2, x_b_3⟩ := x_b
        have ⟨x_c_0, x_c_1, x_c_2, x_c_3⟩ := x_c
        have ⟨x_d_0, x_d_1, x_d_2, x_d_3⟩ := x_d
        go_wp2
        go_ret
        exact ⟨rfl, BB⟩
      · skip
        cases hd : canC d1 d2
        · skip
          obtain rfl : r = false := by rw [hr]; simp [canAll, ha, hb, hc, hd]
          clear hr
          obtain ⟨W, hW, bW, x_a, x_b, x_c, x_d, sW⟩ := bs_2222 w (.int .i64 a1) (.int .i64 a2) (.int .i64 b1) (.int .i64 b2) (.int .i64 c1) (.int .i64 c2) (.int .i64 d1) (.int .i64 d2) 23 23 23 23
          have zbW := bW.size
          have BB := bW
          go_enter Try.func11, Try.ntmps11
          go_wp2_with (go_at_call 13; fail)
          rw [← hW]
          clear hW
          refine (rlCan a1 a2 W (r2x Ra.out) (r2y Ra.out) ha.symm).mono ?_
          rintro e w0 ⟨rfl, bw0⟩
          have zbw0 := bw0.size
          replace BB := also BB bw0
          replace x_a := x_a.on bw0
          replace x_b := x_b.on bw0
          replace x_c := x_c.on bw0
          replace x_d := x_d.on bw0
          have ⟨x_a_0, x_a_1, x_a_2, x_a_3⟩ := x_a
          have ⟨x_b_0, x_b_1, x_b_2, x_b_3⟩ := x_b
          have ⟨x_c_0, x_c_1, x_c_2, x_c_3⟩ := x_c
          have ⟨x_d_0, x_d_1, x_d_2, x_d_3⟩ := x_d
          go_wp2_with (go_at_call 13; fail)
          refine (rlCan b1 b2 w0 (r2x Rb.out) (r2y Rb.out) hb.symm).mono ?_
          rintro e w1 ⟨rfl, bw1⟩
          clear x_a_0 x_a_1 x_a_2 x_a_3 x_b_0 x_b_1 x_b_2 x_b_3 x_c_0 x_c_1 x_c_2 x_c_3 x_d_0 x_d_1 x_d_2 x_d_3
          have zbw1 := bw1.size
          replace BB := also BB bw1
          replace x_a := x_a.on bw1
          replace x_b := x_b.on bw1
          replace x_c := x_c.on bw1
          replace x_d := x_d.on bw1
          have ⟨x_a_0, x_a_1, x_a_2, x_a_3⟩ := x_a
          have ⟨x_b_0, x_b_1, x_b_2, x_b_3⟩ := x_b
          have ⟨x_c_0, x_c_1, x_c_2, x_c_3⟩ := x_c
          have ⟨x_d_0, x_d_1, x_d_2, x_d_3⟩ := x_d
          go_wp2_with (go_at_call 13; fail)
          refine (rlCan c1 c2 w1 (r2x Rc.out) (r2y Rc.out) hc.symm).mono ?_
          rintro e w2 ⟨rfl, bw2⟩
          clear x_a_0 x_a_1 x_a_2 x_a_3 x_b_0 x_b_1 x_b_2 x_b_3 x_c_0 x_c_1 x_c_2 x_c_3 x_d_0 x_d_1 x_d_2 x_d_3
          have zbw2 := bw2.size
          replace BB := also BB bw2
          replace x_a := x_a.on bw2
          replace x_b := x_b.on bw2
          replace x_c := x_c.on bw2
          replace x_d := x_d.on bw2
          have ⟨x_a_0, x_a_1, x_a_2, x_a_3⟩ := x_a
          have ⟨x_b_0, x_b_1, x_b_2, x_b_3⟩ := x_b
          have ⟨x_c_0, x_c_1, x_c_2, x_c_3⟩ := x_c
          have ⟨x_d_0, x_d_1, x_d_2, x_d_3⟩ := x_d
          go_wp2_with (go_at_call 13; fail)
          refine (rlCan d1 d2 w2 (r2x Rd.out) (r2y Rd.out) hd.symm).mono ?_
          rintro e w3 ⟨rfl, bw3⟩
          clear x_a_0 x_a_1 x_a_2 x_a_3 x_b_0 x_b_1 x_b_2 x_b_3 x_c_0 x_c_1 x_c_2 x_c_3 x_d_0 x_d_1 x_d_2 x_d_3
          have zbw3 := bw3.size
          replace BB := also BB bw3
          replace x_a := x_a.on bw3
          replace x_b := x_b.on bw3
          replace x_c := x_c.on bw3
          replace x_d := x_d.on bw3
          have ⟨x_a_0, x_a_1, x_a_2, x_a_3⟩ := x_a
          have ⟨x_b_0, x_b_1, x_b_2, x_b_3⟩ := x_b
          have ⟨x_c_0, x_c_1, x_c_2, x_c_3⟩ := x_c
          have ⟨x_d_0, x_d_1, x_d_2, x_d_3⟩ := x_d
          go_wp2
          go_ret
          exact ⟨rfl, BB⟩
        · skip
          obtain rfl : r = true := by rw [hr]; simp [canAll, ha, hb, hc, hd]
          clear hr
          obtain ⟨W, hW, bW, x_a, x_b, x_c, x_d, sW⟩ := bs_2222 w (.int .i64 a1) (.int .i64 a2) (.int .i64 b1) (.int .i64 b2) (.int .i64 c1) (.int .i64 c2) (.int .i64 d1) (.int .i64 d2) 23 23 23 23
          have zbW := bW.size
          have BB := bW
          go_enter Try.func11, Try.ntmps11
          go_wp2_with (go_at_call 13; fail)
          rw [← hW]
          clear hW
          refine (rlCan a1 a2 W (r2x Ra.out) (r2y Ra.out) ha.symm).mono ?_
          rintro e w0 ⟨rfl, bw0⟩
          have zbw0 := bw0.size
          replace BB := also BB bw0
          replace x_a := x_a.on bw0
          replace x_b := x_b.on bw0
          replace x_c := x_c.on bw0
          replace x_d := x_d.on bw0
          have ⟨x_a_0, x_a_1, x_a_2, x_a_3⟩ := x_a
          have ⟨x_b_0, x_b_1, x_b_2, x_b_3⟩ := x_b
          have ⟨x_c_0, x_c_1, x_c_2, x_c_3⟩ := x_c
          have ⟨x_d_0, x_d_1, x_d_2, x_d_3⟩ := x_d
          go_wp2_with (go_at_call 13; fail)
          refine (rlCan b1 b2 w0 (r2x Rb.out) (r2y Rb.out) hb.symm).mono ?_
          rintro e w1 ⟨rfl, bw1⟩
          clear x_a_0 x_a_1 x_a_2 x_a_3 x_b_0 x_b_1 x_b_2 x_b_3 x_c_0 x_c_1 x_c_2 x_c_3 x_d_0 x_d_1 x_d_2 x_d_3
          have zbw1 := bw1.size
          replace BB := also BB bw1
          replace x_a := x_a.on bw1
          replace x_b := x_b.on bw1
          replace x_c := x_c.on bw1
          replace x_d := x_d.on bw1
          have ⟨x_a_0, x_a_1, x_a_2, x_a_3⟩ := x_a
          have ⟨x_b_0, x_b_1, x_b_2, x_b_3⟩ := x_b
          have ⟨x_c_0, x_c_1, x_c_2, x_c_3⟩ := x_c
          have ⟨x_d_0, x_d_1, x_d_2, x_d_3⟩ := x_d
          go_wp2_with (go_at_call 13; fail)
          refine (rlCan c1 c2 w1 (r2x Rc.out) (r2y Rc.out) hc.symm).mono ?_
          rintro e w2 ⟨rfl, bw2⟩
          clear x_a_0 x_a_1 x_a_2 x_a_3 x_b_0 x_b_1 x_b_2 x_b_3 x_c_0 x_c_1 x_c_2 x_c_3 x_d_0 x_d_1 x_d_2 x_d_3
          have zbw2 := bw2.size
          replace BB := also BB bw2
          replace x_a := x_a.on bw2
          replace x_b := x_b.on bw2
          replace x_c := x_c.on bw2
          replace x_d := x_d.on bw2
          have ⟨x_a_0, x_a_1, x_a_2, x_a_3⟩ := x_a
          have ⟨x_b_0, x_b_1, x_b_2, x_b_3⟩ := x_b
          have ⟨x_c_0, x_c_1, x_c_2, x_c_3⟩ := x_c
          have ⟨x_d_0, x_d_1, x_d_2, x_d_3⟩ := x_d
          go_wp2_with (go_at_call 13; fail)
          refine (rlCan d1 d2 w2 (r2x Rd.out) (r2y Rd.out) hd.symm).mono ?_
          rintro e w3 ⟨rfl, bw3⟩
          clear x_a_0 x_a_1 x_a_2 x_a_3 x_b_0 x_b_1 x_b_2 x_b_3 x_c_0 x_c_1 x_c_2 x_c_3 x_d_0 x_d_1 x_d_2 x_d_3
          have zbw3 := bw3.size
          replace BB := also BB bw3
          replace x_a := x_a.on bw3
          replace x_b := x_b.on bw3
          replace x_c := x_c.on bw3
          replace x_d := x_d.on bw3
          have ⟨x_a_0, x_a_1, x_a_2, x_a_3⟩ := x_a
          have ⟨x_b_0, x_b_1, x_b_2, x_b_3⟩ := x_b
          have ⟨x_c_0, x_c_1, x_c_2, x_c_3⟩ := x_c
          have ⟨x_d_0, x_d_1, x_d_2, x_d_3⟩ := x_d
          go_wp2
          go_ret
          exact ⟨rfl, BB⟩
set_option maxRecDepth 100000 in
set_option maxHeartbeats 8000000 in
theorem rtLast (d1 d2 a1 a2 b1 b2 c1 c2 : Int) (w : World)  {r : Bool} (hr : r = lastQ (d1, d2) (a1, a2) (b1, b2) (c1, c2)) :
    Calls Try.prog 22 #[.agg #[.int .i64 d1, .int .i64 d2], .agg #[.int .i64 a1, .int .i64 a2], .agg #[.int .i64 b1, .int .i64 b2], .agg #[.int .i64 c1, .int .i64 c2]] w fun e w' => e = .returned (.bool r) ∧ Below w.heap.size w w' := by
  cases ha : ltQ (a1, a2) (d1, d2)
  · skip
    obtain rfl : r = false := by rw [hr]; simp [lastQ, ha]
    obtain ⟨g0, hg0⟩ : ∃ g, g = cmpP d1 d2 a1 a2 := ⟨_, rfl⟩
    have pg0 : (0 < g0) = False := by rw [hg0]; exact eq_false (cmp_not ha)
    have G0 : Hid _ := hg0
    clear hg0
    clear hr
    obtain ⟨W, hW, bW, x_d, x_a, x_b, x_c, sW⟩ := bs_2222 w (.int .i64 d1) (.int .i64 d2) (.int .i64 a1) (.int .i64 a2) (.int .i64 b1) (.int .i64 b2) (.int .i64 c1) (.int .i64 c2) 23 23 23 23
    have zbW := bW.size
    have BB := bW
    go_enter Try.func22, Try.ntmps22
    go_wp2_with (go_at_call 44; fail)
    rw [← hW]
    clear hW
    refine (rlCmp d1 d2 a1 a2 W G0.out).mono ?_
    rintro e w0 ⟨rfl, bw0⟩
    have zbw0 := bw0.size
    replace BB := also BB bw0
    replace x_d := x_d.on bw0
    replace x_a := x_a.on bw0
    replace x_b := x_b.on bw0
    replace x_c := x_c.on bw0
    have ⟨x_a_0, x_a_1, x_a_2, x_a_3⟩ := x_a
    have ⟨x_b_0, x_b_1, x_b_2, x_b_3⟩ := x_b
    have ⟨x_c_0, x_c_1, x_c_2, x_c_3⟩ := x_c
    have ⟨x_d_0, x_d_1, x_d_2, x_d_3⟩ := x_d
    go_wp2
    go_ret
    exact ⟨rfl, BB⟩
  · skip
    cases hb : ltQ (b1, b2) (d1, d2)
    · skip
      obtain rfl : r = false := by rw [hr]; simp [lastQ, ha, hb]
      obtain ⟨g0, hg0⟩ : ∃ g, g = cmpP d1 d2 a1 a2 := ⟨_, rfl⟩
      have pg0 : (0 < g0) = True := by rw [hg0]; exact eq_true (cmp_yes ha)
      have G0 : Hid _ := hg0
      clear hg0
      obtain ⟨g1, hg1⟩ : ∃ g, g = cmpP d1 d2 b1 b2 := ⟨_, rfl⟩
      have pg1 : (0 < g1) = False := by rw [hg1]; exact eq_false (cmp_not hb)
      have G1 : Hid _ := hg1
      clear hg1
      clear hr
      obtain ⟨W, hW, bW, x_d, x_a, x_b, x_c, sW⟩ := bs_2222 w (.int .i64 d1) (.int .i64 d2) (.int .i64 a1) (.int .i64 a2) (.int .i64 b1) (.int .i64 b2) (.int .i64 c1) (.int .i64 c2) 23 23 23 23
      have zbW := bW.size
      have BB := bW
      go_enter Try.func22, Try.ntmps22
      go_wp2_with (go_at_call 44; fail)
      rw [← hW]
      clear hW
      refine (rlCmp d1 d2 a1 a2 W G0.out).mono ?_
      rintro e w0 ⟨rfl, bw0⟩
      have zbw0 := bw0.size
      replace BB := also BB bw0
      replace x_d := x_d.on bw0
      replace x_a := x_a.on bw0
      replace x_b := x_b.on bw0
      replace x_c := x_c.on bw0
      have ⟨x_a_0, x_a_1, x_a_2, x_a_3⟩ := x_a
      have ⟨x_b_0, x_b_1, x_b_2, x_b_3⟩ := x_b
      have ⟨x_c_0, x_c_1, x_c_2, x_c_3⟩ := x_c
      have ⟨x_d_0, x_d_1, x_d_2, x_d_3⟩ := x_d
      go_wp2_with (go_at_call 44; fail)
      refine (rlCmp d1 d2 b1 b2 w0 G1.out).mono ?_
      rintro e w1 ⟨rfl, bw1⟩
      clear x_a_0 x_a_1 x_a_2 x_a_3 x_b_0 x_b_1 x_b_2 x_b_3 x_c_0 x_c_1 x_c_2 x_c_3 x_d_0 x_d_1 x_d_2 x_d_3
      have zbw1 := bw1.size
      replace BB := also BB bw1
      replace x_d := x_d.on bw1
      replace x_a := x_a.on bw1
      replace x_b := x_b.on bw1
      replace x_c := x_c.on bw1
      have ⟨x_a_0, x_a_1, x_a_2, x_a_3⟩ := x_a
      have ⟨x_b_0, x_b_1, x_b_2, x_b_3⟩ := x_b
      have ⟨x_c_0, x_c_1, x_c_2, x_c_3⟩ := x_c
      have ⟨x_d_0, x_d_1, x_d_2, x_d_3⟩ := x_d
      go_wp2
      go_ret
      exact ⟨rfl, BB⟩
    · skip
      cases hc : ltQ (c1, c2) (d1, d2)
      · skip
        obtain rfl : r = false := by rw [hr]; simp [lastQ, ha, hb, hc]
        obtain ⟨g0, hg0⟩ : ∃ g, g = cmpP d1 d2 a1 a2 := ⟨_, rfl⟩
        have pg0 : (0 < g0) = True := by rw [hg0]; exact eq_true (cmp_yes ha)
        have G0 : Hid _ := hg0
        clear hg0
        obtain ⟨g1, hg1⟩ : ∃ g, g = cmpP d1 d2 b1 b2 := ⟨_, rfl⟩
        have pg1 : (0 < g1) = True := by rw [hg1]; exact eq_true (cmp_yes hb)
        have G1 : Hid _ := hg1
        clear hg1
        obtain ⟨g2, hg2⟩ : ∃ g, g = cmpP d1 d2 c1 c2 := ⟨_, rfl⟩
        have pg2 : (0 < g2) = False := by rw [hg2]; exact eq_false (cmp_not hc)
        have G2 : Hid _ := hg2
        clear hg2
        clear hr
        obtain ⟨W, hW, bW, x_d, x_a, x_b, x_c, sW⟩ := bs_2222 w (.int .i64 d1) (.int .i64 d2) (.int .i64 a1) (.int .i64 a2) (.int .i64 b1) (.int .i64 b2) (.int .i64 c1) (.int .i64 c2) 23 23 23 23
        have zbW := bW.size
        have BB := bW
        go_enter Try.func22, Try.ntmps22
        go_wp2_with (go_at_call 44; fail)
        rw [← hW]
        clear hW
        refine (rlCmp d1 d2 a1 a2 W G0.out).mono ?_
        rintro e w0 ⟨rfl, bw0⟩
        have zbw0 := bw0.size
        replace BB := also BB bw0
        replace x_d := x_d.on bw0
        replace x_a := x_a.on bw0
        replace x_b := x_b.on bw0
        replace x_c := x_c.on bw0
        have ⟨x_a_0, x_a_1, x_a_2, x_a_3⟩ := x_a
        have ⟨x_b_0, x_b_1, x_b_2, x_b_3⟩ := x_b
        have ⟨x_c_0, x_c_1, x_c_2, x_c_3⟩ := x_c
        have ⟨x_d_0, x_d_1, x_d_2, x_d_3⟩ := x_d
        go_wp2_with (go_at_call 44; fail)
        refine (rlCmp d1 d2 b1 b2 w0 G1.out).mono ?_
        rintro e w1 ⟨rfl, bw1⟩
        clear x_a_0 x_a_1 x_a_2 x_a_3 x_b_0 x_b_1 x_b_2 x_b_3 x_c_0 x_c_1 x_c_2 x_c_3 x_d_0 x_d_1 x_d_2 x_d_3
        have zbw1 := bw1.size
        replace BB := also BB bw1
        replace x_d := x_d.on bw1
        replace x_a := x_a.on bw1
        replace x_b := x_b.on bw1
        replace x_c := x_c.on bw1
        have ⟨x_a_0, x_a_1, x_a_2, x_a_3⟩ := x_a
        have ⟨x_b_0, x_b_1, x_b_2, x_b_3⟩ := x_b
        have ⟨x_c_0, x_c_1, x_c_2, x_c_3⟩ := x_c
        have ⟨x_d_0, x_d_1, x_d_2, x_d_3⟩ := x_d
        go_wp2_with (go_at_call 44; fail)
        refine (rlCmp d1 d2 c1 c2 w1 G2.out).mono ?_
        rintro e w2 ⟨rfl, bw2⟩
        clear x_a_0 x_a_1 x_a_2 x_a_3 x_b_0 x_b_1 x_b_2 x_b_3 x_c_0 x_c_1 x_c_2 x_c_3 x_d_0 x_d_1 x_d_2 x_d_3
        have zbw2 := bw2.size
        replace BB := also BB bw2
        replace x_d := x_d.on bw2
        replace x_a := x_a.on bw2
        replace x_b := x_b.on bw2
        replace x_c := x_c.on bw2
        have ⟨x_a_0, x_a_1, x_a_2, x_a_3⟩ := x_a
        have ⟨x_b_0, x_b_1, x_b_2, x_b_3⟩ := x_b
        have ⟨x_c_0, x_c_1, x_c_2, x_c_3⟩ := x_c
        have ⟨x_d_0, x_d_1, x_d_2, x_d_3⟩ := x_d
        go_wp2
        go_ret
        exact ⟨rfl, BB⟩
      · skip
        obtain rfl : r = true := by rw [hr]; simp [lastQ, ha, hb, hc]
        obtain ⟨g0, hg0⟩ : ∃ g, g = cmpP d1 d2 a1 a2 := ⟨_, rfl⟩
        have pg0 : (0 < g0) = True := by rw [hg0]; exact eq_true (cmp_yes ha)
        have G0 : Hid _ := hg0
        clear hg0
        obtain ⟨g1, hg1⟩ : ∃ g, g = cmpP d1 d2 b1 b2 := ⟨_, rfl⟩
        have pg1 : (0 < g1) = True := by rw [hg1]; exact eq_true (cmp_yes hb)
        have G1 : Hid _ := hg1
        clear hg1
        obtain ⟨g2, hg2⟩ : ∃ g, g = cmpP d1 d2 c1 c2 := ⟨_, rfl⟩
        have pg2 : (0 < g2) = True := by rw [hg2]; exact eq_true (cmp_yes hc)
        have G2 : Hid _ := hg2
        clear hg2
        clear hr
        obtain ⟨W, hW, bW, x_d, x_a, x_b, x_c, sW⟩ := bs_2222 w (.int .i64 d1) (.int .i64 d2) (.int .i64 a1) (.int .i64 a2) (.int .i64 b1) (.int .i64 b2) (.int .i64 c1) (.int .i64 c2) 23 23 23 23
        have zbW := bW.size
        have BB := bW
        go_enter Try.func22, Try.ntmps22
        go_wp2_with (go_at_call 44; fail)
        rw [← hW]
        clear hW
        refine (rlCmp d1 d2 a1 a2 W G0.out).mono ?_
        rintro e w0 ⟨rfl, bw0⟩
        have zbw0 := bw0.size
        replace BB := also BB bw0
        replace x_d := x_d.on bw0
        replace x_a := x_a.on bw0
        replace x_b := x_b.on bw0
        replace x_c := x_c.on bw0
        have ⟨x_a_0, x_a_1, x_a_2, x_a_3⟩ := x_a
        have ⟨x_b_0, x_b_1, x_b_2, x_b_3⟩ := x_b
        have ⟨x_c_0, x_c_1, x_c_2, x_c_3⟩ := x_c
        have ⟨x_d_0, x_d_1, x_d_2, x_d_3⟩ := x_d
        go_wp2_with (go_at_call 44; fail)
        refine (rlCmp d1 d2 b1 b2 w0 G1.out).mono ?_
        rintro e w1 ⟨rfl, bw1⟩
        clear x_a_0 x_a_1 x_a_2 x_a_3 x_b_0 x_b_1 x_b_2 x_b_3 x_c_0 x_c_1 x_c_2 x_c_3 x_d_0 x_d_1 x_d_2 x_d_3
        have zbw1 := bw1.size
        replace BB := also BB bw1
        replace x_d := x_d.on bw1
        replace x_a := x_a.on bw1
        replace x_b := x_b.on bw1
        replace x_c := x_c.on bw1
        have ⟨x_a_0, x_a_1, x_a_2, x_a_3⟩ := x_a
        have ⟨x_b_0, x_b_1, x_b_2, x_b_3⟩ := x_b
        have ⟨x_c_0, x_c_1, x_c_2, x_c_3⟩ := x_c
        have ⟨x_d_0, x_d_1, x_d_2, x_d_3⟩ := x_d
        go_wp2_with (go_at_call 44; fail)
        refine (rlCmp d1 d2 c1 c2 w1 G2.out).mono ?_
        rintro e w2 ⟨rfl, bw2⟩
        clear x_a_0 x_a_1 x_a_2 x_a_3 x_b_0 x_b_1 x_b_2 x_b_3 x_c_0 x_c_1 x_c_2 x_c_3 x_d_0 x_d_1 x_d_2 x_d_3
        have zbw2 := bw2.size
        replace BB := also BB bw2
        replace x_d := x_d.on bw2
        replace x_a := x_a.on bw2
        replace x_b := x_b.on bw2
        replace x_c := x_c.on bw2
        have ⟨x_a_0, x_a_1, x_a_2, x_a_3⟩ := x_a
        have ⟨x_b_0, x_b_1, x_b_2, x_b_3⟩ := x_b
        have ⟨x_c_0, x_c_1, x_c_2, x_c_3⟩ := x_c
        have ⟨x_d_0, x_d_1, x_d_2, x_d_3⟩ := x_d
        go_wp2
        go_ret
        exact ⟨rfl, BB⟩
set_option maxRecDepth 100000 in
set_option maxHeartbeats 8000000 in
theorem rtLeft (a1 a2 b1 b2 c1 c2 : Int) (w : World) (Ra : Hid (R2 (a1, a2))) (Rb : Hid (R2 (b1, b2))) (Rc : Hid (R2 (c1, c2))) {r : Bool} (hr : r = leftQ (a1, a2) (b1, b2) (c1, c2)) :
    Calls Try.prog 15 #[.agg #[.int .i64 a1, .int .i64 a2], .agg #[.int .i64 b1, .int .i64 b2], .agg #[.int .i64 c1, .int .i64 c2]] w fun e w' => e = .returned (.bool r) ∧ Below w.heap.size w w' := by
  cases ha : canC a1 a2
  · skip
    obtain rfl : r = false := by rw [hr, ← Bool.not_eq_true, left_iff]; rintro ⟨k1, k2, k3, _⟩; simp_all
    clear hr
    obtain ⟨W, hW, bW, x_a, x_b, x_c, sW⟩ := bs_222 w (.int .i64 a1) (.int .i64 a2) (.int .i64 b1) (.int .i64 b2) (.int .i64 c1) (.int .i64 c2) 23 23 23
    have zbW := bW.size
    have BB := bW
    go_enter Try.func15, Try.ntmps15
    go_wp2_with (go_at_call 13; fail)
    rw [← hW]
    clear hW
    refine (rlCan a1 a2 W (r2x Ra.out) (r2y Ra.out) ha.symm).mono ?_
    rintro e w0 ⟨rfl, bw0⟩
    have zbw0 := bw0.size
    replace BB := also BB bw0
    replace x_a := x_a.on bw0
    replace x_b := x_b.on bw0
    replace x_c := x_c.on bw0
    have ⟨x_a_0, x_a_1, x_a_2, x_a_3⟩ := x_a
    have ⟨x_b_0, x_b_1, x_b_2, x_b_3⟩ := x_b
    have ⟨x_c_0, x_c_1, x_c_2, x_c_3⟩ := x_c
    go_wp2
    go_ret
    exact ⟨rfl, BB⟩
  · skip
    cases hb : canC b1 b2
    · skip
      obtain rfl : r = false := by rw [hr, ← Bool.not_eq_true, left_iff]; rintro ⟨k1, k2, k3, _⟩; simp_all
      clear hr
      obtain ⟨W, hW, bW, x_a, x_b, x_c, sW⟩ := bs_222 w (.int .i64 a1) (.int .i64 a2) (.int .i64 b1) (.int .i64 b2) (.int .i64 c1) (.int .i64 c2) 23 23 23
      have zbW := bW.size
      have BB := bW
      go_enter Try.func15, Try.ntmps15
      go_wp2_with (go_at_call 13; fail)
      rw [← hW]
      clear hW
      refine (rlCan a1 a2 W (r2x Ra.out) (r2y Ra.out) ha.symm).mono ?_
      rintro e w0 ⟨rfl, bw0⟩
      have zbw0 := bw0.size
      replace BB := also BB bw0
      replace x_a := x_a.on bw0
      replace x_b := x_b.on bw0
      replace x_c := x_c.on bw0
      have ⟨x_a_0, x_a_1, x_a_2, x_a_3⟩ := x_a
      have ⟨x_b_0, x_b_1, x_b_2, x_b_3⟩ := x_b
      have ⟨x_c_0, x_c_1, x_c_2, x_c_3⟩ := x_c
      go_wp2_with (go_at_call 13; fail)
      refine (rlCan b1 b2 w0 (r2x Rb.out) (r2y Rb.out) hb.symm).mono ?_
      rintro e w1 ⟨rfl, bw1⟩
      clear x_a_0 x_a_1 x_a_2 x_a_3 x_b_0 x_b_1 x_b_2 x_b_3 x_c_0 x_c_1 x_c_2 x_c_3
      have zbw1 := bw1.size
      replace BB := also BB bw1
      replace x_a := x_a.on bw1
      replace x_b := x_b.on bw1
      replace x_c := x_c.on bw1
      have ⟨x_a_0, x_a_1, x_a_2, x_a_3⟩ := x_a
      have ⟨x_b_0, x_b_1, x_b_2, x_b_3⟩ := x_b
      have ⟨x_c_0, x_c_1, x_c_2, x_c_3⟩ := x_c
      go_wp2
      go_ret
      exact ⟨rfl, BB⟩
    · skip
      cases hc : canC c1 c2
      · skip
        obtain rfl : r = false := by rw [hr, ← Bool.not_eq_true, left_iff]; rintro ⟨k1, k2, k3, _⟩; simp_all
        clear hr
        obtain ⟨W, hW, bW, x_a, x_b, x_c, sW⟩ := bs_222 w (.int .i64 a1) (.int .i64 a2) (.int .i64 b1) (.int .i64 b2) (.int .i64 c1) (.int .i64 c2) 23 23 23
        have zbW := bW.size
        have BB := bW
        go_enter Try.func15, Try.ntmps15
        go_wp2_with (go_at_call 13; fail)
        rw [← hW]
        clear hW
        refine (rlCan a1 a2 W (r2x Ra.out) (r2y Ra.out) ha.symm).mono ?_
        rintro e w0 ⟨rfl, bw0⟩
        have zbw0 := bw0.size
        replace BB := also BB bw0
        replace x_a := x_a.on bw0
        replace x_b := x_b.on bw0
        replace x_c := x_c.on bw0
        have ⟨x_a_0, x_a_1, x_a_2, x_a_3⟩ := x_a
        have ⟨x_b_0, x_b_1, x_b_2, x_b_3⟩ := x_b
        have ⟨x_c_0, x_c_1, x_c_2, x_c_3⟩ := x_c
        go_wp2_with (go_at_call 13; fail)
        refine (rlCan b1 b2 w0 (r2x Rb.out) (r2y Rb.out) hb.symm).mono ?_
        rintro e w1 ⟨rfl, bw1⟩
        clear x_a_0 x_a_1 x_a_2 x_a_3 x_b_0 x_b_1 x_b_2 x_b_3 x_c_0 x_c_1 x_c_2 x_c_3
        have zbw1 := bw1.size
        replace BB := also BB bw1
        replace x_a := x_a.on bw1
        replace x_b := x_b.on bw1
        replace x_c := x_c.on bw1
        have ⟨x_a_0, x_a_1, x_a_2, x_a_3⟩ := x_a
        have ⟨x_b_0, x_b_1, x_b_2, x_b_3⟩ := x_b
        have ⟨x_c_0, x_c_1, x_c_2, x_c_3⟩ := x_c
        go_wp2_with (go_at_call 13; fail)
        refine (rlCan c1 c2 w1 (r2x Rc.out) (r2y Rc.out) hc.symm).mono ?_
        rintro e w2 ⟨rfl, bw2⟩
        clear x_a_0 x_a_1 x_a_2 x_a_3 x_b_0 x_b_1 x_b_2 x_b_3 x_c_0 x_c_1 x_c_2 x_c_3
        have zbw2 := bw2.size
        replace BB := also BB bw2
        replace x_a := x_a.on bw2
        replace x_b := x_b.on bw2
        replace x_c := x_c.on bw2
        have ⟨x_a_0, x_a_1, x_a_2, x_a_3⟩ := x_a
        have ⟨x_b_0, x_b_1, x_b_2, x_b_3⟩ := x_b
        have ⟨x_c_0, x_c_1, x_c_2, x_c_3⟩ := x_c
        go_wp2
        go_ret
        exact ⟨rfl, BB⟩
      · skip
        rw [left_area ha hb hc] at hr
        obtain ⟨g, hg⟩ : ∃ g, g = (areaP a1 a2 b1 b2 c1 c2).sign := ⟨_, rfl⟩
        dsimp only at hr
        rw [← hg] at hr
        have G : Hid _ := hg
        have HR : Hid _ := hr
        clear hg
        clear hr
        obtain ⟨W, hW, bW, x_a, x_b, x_c, sW⟩ := bs_222 w (.int .i64 a1) (.int .i64 a2) (.int .i64 b1) (.int .i64 b2) (.int .i64 c1) (.int .i64 c2) 23 23 23
        have zbW := bW.size
        have BB := bW
        go_enter Try.func15, Try.ntmps15
        go_wp2_with (go_at_call 13; fail)
        rw [← hW]
        clear hW
        refine (rlCan a1 a2 W (r2x Ra.out) (r2y Ra.out) ha.symm).mono ?_
        rintro e w0 ⟨rfl, bw0⟩
        have zbw0 := bw0.size
        replace BB := also BB bw0
        replace x_a := x_a.on bw0
        replace x_b := x_b.on bw0
        replace x_c := x_c.on bw0
        have ⟨x_a_0, x_a_1, x_a_2, x_a_3⟩ := x_a
        have ⟨x_b_0, x_b_1, x_b_2, x_b_3⟩ := x_b
        have ⟨x_c_0, x_c_1, x_c_2, x_c_3⟩ := x_c
        go_wp2_with (go_at_call 13; fail)
        refine (rlCan b1 b2 w0 (r2x Rb.out) (r2y Rb.out) hb.symm).mono ?_
        rintro e w1 ⟨rfl, bw1⟩
        clear x_a_0 x_a_1 x_a_2 x_a_3 x_b_0 x_b_1 x_b_2 x_b_3 x_c_0 x_c_1 x_c_2 x_c_3
        have zbw1 := bw1.size
        replace BB := also BB bw1
        replace x_a := x_a.on bw1
        replace x_b := x_b.on bw1
        replace x_c := x_c.on bw1
        have ⟨x_a_0, x_a_1, x_a_2, x_a_3⟩ := x_a
        have ⟨x_b_0, x_b_1, x_b_2, x_b_3⟩ := x_b
        have ⟨x_c_0, x_c_1, x_c_2, x_c_3⟩ := x_c
        go_wp2_with (go_at_call 13; fail)
        refine (rlCan c1 c2 w1 (r2x Rc.out) (r2y Rc.out) hc.symm).mono ?_
        rintro e w2 ⟨rfl, bw2⟩
        clear x_a_0 x_a_1 x_a_2 x_a_3 x_b_0 x_b_1 x_b_2 x_b_3 x_c_0 x_c_1 x_c_2 x_c_3
        have zbw2 := bw2.size
        replace BB := also BB bw2
        replace x_a := x_a.on bw2
        replace x_b := x_b.on bw2
        replace x_c := x_c.on bw2
        have ⟨x_a_0, x_a_1, x_a_2, x_a_3⟩ := x_a
        have ⟨x_b_0, x_b_1, x_b_2, x_b_3⟩ := x_b
        have ⟨x_c_0, x_c_1, x_c_2, x_c_3⟩ := x_c
        go_wp2_with (go_at_call 12; fail)
        refine (rpOrient a1 a2 b1 b2 c1 c2 w2 ha hb hc G.out).mono ?_
        rintro e w8 ⟨rfl, bw8⟩
        clear x_a_0 x_a_1 x_a_2 x_a_3 x_b_0 x_b_1 x_b_2 x_b_3 x_c_0 x_c_1 x_c_2 x_c_3
        have zbw8 := bw8.size
        replace BB := also BB bw8
        replace x_a := x_a.on bw8
        replace x_b := x_b.on bw8
        replace x_c := x_c.on bw8
        go_wp2
        go_ret
        exact ⟨by rw [HR.out]; rfl, BB⟩
set_option maxRecDepth 100000 in
set_option maxHeartbeats 8000000 in
theorem rtConflict (a1 a2 b1 b2 c1 c2 d1 d2 : Int) (w : World) (Ra : Hid (R2 (a1, a2))) (Rb : Hid (R2 (b1, b2))) (Rc : Hid (R2 (c1, c2))) (Rd : Hid (R2 (d1, d2))) {r : Bool} (hr : r = cfQ (a1, a2) (b1, b2) (c1, c2) (d1, d2)) :
    Calls Try.prog 9 #[.agg #[.int .i64 a1, .int .i64 a2], .agg #[.int .i64 b1, .int .i64 b2], .agg #[.int .i64 c1, .int .i64 c2], .agg #[.int .i64 d1, .int .i64 d2]] w fun e w' => e = .returned (.bool r) ∧ Below w.heap.size w w' := by
  cases hq : canAll [(a1, a2), (b1, b2), (c1, c2), (d1, d2)]
  · skip
    obtain rfl : r = false := by rw [hr, cf_no]; rintro ⟨h1, h2, _⟩; obtain ⟨k1, k2, k3, _⟩ := left_iff.1 h2; rw [can4.2 ⟨k1, k2, k3, h1⟩] at hq; cases hq
    try clear hr
    try clear hl
    have HQ : Hid _ := hq.symm
    clear hq
    obtain ⟨W, hW, bW, x_a, x_b, x_c, x_d, sW⟩ := bs_2222 w (.int .i64 a1) (.int .i64 a2) (.int .i64 b1) (.int .i64 b2) (.int .i64 c1) (.int .i64 c2) (.int .i64 d1) (.int .i64 d2) 23 23 23 23
    have zbW := bW.size
    have BB := bW
    go_enter Try.func9, Try.ntmps9
    go_wp2_with (go_at_call 11; fail)
    rw [← hW]
    clear hW
    refine (rtCan a1 a2 b1 b2 c1 c2 d1 d2 W Ra Rb Rc Rd HQ.out).mono ?_
    rintro e w1 ⟨rfl, bw1⟩
    have zbw1 := bw1.size
    replace BB := also BB bw1
    replace x_a := x_a.on bw1
    replace x_b := x_b.on bw1
    replace x_c := x_c.on bw1
    replace x_d := x_d.on bw1
    have ⟨x_a_0, x_a_1, x_a_2, x_a_3⟩ := x_a
    have ⟨x_b_0, x_b_1, x_b_2, x_b_3⟩ := x_b
    have ⟨x_c_0, x_c_1, x_c_2, x_c_3⟩ := x_c
    have ⟨x_d_0, x_d_1, x_d_2, x_d_3⟩ := x_d
    go_wp2
    go_ret
    exact ⟨rfl, BB⟩
  · skip
    cases hl : leftQ (a1, a2) (b1, b2) (c1, c2)
    · skip
      obtain ⟨ha, hb, hc, hd⟩ := can4.1 hq
      obtain rfl : r = false := by rw [hr, cf_no]; rintro ⟨_, h1, _⟩; rw [hl] at h1; cases h1
      obtain ⟨g, hg⟩ : ∃ g, g = (areaP a1 a2 b1 b2 c1 c2).sign := ⟨_, rfl⟩
      have hl' := (left_area (a := (a1, a2)) (b := (b1, b2)) (c := (c1, c2)) ha hb hc).symm.trans hl
      have hg1 : ¬ g = 1 := by rw [hg]; exact of_decide_eq_false hl'
      have G : Hid _ := hg
      clear hg hl'
      try clear hr
      try clear hl
      have HQ : Hid _ := hq.symm
      clear hq
      obtain ⟨W, hW, bW, x_a, x_b, x_c, x_d, sW⟩ := bs_2222 w (.int .i64 a1) (.int .i64 a2) (.int .i64 b1) (.int .i64 b2) (.int .i64 c1) (.int .i64 c2) (.int .i64 d1) (.int .i64 d2) 23 23 23 23
      have zbW := bW.size
      have BB := bW
      go_enter Try.func9, Try.ntmps9
      go_wp2_with (go_at_call 11; fail)
      rw [← hW]
      clear hW
      refine (rtCan a1 a2 b1 b2 c1 c2 d1 d2 W Ra Rb Rc Rd HQ.out).mono ?_
      rintro e w1 ⟨rfl, bw1⟩
      have zbw1 := bw1.size
      replace BB := also BB bw1
      replace x_a := x_a.on bw1
      replace x_b := x_b.on bw1
      replace x_c := x_c.on bw1
      replace x_d := x_d.on bw1
      have ⟨x_a_0, x_a_1, x_a_2, x_a_3⟩ := x_a
      have ⟨x_b_0, x_b_1, x_b_2, x_b_3⟩ := x_b
      have ⟨x_c_0, x_c_1, x_c_2, x_c_3⟩ := x_c
      have ⟨x_d_0, x_d_1, x_d_2, x_d_3⟩ := x_d
      go_wp2_with (go_at_call 12; fail)
      refine (rpOrient a1 a2 b1 b2 c1 c2 w1 ha hb hc G.out).mono ?_
      rintro e w2 ⟨rfl, bw2⟩
      clear x_a_0 x_a_1 x_a_2 x_a_3 x_b_0 x_b_1 x_b_2 x_b_3 x_c_0 x_c_1 x_c_2 x_c_3 x_d_0 x_d_1 x_d_2 x_d_3
      have zbw2 := bw2.size
      replace BB := also BB bw2
      replace x_a := x_a.on bw2
      replace x_b := x_b.on bw2
      replace x_c := x_c.on bw2
      replace x_d := x_d.on bw2
      have ⟨x_a_0, x_a_1, x_a_2, x_a_3⟩ := x_a
      have ⟨x_b_0, x_b_1, x_b_2, x_b_3⟩ := x_b
      have ⟨x_c_0, x_c_1, x_c_2, x_c_3⟩ := x_c
      have ⟨x_d_0, x_d_1, x_d_2, x_d_3⟩ := x_d
      go_wp2
      go_ret
      exact ⟨rfl, BB⟩
    · skip
      by_cases na : (d1, d2) = (a1, a2)
      · obtain ⟨rfl, rfl⟩ := Prod.mk.inj na
        obtain ⟨ha, hb, hc, hd⟩ := can4.1 hq
        obtain rfl : r = false := by rw [hr, cf_no]; rintro ⟨_, _, h3, h4, h5⟩; exact h3 rfl
        obtain ⟨g, hg⟩ : ∃ g, g = (areaP d1 d2 b1 b2 c1 c2).sign := ⟨_, rfl⟩
        have hl' := (left_area (a := (d1, d2)) (b := (b1, b2)) (c := (c1, c2)) ha hb hc).symm.trans hl
        obtain rfl : g = 1 := by rw [hg]; exact of_decide_eq_true hl'
        have G : Hid _ := hg
        clear hg hl'
        try clear hr
        try clear hl
        have HQ : Hid _ := hq.symm
        clear hq
        obtain ⟨W, hW, bW, x_a, x_b, x_c, x_d, sW⟩ := bs_2222 w (.int .i64 d1) (.int .i64 d2) (.int .i64 b1) (.int .i64 b2) (.int .i64 c1) (.int .i64 c2) (.int .i64 d1) (.int .i64 d2) 23 23 23 23
        have zbW := bW.size
        have BB := bW
        go_enter Try.func9, Try.ntmps9
        go_wp2_with (go_at_call 11; fail)
        rw [← hW]
        clear hW
        refine (rtCan d1 d2 b1 b2 c1 c2 d1 d2 W Ra Rb Rc Rd HQ.out).mono ?_
        rintro e w1 ⟨rfl, bw1⟩
        have zbw1 := bw1.size
        replace BB := also BB bw1
        replace x_a := x_a.on bw1
        replace x_b := x_b.on bw1
        replace x_c := x_c.on bw1
        replace x_d := x_d.on bw1
        have ⟨x_a_0, x_a_1, x_a_2, x_a_3⟩ := x_a
        have ⟨x_b_0, x_b_1, x_b_2, x_b_3⟩ := x_b
        have ⟨x_c_0, x_c_1, x_c_2, x_c_3⟩ := x_c
        have ⟨x_d_0, x_d_1, x_d_2, x_d_3⟩ := x_d
        go_wp2_with (go_at_call 12; fail)
        refine (rpOrient d1 d2 b1 b2 c1 c2 w1 ha hb hc G.out).mono ?_
        rintro e w2 ⟨rfl, bw2⟩
        clear x_a_0 x_a_1 x_a_2 x_a_3 x_b_0 x_b_1 x_b_2 x_b_3 x_c_0 x_c_1 x_c_2 x_c_3 x_d_0 x_d_1 x_d_2 x_d_3
        have zbw2 := bw2.size
        replace BB := also BB bw2
        replace x_a := x_a.on bw2
        replace x_b := x_b.on bw2
        replace x_c := x_c.on bw2
        replace x_d := x_d.on bw2
        have ⟨x_a_0, x_a_1, x_a_2, x_a_3⟩ := x_a
        have ⟨x_b_0, x_b_1, x_b_2, x_b_3⟩ := x_b
        have ⟨x_c_0, x_c_1, x_c_2, x_c_3⟩ := x_c
        have ⟨x_d_0, x_d_1, x_d_2, x_d_3⟩ := x_d
        go_wp2
        go_ret
        exact ⟨rfl, BB⟩
      · skip
        by_cases nb : (d1, d2) = (b1, b2)
        · obtain ⟨rfl, rfl⟩ := Prod.mk.inj nb
          obtain ⟨ha, hb, hc, hd⟩ := can4.1 hq
          obtain rfl : r = false := by rw [hr, cf_no]; rintro ⟨_, _, h3, h4, h5⟩; exact h4 rfl
          obtain ⟨g, hg⟩ : ∃ g, g = (areaP a1 a2 d1 d2 c1 c2).sign := ⟨_, rfl⟩
          have hl' := (left_area (a := (a1, a2)) (b := (d1, d2)) (c := (c1, c2)) ha hb hc).symm.trans hl
          obtain rfl : g = 1 := by rw [hg]; exact of_decide_eq_true hl'
          have G : Hid _ := hg
          clear hg hl'
          have ka := eqP_no na
          clear na
          try clear hr
          try clear hl
          have HQ : Hid _ := hq.symm
          clear hq
          obtain ⟨W, hW, bW, x_a, x_b, x_c, x_d, sW⟩ := bs_2222 w (.int .i64 a1) (.int .i64 a2) (.int .i64 d1) (.int .i64 d2) (.int .i64 c1) (.int .i64 c2) (.int .i64 d1) (.int .i64 d2) 23 23 23 23
          have zbW := bW.size
          have BB := bW
          go_enter Try.func9, Try.ntmps9
          go_wp2_with (go_at_call 11; fail)
          rw [← hW]
          clear hW
          refine (rtCan a1 a2 d1 d2 c1 c2 d1 d2 W Ra Rb Rc Rd HQ.out).mono ?_
          rintro e w1 ⟨rfl, bw1⟩
          have zbw1 := bw1.size
          replace BB := also BB bw1
          replace x_a := x_a.on bw1
          replace x_b := x_b.on bw1
          replace x_c := x_c.on bw1
          replace x_d := x_d.on bw1
          have ⟨x_a_0, x_a_1, x_a_2, x_a_3⟩ := x_a
          have ⟨x_b_0, x_b_1, x_b_2, x_b_3⟩ := x_b
          have ⟨x_c_0, x_c_1, x_c_2, x_c_3⟩ := x_c
          have ⟨x_d_0, x_d_1, x_d_2, x_d_3⟩ := x_d
          go_wp2_with (go_at_call 12; fail)
          refine (rpOrient a1 a2 d1 d2 c1 c2 w1 ha hb hc G.out).mono ?_
          rintro e w2 ⟨rfl, bw2⟩
          clear x_a_0 x_a_1 x_a_2 x_a_3 x_b_0 x_b_1 x_b_2 x_b_3 x_c_0 x_c_1 x_c_2 x_c_3 x_d_0 x_d_1 x_d_2 x_d_3
          have zbw2 := bw2.size
          replace BB := also BB bw2
          replace x_a := x_a.on bw2
          replace x_b := x_b.on bw2
          replace x_c := x_c.on bw2
          replace x_d := x_d.on bw2
          have ⟨x_a_0, x_a_1, x_a_2, x_a_3⟩ := x_a
          have ⟨x_b_0, x_b_1, x_b_2, x_b_3⟩ := x_b
          have ⟨x_c_0, x_c_1, x_c_2, x_c_3⟩ := x_c
          have ⟨x_d_0, x_d_1, x_d_2, x_d_3⟩ := x_d
          go_wp2
          go_ret
          exact ⟨rfl, BB⟩
        · skip
          by_cases nc : (d1, d2) = (c1, c2)
          · obtain ⟨rfl, rfl⟩ := Prod.mk.inj nc
            obtain ⟨ha, hb, hc, hd⟩ := can4.1 hq
            obtain rfl : r = false := by rw [hr, cf_no]; rintro ⟨_, _, h3, h4, h5⟩; exact h5 rfl
            obtain ⟨g, hg⟩ : ∃ g, g = (areaP a1 a2 b1 b2 d1 d2).sign := ⟨_, rfl⟩
            have hl' := (left_area (a := (a1, a2)) (b := (b1, b2)) (c := (d1, d2)) ha hb hc).symm.trans hl
            obtain rfl : g = 1 := by rw [hg]; exact of_decide_eq_true hl'
            have G : Hid _ := hg
            clear hg hl'
            have ka := eqP_no na
            clear na
            have kb := eqP_no nb
            clear nb
            try clear hr
            try clear hl
            have HQ : Hid _ := hq.symm
            clear hq
            obtain ⟨W, hW, bW, x_a, x_b, x_c, x_d, sW⟩ := bs_2222 w (.int .i64 a1) (.int .i64 a2) (.int .i64 b1) (.int .i64 b2) (.int .i64 d1) (.int .i64 d2) (.int .i64 d1) (.int .i64 d2) 23 23 23 23
            have zbW := bW.size
            have BB := bW
            go_enter Try.func9, Try.ntmps9
            go_wp2_with (go_at_call 11; fail)
            rw [← hW]
            clear hW
            refine (rtCan a1 a2 b1 b2 d1 d2 d1 d2 W Ra Rb Rc Rd HQ.out).mono ?_
            rintro e w1 ⟨rfl, bw1⟩
            have zbw1 := bw1.size
            replace BB := also BB bw1
            replace x_a := x_a.on bw1
            replace x_b := x_b.on bw1
            replace x_c := x_c.on bw1
            replace x_d := x_d.on bw1
            have ⟨x_a_0, x_a_1, x_a_2, x_a_3⟩ := x_a
            have ⟨x_b_0, x_b_1, x_b_2, x_b_3⟩ := x_b
            have ⟨x_c_0, x_c_1, x_c_2, x_c_3⟩ := x_c
            have ⟨x_d_0, x_d_1, x_d_2, x_d_3⟩ := x_d
            go_wp2_with (go_at_call 12; fail)
            refine (rpOrient a1 a2 b1 b2 d1 d2 w1 ha hb hc G.out).mono ?_
            rintro e w2 ⟨rfl, bw2⟩
            clear x_a_0 x_a_1 x_a_2 x_a_3 x_b_0 x_b_1 x_b_2 x_b_3 x_c_0 x_c_1 x_c_2 x_c_3 x_d_0 x_d_1 x_d_2 x_d_3
            have zbw2 := bw2.size
            replace BB := also BB bw2
            replace x_a := x_a.on bw2
            replace x_b := x_b.on bw2
            replace x_c := x_c.on bw2
            replace x_d := x_d.on bw2
            have ⟨x_a_0, x_a_1, x_a_2, x_a_3⟩ := x_a
            have ⟨x_b_0, x_b_1, x_b_2, x_b_3⟩ := x_b
            have ⟨x_c_0, x_c_1, x_c_2, x_c_3⟩ := x_c
            have ⟨x_d_0, x_d_1, x_d_2, x_d_3⟩ := x_d
            go_wp2
            go_ret
            exact ⟨rfl, BB⟩
          · skip
            rcases Int.lt_trichotomy (deQ (a1, a2) (b1, b2) (c1, c2) (d1, d2)) 0 with hde | hde | hde
            · skip
              obtain ⟨ha, hb, hc, hd⟩ := can4.1 hq
              obtain ⟨g, hg⟩ : ∃ g, g = (areaP a1 a2 b1 b2 c1 c2).sign := ⟨_, rfl⟩
              have hl' := (left_area (a := (a1, a2)) (b := (b1, b2)) (c := (c1, c2)) ha hb hc).symm.trans hl
              obtain rfl : g = 1 := by rw [hg]; exact of_decide_eq_true hl'
              have G : Hid _ := hg
              clear hg hl'
              obtain ⟨m, hm⟩ : ∃ m, m = (detP a1 a2 b1 b2 c1 c2 d1 d2).sign := ⟨_, rfl⟩
              have hms : m = (deQ (a1, a2) (b1, b2) (c1, c2) (d1, d2)).sign := hm
              rw [cf_yes (a := (a1, a2)) (b := (b1, b2)) (c := (c1, c2)) (d := (d1, d2)) hd hl na nb nc] at hr
              unfold cirQ at hr
              rw [if_neg (by omega)] at hr
              obtain rfl : m = -1 := by rw [hms]; exact Int.sign_eq_neg_one_of_neg hde
              obtain rfl : r = false := by rw [hr]; exact decide_eq_false (by omega)
              have M : Hid _ := hm
              clear hm hms
              have ka := eqP_no na
              clear na
              have kb := eqP_no nb
              clear nb
              have kc := eqP_no nc
              clear nc
              try clear hr
              try clear hl
              clear hde
              have HQ : Hid _ := hq.symm
              clear hq
              obtain ⟨W, hW, bW, x_a, x_b, x_c, x_d, sW⟩ := bs_2222 w (.int .i64 a1) (.int .i64 a2) (.int .i64 b1) (.int .i64 b2) (.int .i64 c1) (.int .i64 c2) (.int .i64 d1) (.int .i64 d2) 23 23 23 23
              have zbW := bW.size
              have BB := bW
              go_enter Try.func9, Try.ntmps9
              go_wp2_with (go_at_call 11; fail)
              rw [← hW]
              clear hW
              refine (rtCan a1 a2 b1 b2 c1 c2 d1 d2 W Ra Rb Rc Rd HQ.out).mono ?_
              rintro e w1 ⟨rfl, bw1⟩
              have zbw1 := bw1.size
              replace BB := also BB bw1
              replace x_a := x_a.on bw1
              replace x_b := x_b.on bw1
              replace x_c := x_c.on bw1
              replace x_d := x_d.on bw1
              have ⟨x_a_0, x_a_1, x_a_2, x_a_3⟩ := x_a
              have ⟨x_b_0, x_b_1, x_b_2, x_b_3⟩ := x_b
              have ⟨x_c_0, x_c_1, x_c_2, x_c_3⟩ := x_c
              have ⟨x_d_0, x_d_1, x_d_2, x_d_3⟩ := x_d
              go_wp2_with (go_at_call 12; fail)
              refine (rpOrient a1 a2 b1 b2 c1 c2 w1 ha hb hc G.out).mono ?_
              rintro e w2 ⟨rfl, bw2⟩
              clear x_a_0 x_a_1 x_a_2 x_a_3 x_b_0 x_b_1 x_b_2 x_b_3 x_c_0 x_c_1 x_c_2 x_c_3 x_d_0 x_d_1 x_d_2 x_d_3
              have zbw2 := bw2.size
              replace BB := also BB bw2
              replace x_a := x_a.on bw2
              replace x_b := x_b.on bw2
              replace x_c := x_c.on bw2
              replace x_d := x_d.on bw2
              have ⟨x_a_0, x_a_1, x_a_2, x_a_3⟩ := x_a
              have ⟨x_b_0, x_b_1, x_b_2, x_b_3⟩ := x_b
              have ⟨x_c_0, x_c_1, x_c_2, x_c_3⟩ := x_c
              have ⟨x_d_0, x_d_1, x_d_2, x_d_3⟩ := x_d
              go_wp2_with (go_at_call 21; fail)
              refine (rpCircle a1 a2 b1 b2 c1 c2 d1 d2 w2 ha hb hc hd M.out).mono ?_
              rintro e w3 ⟨rfl, bw3⟩
              clear x_a_0 x_a_1 x_a_2 x_a_3 x_b_0 x_b_1 x_b_2 x_b_3 x_c_0 x_c_1 x_c_2 x_c_3 x_d_0 x_d_1 x_d_2 x_d_3
              have zbw3 := bw3.size
              replace BB := also BB bw3
              replace x_a := x_a.on bw3
              replace x_b := x_b.on bw3
              replace x_c := x_c.on bw3
              replace x_d := x_d.on bw3
              have ⟨x_a_0, x_a_1, x_a_2, x_a_3⟩ := x_a
              have ⟨x_b_0, x_b_1, x_b_2, x_b_3⟩ := x_b
              have ⟨x_c_0, x_c_1, x_c_2, x_c_3⟩ := x_c
              have ⟨x_d_0, x_d_1, x_d_2, x_d_3⟩ := x_d
              go_wp2
              go_ret
              exact ⟨rfl, BB⟩
            · skip
              cases t0 : lastQ (d1, d2) (a1, a2) (b1, b2) (c1, c2)
              rotate_left
              · skip
                obtain ⟨ha, hb, hc, hd⟩ := can4.1 hq
                obtain ⟨g, hg⟩ : ∃ g, g = (areaP a1 a2 b1 b2 c1 c2).sign := ⟨_, rfl⟩
                have hl' := (left_area (a := (a1, a2)) (b := (b1, b2)) (c := (c1, c2)) ha hb hc).symm.trans hl
                obtain rfl : g = 1 := by rw [hg]; exact of_decide_eq_true hl'
                have G : Hid _ := hg
                clear hg hl'
                obtain ⟨m, hm⟩ : ∃ m, m = (detP a1 a2 b1 b2 c1 c2 d1 d2).sign := ⟨_, rfl⟩
                have hms : m = (deQ (a1, a2) (b1, b2) (c1, c2) (d1, d2)).sign := hm
                rw [cf_yes (a := (a1, a2)) (b := (b1, b2)) (c := (c1, c2)) (d := (d1, d2)) hd hl na nb nc] at hr
                unfold cirQ at hr
                rw [if_pos hde] at hr
                obtain rfl : m = 0 := by rw [hms, hde]; rfl
                unfold tieQ at hr
                simp only [t0, if_true] at hr
                subst hr
                have T0 : Hid _ := t0.symm
                clear t0
                have M : Hid _ := hm
                clear hm hms
                have ka := eqP_no na
                clear na
                have kb := eqP_no nb
                clear nb
                have kc := eqP_no nc
                clear nc
                try clear hr
                try clear hl
                clear hde
                have HQ : Hid _ := hq.symm
                clear hq
                obtain ⟨W, hW, bW, x_a, x_b, x_c, x_d, sW⟩ := bs_2222 w (.int .i64 a1) (.int .i64 a2) (.int .i64 b1) (.int .i64 b2) (.int .i64 c1) (.int .i64 c2) (.int .i64 d1) (.int .i64 d2) 23 23 23 23
                have zbW := bW.size
                have BB := bW
                go_enter Try.func9, Try.ntmps9
                go_wp2_with (go_at_call 11; fail)
                rw [← hW]
                clear hW
                refine (rtCan a1 a2 b1 b2 c1 c2 d1 d2 W Ra Rb Rc Rd HQ.out).mono ?_
                rintro e w1 ⟨rfl, bw1⟩
                have zbw1 := bw1.size
                replace BB := also BB bw1
                replace x_a := x_a.on bw1
                replace x_b := x_b.on bw1
                replace x_c := x_c.on bw1
                replace x_d := x_d.on bw1
                have ⟨x_a_0, x_a_1, x_a_2, x_a_3⟩ := x_a
                have ⟨x_b_0, x_b_1, x_b_2, x_b_3⟩ := x_b
                have ⟨x_c_0, x_c_1, x_c_2, x_c_3⟩ := x_c
                have ⟨x_d_0, x_d_1, x_d_2, x_d_3⟩ := x_d
                go_wp2_with (go_at_call 12; fail)
                refine (rpOrient a1 a2 b1 b2 c1 c2 w1 ha hb hc G.out).mono ?_
                rintro e w2 ⟨rfl, bw2⟩
                clear x_a_0 x_a_1 x_a_2 x_a_3 x_b_0 x_b_1 x_b_2 x_b_3 x_c_0 x_c_1 x_c_2 x_c_3 x_d_0 x_d_1 x_d_2 x_d_3
                have zbw2 := bw2.size
                replace BB := also BB bw2
                replace x_a := x_a.on bw2
                replace x_b := x_b.on bw2
                replace x_c := x_c.on bw2
                replace x_d := x_d.on bw2
                have ⟨x_a_0, x_a_1, x_a_2, x_a_3⟩ := x_a
                have ⟨x_b_0, x_b_1, x_b_2, x_b_3⟩ := x_b
                have ⟨x_c_0, x_c_1, x_c_2, x_c_3⟩ := x_c
                have ⟨x_d_0, x_d_1, x_d_2, x_d_3⟩ := x_d
                go_wp2_with (go_at_call 21; fail)
                refine (rpCircle a1 a2 b1 b2 c1 c2 d1 d2 w2 ha hb hc hd M.out).mono ?_
                rintro e w3 ⟨rfl, bw3⟩
                clear x_a_0 x_a_1 x_a_2 x_a_3 x_b_0 x_b_1 x_b_2 x_b_3 x_c_0 x_c_1 x_c_2 x_c_3 x_d_0 x_d_1 x_d_2 x_d_3
                have zbw3 := bw3.size
                replace BB := also BB bw3
                replace x_a := x_a.on bw3
                replace x_b := x_b.on bw3
                replace x_c := x_c.on bw3
                replace x_d := x_d.on bw3
                have ⟨x_a_0, x_a_1, x_a_2, x_a_3⟩ := x_a
                have ⟨x_b_0, x_b_1, x_b_2, x_b_3⟩ := x_b
                have ⟨x_c_0, x_c_1, x_c_2, x_c_3⟩ := x_c
                have ⟨x_d_0, x_d_1, x_d_2, x_d_3⟩ := x_d
                go_wp2_with (go_at_call 22; fail)
                refine (rtLast d1 d2 a1 a2 b1 b2 c1 c2 w3 T0.out).mono ?_
                rintro e v0 ⟨rfl, bv0⟩
                clear x_a_0 x_a_1 x_a_2 x_a_3 x_b_0 x_b_1 x_b_2 x_b_3 x_c_0 x_c_1 x_c_2 x_c_3 x_d_0 x_d_1 x_d_2 x_d_3
                have zbv0 := bv0.size
                replace BB := also BB bv0
                replace x_a := x_a.on bv0
                replace x_b := x_b.on bv0
                replace x_c := x_c.on bv0
                replace x_d := x_d.on bv0
                have ⟨x_a_0, x_a_1, x_a_2, x_a_3⟩ := x_a
                have ⟨x_b_0, x_b_1, x_b_2, x_b_3⟩ := x_b
                have ⟨x_c_0, x_c_1, x_c_2, x_c_3⟩ := x_c
                have ⟨x_d_0, x_d_1, x_d_2, x_d_3⟩ := x_d
                go_wp2
                go_ret
                exact ⟨rfl, BB⟩
              cases t1 : lastQ (c1, c2) (a1, a2) (b1, b2) (d1, d2)
              rotate_left
              · skip
                obtain ⟨ha, hb, hc, hd⟩ := can4.1 hq
                obtain ⟨g, hg⟩ : ∃ g, g = (areaP a1 a2 b1 b2 c1 c2).sign := ⟨_, rfl⟩
                have hl' := (left_area (a := (a1, a2)) (b := (b1, b2)) (c := (c1, c2)) ha hb hc).symm.trans hl
                obtain rfl : g = 1 := by rw [hg]; exact of_decide_eq_true hl'
                have G : Hid _ := hg
                clear hg hl'
                obtain ⟨m, hm⟩ : ∃ m, m = (detP a1 a2 b1 b2 c1 c2 d1 d2).sign := ⟨_, rfl⟩
                have hms : m = (deQ (a1, a2) (b1, b2) (c1, c2) (d1, d2)).sign := hm
                rw [cf_yes (a := (a1, a2)) (b := (b1, b2)) (c := (c1, c2)) (d := (d1, d2)) hd hl na nb nc] at hr
                unfold cirQ at hr
                rw [if_pos hde] at hr
                obtain rfl : m = 0 := by rw [hms, hde]; rfl
                unfold tieQ at hr
                simp only [t0, t1, if_true, if_false, Bool.false_eq_true] at hr
                rw [pos_sign] at hr
                obtain ⟨s, hs⟩ : ∃ s, s = (areaP a1 a2 b1 b2 d1 d2).sign := ⟨_, rfl⟩
                replace hr : r = decide (s = 1) := by rw [hr, hs]; rfl
                have HS : Hid _ := hs
                have HR : Hid _ := hr
                clear hr hs
                have T0 : Hid _ := t0.symm
                clear t0
                have T1 : Hid _ := t1.symm
                clear t1
                have M : Hid _ := hm
                clear hm hms
                have ka := eqP_no na
                clear na
                have kb := eqP_no nb
                clear nb
                have kc := eqP_no nc
                clear nc
                try clear hr
                try clear hl
                clear hde
                have HQ : Hid _ := hq.symm
                clear hq
                obtain ⟨W, hW, bW, x_a, x_b, x_c, x_d, sW⟩ := bs_2222 w (.int .i64 a1) (.int .i64 a2) (.int .i64 b1) (.int .i64 b2) (.int .i64 c1) (.int .i64 c2) (.int .i64 d1) (.int .i64 d2) 23 23 23 23
                have zbW := bW.size
                have BB := bW
                go_enter Try.func9, Try.ntmps9
                go_wp2_with (go_at_call 11; fail)
                rw [← hW]
                clear hW
                refine (rtCan a1 a2 b1 b2 c1 c2 d1 d2 W Ra Rb Rc Rd HQ.out).mono ?_
                rintro e w1 ⟨rfl, bw1⟩
                have zbw1 := bw1.size
                replace BB := also BB bw1
                replace x_a := x_a.on bw1
                replace x_b := x_b.on bw1
                replace x_c := x_c.on bw1
                replace x_d := x_d.on bw1
                have ⟨x_a_0, x_a_1, x_a_2, x_a_3⟩ := x_a
                have ⟨x_b_0, x_b_1, x_b_2, x_b_3⟩ := x_b
                have ⟨x_c_0, x_c_1, x_c_2, x_c_3⟩ := x_c
                have ⟨x_d_0, x_d_1, x_d_2, x_d_3⟩ := x_d
                go_wp2_with (go_at_call 12; fail)
                refine (rpOrient a1 a2 b1 b2 c1 c2 w1 ha hb hc G.out).mono ?_
                rintro e w2 ⟨rfl, bw2⟩
                clear x_a_0 x_a_1 x_a_2 x_a_3 x_b_0 x_b_1 x_b_2 x_b_3 x_c_0 x_c_1 x_c_2 x_c_3 x_d_0 x_d_1 x_d_2 x_d_3
                have zbw2 := bw2.size
                replace BB := also BB bw2
                replace x_a := x_a.on bw2
                replace x_b := x_b.on bw2
                replace x_c := x_c.on bw2
                replace x_d := x_d.on bw2
                have ⟨x_a_0, x_a_1, x_a_2, x_a_3⟩ := x_a
                have ⟨x_b_0, x_b_1, x_b_2, x_b_3⟩ := x_b
                have ⟨x_c_0, x_c_1, x_c_2, x_c_3⟩ := x_c
                have ⟨x_d_0, x_d_1, x_d_2, x_d_3⟩ := x_d
                go_wp2_with (go_at_call 21; fail)
                refine (rpCircle a1 a2 b1 b2 c1 c2 d1 d2 w2 ha hb hc hd M.out).mono ?_
                rintro e w3 ⟨rfl, bw3⟩
                clear x_a_0 x_a_1 x_a_2 x_a_3 x_b_0 x_b_1 x_b_2 x_b_3 x_c_0 x_c_1 x_c_2 x_c_3 x_d_0 x_d_1 x_d_2 x_d_3
                have zbw3 := bw3.size
                replace BB := also BB bw3
                replace x_a := x_a.on bw3
                replace x_b := x_b.on bw3
                replace x_c := x_c.on bw3
                replace x_d := x_d.on bw3
                have ⟨x_a_0, x_a_1, x_a_2, x_a_3⟩ := x_a
                have ⟨x_b_0, x_b_1, x_b_2, x_b_3⟩ := x_b
                have ⟨x_c_0, x_c_1, x_c_2, x_c_3⟩ := x_c
                have ⟨x_d_0, x_d_1, x_d_2, x_d_3⟩ := x_d
                go_wp2_with (go_at_call 22; fail)
                refine (rtLast d1 d2 a1 a2 b1 b2 c1 c2 w3 T0.out).mono ?_
                rintro e v0 ⟨rfl, bv0⟩
                clear x_a_0 x_a_1 x_a_2 x_a_3 x_b_0 x_b_1 x_b_2 x_b_3 x_c_0 x_c_1 x_c_2 x_c_3 x_d_0 x_d_1 x_d_2 x_d_3
                have zbv0 := bv0.size
                replace BB := also BB bv0
                replace x_a := x_a.on bv0
                replace x_b := x_b.on bv0
                replace x_c := x_c.on bv0
                replace x_d := x_d.on bv0
                have ⟨x_a_0, x_a_1, x_a_2, x_a_3⟩ := x_a
                have ⟨x_b_0, x_b_1, x_b_2, x_b_3⟩ := x_b
                have ⟨x_c_0, x_c_1, x_c_2, x_c_3⟩ := x_c
                have ⟨x_d_0, x_d_1, x_d_2, x_d_3⟩ := x_d
                go_wp2_with (go_at_call 22; fail)
                refine (rtLast c1 c2 a1 a2 b1 b2 d1 d2 v0 T1.out).mono ?_
                rintro e v1 ⟨rfl, bv1⟩
                clear x_a_0 x_a_1 x_a_2 x_a_3 x_b_0 x_b_1 x_b_2 x_b_3 x_c_0 x_c_1 x_c_2 x_c_3 x_d_0 x_d_1 x_d_2 x_d_3
                have zbv1 := bv1.size
                replace BB := also BB bv1
                replace x_a := x_a.on bv1
                replace x_b := x_b.on bv1
                replace x_c := x_c.on bv1
                replace x_d := x_d.on bv1
                have ⟨x_a_0, x_a_1, x_a_2, x_a_3⟩ := x_a
                have ⟨x_b_0, x_b_1, x_b_2, x_b_3⟩ := x_b
                have ⟨x_c_0, x_c_1, x_c_2, x_c_3⟩ := x_c
                have ⟨x_d_0, x_d_1, x_d_2, x_d_3⟩ := x_d
                go_wp2_with (go_at_call 12; fail)
                refine (rpOrient a1 a2 b1 b2 d1 d2 v1 ha hb hd HS.out).mono ?_
                rintro e w9 ⟨rfl, bw9⟩
                clear x_a_0 x_a_1 x_a_2 x_a_3 x_b_0 x_b_1 x_b_2 x_b_3 x_c_0 x_c_1 x_c_2 x_c_3 x_d_0 x_d_1 x_d_2 x_d_3
                have zbw9 := bw9.size
                replace BB := also BB bw9
                replace x_a := x_a.on bw9
                replace x_b := x_b.on bw9
                replace x_c := x_c.on bw9
                replace x_d := x_d.on bw9
                go_wp2
                go_ret
                exact ⟨by rw [HR.out]; rfl, BB⟩
              cases t2 : lastQ (b1, b2) (a1, a2) (c1, c2) (d1, d2)
              rotate_left
              · skip
                obtain ⟨ha, hb, hc, hd⟩ := can4.1 hq
                obtain ⟨g, hg⟩ : ∃ g, g = (areaP a1 a2 b1 b2 c1 c2).sign := ⟨_, rfl⟩
                have hl' := (left_area (a := (a1, a2)) (b := (b1, b2)) (c := (c1, c2)) ha hb hc).symm.trans hl
                obtain rfl : g = 1 := by rw [hg]; exact of_decide_eq_true hl'
                have G : Hid _ := hg
                clear hg hl'
                obtain ⟨m, hm⟩ : ∃ m, m = (detP a1 a2 b1 b2 c1 c2 d1 d2).sign := ⟨_, rfl⟩
                have hms : m = (deQ (a1, a2) (b1, b2) (c1, c2) (d1, d2)).sign := hm
                rw [cf_yes (a := (a1, a2)) (b := (b1, b2)) (c := (c1, c2)) (d := (d1, d2)) hd hl na nb nc] at hr
                unfold cirQ at hr
                rw [if_pos hde] at hr
                obtain rfl : m = 0 := by rw [hms, hde]; rfl
                unfold tieQ at hr
                simp only [t0, t1, t2, if_true, if_false, Bool.false_eq_true] at hr
                rw [pos_sign] at hr
                obtain ⟨s, hs⟩ : ∃ s, s = (areaP a1 a2 d1 d2 c1 c2).sign := ⟨_, rfl⟩
                replace hr : r = decide (s = 1) := by rw [hr, hs]; rfl
                have HS : Hid _ := hs
                have HR : Hid _ := hr
                clear hr hs
                have T0 : Hid _ := t0.symm
                clear t0
                have T1 : Hid _ := t1.symm
                clear t1
                have T2 : Hid _ := t2.symm
                clear t2
                have M : Hid _ := hm
                clear hm hms
                have ka := eqP_no na
                clear na
                have kb := eqP_no nb
                clear nb
                have kc := eqP_no nc
                clear nc
                try clear hr
                try clear hl
                clear hde
                have HQ : Hid _ := hq.symm
                clear hq
                obtain ⟨W, hW, bW, x_a, x_b, x_c, x_d, sW⟩ := bs_2222 w (.int .i64 a1) (.int .i64 a2) (.int .i64 b1) (.int .i64 b2) (.int .i64 c1) (.int .i64 c2) (.int .i64 d1) (.int .i64 d2) 23 23 23 23
                have zbW := bW.size
                have BB := bW
                go_enter Try.func9, Try.ntmps9
                go_wp2_with (go_at_call 11; fail)
                rw [← hW]
                clear hW
                refine (rtCan a1 a2 b1 b2 c1 c2 d1 d2 W Ra Rb Rc Rd HQ.out).mono ?_
                rintro e w1 ⟨rfl, bw1⟩
                have zbw1 := bw1.size
                replace BB := also BB bw1
                replace x_a := x_a.on bw1
                replace x_b := x_b.on bw1
                replace x_c := x_c.on bw1
                replace x_d := x_d.on bw1
                have ⟨x_a_0, x_a_1, x_a_2, x_a_3⟩ := x_a
                have ⟨x_b_0, x_b_1, x_b_2, x_b_3⟩ := x_b
                have ⟨x_c_0, x_c_1, x_c_2, x_c_3⟩ := x_c
                have ⟨x_d_0, x_d_1, x_d_2, x_d_3⟩ := x_d
                go_wp2_with (go_at_call 12; fail)
                refine (rpOrient a1 a2 b1 b2 c1 c2 w1 ha hb hc G.out).mono ?_
                rintro e w2 ⟨rfl, bw2⟩
                clear x_a_0 x_a_1 x_a_2 x_a_3 x_b_0 x_b_1 x_b_2 x_b_3 x_c_0 x_c_1 x_c_2 x_c_3 x_d_0 x_d_1 x_d_2 x_d_3
                have zbw2 := bw2.size
                replace BB := also BB bw2
                replace x_a := x_a.on bw2
                replace x_b := x_b.on bw2
                replace x_c := x_c.on bw2
                replace x_d := x_d.on bw2
                have ⟨x_a_0, x_a_1, x_a_2, x_a_3⟩ := x_a
                have ⟨x_b_0, x_b_1, x_b_2, x_b_3⟩ := x_b
                have ⟨x_c_0, x_c_1, x_c_2, x_c_3⟩ := x_c
                have ⟨x_d_0, x_d_1, x_d_2, x_d_3⟩ := x_d
                go_wp2_with (go_at_call 21; fail)
                refine (rpCircle a1 a2 b1 b2 c1 c2 d1 d2 w2 ha hb hc hd M.out).mono ?_
                rintro e w3 ⟨rfl, bw3⟩
                clear x_a_0 x_a_1 x_a_2 x_a_3 x_b_0 x_b_1 x_b_2 x_b_3 x_c_0 x_c_1 x_c_2 x_c_3 x_d_0 x_d_1 x_d_2 x_d_3
                have zbw3 := bw3.size
                replace BB := also BB bw3
                replace x_a := x_a.on bw3
                replace x_b := x_b.on bw3
                replace x_c := x_c.on bw3
                replace x_d := x_d.on bw3
                have ⟨x_a_0, x_a_1, x_a_2, x_a_3⟩ := x_a
                have ⟨x_b_0, x_b_1, x_b_2, x_b_3⟩ := x_b
                have ⟨x_c_0, x_c_1, x_c_2, x_c_3⟩ := x_c
                have ⟨x_d_0, x_d_1, x_d_2, x_d_3⟩ := x_d
                go_wp2_with (go_at_call 22; fail)
                refine (rtLast d1 d2 a1 a2 b1 b2 c1 c2 w3 T0.out).mono ?_
                rintro e v0 ⟨rfl, bv0⟩
                clear x_a_0 x_a_1 x_a_2 x_a_3 x_b_0 x_b_1 x_b_2 x_b_3 x_c_0 x_c_1 x_c_2 x_c_3 x_d_0 x_d_1 x_d_2 x_d_3
                have zbv0 := bv0.size
                replace BB := also BB bv0
                replace x_a := x_a.on bv0
                replace x_b := x_b.on bv0
                replace x_c := x_c.on bv0
                replace x_d := x_d.on bv0
                have ⟨x_a_0, x_a_1, x_a_2, x_a_3⟩ := x_a
                have ⟨x_b_0, x_b_1, x_b_2, x_b_3⟩ := x_b
                have ⟨x_c_0, x_c_1, x_c_2, x_c_3⟩ := x_c
                have ⟨x_d_0, x_d_1, x_d_2, x_d_3⟩ := x_d
                go_wp2_with (go_at_call 22; fail)
                refine (rtLast c1 c2 a1 a2 b1 b2 d1 d2 v0 T1.out).mono ?_
                rintro e v1 ⟨rfl, bv1⟩
                clear x_a_0 x_a_1 x_a_2 x_a_3 x_b_0 x_b_1 x_b_2 x_b_3 x_c_0 x_c_1 x_c_2 x_c_3 x_d_0 x_d_1 x_d_2 x_d_3
                have zbv1 := bv1.size
                replace BB := also BB bv1
                replace x_a := x_a.on bv1
                replace x_b := x_b.on bv1
                replace x_c := x_c.on bv1
                replace x_d := x_d.on bv1
                have ⟨x_a_0, x_a_1, x_a_2, x_a_3⟩ := x_a
                have ⟨x_b_0, x_b_1, x_b_2, x_b_3⟩ := x_b
                have ⟨x_c_0, x_c_1, x_c_2, x_c_3⟩ := x_c
                have ⟨x_d_0, x_d_1, x_d_2, x_d_3⟩ := x_d
                go_wp2_with (go_at_call 22; fail)
                refine (rtLast b1 b2 a1 a2 c1 c2 d1 d2 v1 T2.out).mono ?_
                rintro e v2 ⟨rfl, bv2⟩
                clear x_a_0 x_a_1 x_a_2 x_a_3 x_b_0 x_b_1 x_b_2 x_b_3 x_c_0 x_c_1 x_c_2 x_c_3 x_d_0 x_d_1 x_d_2 x_d_3
                have zbv2 := bv2.size
                replace BB := also BB bv2
                replace x_a := x_a.on bv2
                replace x_b := x_b.on bv2
                replace x_c := x_c.on bv2
                replace x_d := x_d.on bv2
                have ⟨x_a_0, x_a_1, x_a_2, x_a_3⟩ := x_a
                have ⟨x_b_0, x_b_1, x_b_2, x_b_3⟩ := x_b
                have ⟨x_c_0, x_c_1, x_c_2, x_c_3⟩ := x_c
                have ⟨x_d_0, x_d_1, x_d_2, x_d_3⟩ := x_d
                go_wp2_with (go_at_call 12; fail)
                refine (rpOrient a1 a2 d1 d2 c1 c2 v2 ha hd hc HS.out).mono ?_
                rintro e w9 ⟨rfl, bw9⟩
                clear x_a_0 x_a_1 x_a_2 x_a_3 x_b_0 x_b_1 x_b_2 x_b_3 x_c_0 x_c_1 x_c_2 x_c_3 x_d_0 x_d_1 x_d_2 x_d_3
                have zbw9 := bw9.size
                replace BB := also BB bw9
                replace x_a := x_a.on bw9
                replace x_b := x_b.on bw9
                replace x_c := x_c.on bw9
                replace x_d := x_d.on bw9
                go_wp2
                go_ret
                exact ⟨by rw [HR.out]; rfl, BB⟩
              obtain ⟨ha, hb, hc, hd⟩ := can4.1 hq
              obtain ⟨g, hg⟩ : ∃ g, g = (areaP a1 a2 b1 b2 c1 c2).sign := ⟨_, rfl⟩
              have hl' := (left_area (a := (a1, a2)) (b := (b1, b2)) (c := (c1, c2)) ha hb hc).symm.trans hl
              obtain rfl : g = 1 := by rw [hg]; exact of_decide_eq_true hl'
              have G : Hid _ := hg
              clear hg hl'
              obtain ⟨m, hm⟩ : ∃ m, m = (detP a1 a2 b1 b2 c1 c2 d1 d2).sign := ⟨_, rfl⟩
              have hms : m = (deQ (a1, a2) (b1, b2) (c1, c2) (d1, d2)).sign := hm
              rw [cf_yes (a := (a1, a2)) (b := (b1, b2)) (c := (c1, c2)) (d := (d1, d2)) hd hl na nb nc] at hr
              unfold cirQ at hr
              rw [if_pos hde] at hr
              obtain rfl : m = 0 := by rw [hms, hde]; rfl
              unfold tieQ at hr
              simp only [t0, t1, t2, if_false, Bool.false_eq_true] at hr
              rw [pos_sign] at hr
              obtain ⟨s, hs⟩ : ∃ s, s = (areaP d1 d2 b1 b2 c1 c2).sign := ⟨_, rfl⟩
              replace hr : r = decide (s = 1) := by rw [hr, hs]; rfl
              have HS : Hid _ := hs
              have HR : Hid _ := hr
              clear hr hs
              have T0 : Hid _ := t0.symm
              clear t0
              have T1 : Hid _ := t1.symm
              clear t1
              have T2 : Hid _ := t2.symm
              clear t2
              have M : Hid _ := hm
              clear hm hms
              have ka := eqP_no na
              clear na
              have kb := eqP_no nb
              clear nb
              have kc := eqP_no nc
              clear nc
              try clear hr
              try clear hl
              clear hde
              have HQ : Hid _ := hq.symm
              clear hq
              obtain ⟨W, hW, bW, x_a, x_b, x_c, x_d, sW⟩ := bs_2222 w (.int .i64 a1) (.int .i64 a2) (.int .i64 b1) (.int .i64 b2) (.int .i64 c1) (.int .i64 c2) (.int .i64 d1) (.int .i64 d2) 23 23 23 23
              have zbW := bW.size
              have BB := bW
              go_enter Try.func9, Try.ntmps9
              go_wp2_with (go_at_call 11; fail)
              rw [← hW]
              clear hW
              refine (rtCan a1 a2 b1 b2 c1 c2 d1 d2 W Ra Rb Rc Rd HQ.out).mono ?_
              rintro e w1 ⟨rfl, bw1⟩
              have zbw1 := bw1.size
              replace BB := also BB bw1
              replace x_a := x_a.on bw1
              replace x_b := x_b.on bw1
              replace x_c := x_c.on bw1
              replace x_d := x_d.on bw1
              have ⟨x_a_0, x_a_1, x_a_2, x_a_3⟩ := x_a
              have ⟨x_b_0, x_b_1, x_b_2, x_b_3⟩ := x_b
              have ⟨x_c_0, x_c_1, x_c_2, x_c_3⟩ := x_c
              have ⟨x_d_0, x_d_1, x_d_2, x_d_3⟩ := x_d
              go_wp2_with (go_at_call 12; fail)
              refine (rpOrient a1 a2 b1 b2 c1 c2 w1 ha hb hc G.out).mono ?_
              rintro e w2 ⟨rfl, bw2⟩
              clear x_a_0 x_a_1 x_a_2 x_a_3 x_b_0 x_b_1 x_b_2 x_b_3 x_c_0 x_c_1 x_c_2 x_c_3 x_d_0 x_d_1 x_d_2 x_d_3
              have zbw2 := bw2.size
              replace BB := also BB bw2
              replace x_a := x_a.on bw2
              replace x_b := x_b.on bw2
              replace x_c := x_c.on bw2
              replace x_d := x_d.on bw2
              have ⟨x_a_0, x_a_1, x_a_2, x_a_3⟩ := x_a
              have ⟨x_b_0, x_b_1, x_b_2, x_b_3⟩ := x_b
              have ⟨x_c_0, x_c_1, x_c_2, x_c_3⟩ := x_c
              have ⟨x_d_0, x_d_1, x_d_2, x_d_3⟩ := x_d
              go_wp2_with (go_at_call 21; fail)
              refine (rpCircle a1 a2 b1 b2 c1 c2 d1 d2 w2 ha hb hc hd M.out).mono ?_
              rintro e w3 ⟨rfl, bw3⟩
              clear x_a_0 x_a_1 x_a_2 x_a_3 x_b_0 x_b_1 x_b_2 x_b_3 x_c_0 x_c_1 x_c_2 x_c_3 x_d_0 x_d_1 x_d_2 x_d_3
              have zbw3 := bw3.size
              replace BB := also BB bw3
              replace x_a := x_a.on bw3
              replace x_b := x_b.on bw3
              replace x_c := x_c.on bw3
              replace x_d := x_d.on bw3
              have ⟨x_a_0, x_a_1, x_a_2, x_a_3⟩ := x_a
              have ⟨x_b_0, x_b_1, x_b_2, x_b_3⟩ := x_b
              have ⟨x_c_0, x_c_1, x_c_2, x_c_3⟩ := x_c
              have ⟨x_d_0, x_d_1, x_d_2, x_d_3⟩ := x_d
              go_wp2_with (go_at_call 22; fail)
              refine (rtLast d1 d2 a1 a2 b1 b2 c1 c2 w3 T0.out).mono ?_
              rintro e v0 ⟨rfl, bv0⟩
              clear x_a_0 x_a_1 x_a_2 x_a_3 x_b_0 x_b_1 x_b_2 x_b_3 x_c_0 x_c_1 x_c_2 x_c_3 x_d_0 x_d_1 x_d_2 x_d_3
              have zbv0 := bv0.size
              replace BB := also BB bv0
              replace x_a := x_a.on bv0
              replace x_b := x_b.on bv0
              replace x_c := x_c.on bv0
              replace x_d := x_d.on bv0
              have ⟨x_a_0, x_a_1, x_a_2, x_a_3⟩ := x_a
              have ⟨x_b_0, x_b_1, x_b_2, x_b_3⟩ := x_b
              have ⟨x_c_0, x_c_1, x_c_2, x_c_3⟩ := x_c
              have ⟨x_d_0, x_d_1, x_d_2, x_d_3⟩ := x_d
              go_wp2_with (go_at_call 22; fail)
              refine (rtLast c1 c2 a1 a2 b1 b2 d1 d2 v0 T1.out).mono ?_
              rintro e v1 ⟨rfl, bv1⟩
              clear x_a_0 x_a_1 x_a_2 x_a_3 x_b_0 x_b_1 x_b_2 x_b_3 x_c_0 x_c_1 x_c_2 x_c_3 x_d_0 x_d_1 x_d_2 x_d_3
              have zbv1 := bv1.size
              replace BB := also BB bv1
              replace x_a := x_a.on bv1
              replace x_b := x_b.on bv1
              replace x_c := x_c.on bv1
              replace x_d := x_d.on bv1
              have ⟨x_a_0, x_a_1, x_a_2, x_a_3⟩ := x_a
              have ⟨x_b_0, x_b_1, x_b_2, x_b_3⟩ := x_b
              have ⟨x_c_0, x_c_1, x_c_2, x_c_3⟩ := x_c
              have ⟨x_d_0, x_d_1, x_d_2, x_d_3⟩ := x_d
              go_wp2_with (go_at_call 22; fail)
              refine (rtLast b1 b2 a1 a2 c1 c2 d1 d2 v1 T2.out).mono ?_
              rintro e v2 ⟨rfl, bv2⟩
              clear x_a_0 x_a_1 x_a_2 x_a_3 x_b_0 x_b_1 x_b_2 x_b_3 x_c_0 x_c_1 x_c_2 x_c_3 x_d_0 x_d_1 x_d_2 x_d_3
              have zbv2 := bv2.size
              replace BB := also BB bv2
              replace x_a := x_a.on bv2
              replace x_b := x_b.on bv2
              replace x_c := x_c.on bv2
              replace x_d := x_d.on bv2
              have ⟨x_a_0, x_a_1, x_a_2, x_a_3⟩ := x_a
              have ⟨x_b_0, x_b_1, x_b_2, x_b_3⟩ := x_b
              have ⟨x_c_0, x_c_1, x_c_2, x_c_3⟩ := x_c
              have ⟨x_d_0, x_d_1, x_d_2, x_d_3⟩ := x_d
              go_wp2_with (go_at_call 12; fail)
              refine (rpOrient d1 d2 b1 b2 c1 c2 v2 hd hb hc HS.out).mono ?_
              rintro e w9 ⟨rfl, bw9⟩
              clear x_a_0 x_a_1 x_a_2 x_a_3 x_b_0 x_b_1 x_b_2 x_b_3 x_c_0 x_c_1 x_c_2 x_c_3 x_d_0 x_d_1 x_d_2 x_d_3
              have zbw9 := bw9.size
              replace BB := also BB bw9
              replace x_a := x_a.on bw9
              replace x_b := x_b.on bw9
              replace x_c := x_c.on bw9
              replace x_d := x_d.on bw9
              go_wp2
              go_ret
              exact ⟨by rw [HR.out]; rfl, BB⟩
            · skip
              obtain ⟨ha, hb, hc, hd⟩ := can4.1 hq
              obtain ⟨g, hg⟩ : ∃ g, g = (areaP a1 a2 b1 b2 c1 c2).sign := ⟨_, rfl⟩
              have hl' := (left_area (a := (a1, a2)) (b := (b1, b2)) (c := (c1, c2)) ha hb hc).symm.trans hl
              obtain rfl : g = 1 := by rw [hg]; exact of_decide_eq_true hl'
              have G : Hid _ := hg
              clear hg hl'
              obtain ⟨m, hm⟩ : ∃ m, m = (detP a1 a2 b1 b2 c1 c2 d1 d2).sign := ⟨_, rfl⟩
              have hms : m = (deQ (a1, a2) (b1, b2) (c1, c2) (d1, d2)).sign := hm
              rw [cf_yes (a := (a1, a2)) (b := (b1, b2)) (c := (c1, c2)) (d := (d1, d2)) hd hl na nb nc] at hr
              unfold cirQ at hr
              rw [if_neg (by omega)] at hr
              obtain rfl : m = 1 := by rw [hms]; exact Int.sign_eq_one_of_pos hde
              obtain rfl : r = true := by rw [hr]; exact decide_eq_true (by omega)
              have M : Hid _ := hm
              clear hm hms
              have ka := eqP_no na
              clear na
              have kb := eqP_no nb
              clear nb
              have kc := eqP_no nc
              clear nc
              try clear hr
              try clear hl
              clear hde
              have HQ : Hid _ := hq.symm
              clear hq
              obtain ⟨W, hW, bW, x_a, x_b, x_c, x_d, sW⟩ := bs_2222 w (.int .i64 a1) (.int .i64 a2) (.int .i64 b1) (.int .i64 b2) (.int .i64 c1) (.int .i64 c2) (.int .i64 d1) (.int .i64 d2) 23 23 23 23
              have zbW := bW.size
              have BB := bW
              go_enter Try.func9, Try.ntmps9
              go_wp2_with (go_at_call 11; fail)
              rw [← hW]
              clear hW
              refine (rtCan a1 a2 b1 b2 c1 c2 d1 d2 W Ra Rb Rc Rd HQ.out).mono ?_
              rintro e w1 ⟨rfl, bw1⟩
              have zbw1 := bw1.size
              replace BB := also BB bw1
              replace x_a := x_a.on bw1
              replace x_b := x_b.on bw1
              replace x_c := x_c.on bw1
              replace x_d := x_d.on bw1
              have ⟨x_a_0, x_a_1, x_a_2, x_a_3⟩ := x_a
              have ⟨x_b_0, x_b_1, x_b_2, x_b_3⟩ := x_b
              have ⟨x_c_0, x_c_1, x_c_2, x_c_3⟩ := x_c
              have ⟨x_d_0, x_d_1, x_d_2, x_d_3⟩ := x_d
              go_wp2_with (go_at_call 12; fail)
              refine (rpOrient a1 a2 b1 b2 c1 c2 w1 ha hb hc G.out).mono ?_
              rintro e w2 ⟨rfl, bw2⟩
              clear x_a_0 x_a_1 x_a_2 x_a_3 x_b_0 x_b_1 x_b_2 x_b_3 x_c_0 x_c_1 x_c_2 x_c_3 x_d_0 x_d_1 x_d_2 x_d_3
              have zbw2 := bw2.size
              replace BB := also BB bw2
              replace x_a := x_a.on bw2
              replace x_b := x_b.on bw2
              replace x_c := x_c.on bw2
              replace x_d := x_d.on bw2
              have ⟨x_a_0, x_a_1, x_a_2, x_a_3⟩ := x_a
              have ⟨x_b_0, x_b_1, x_b_2, x_b_3⟩ := x_b
              have ⟨x_c_0, x_c_1, x_c_2, x_c_3⟩ := x_c
              have ⟨x_d_0, x_d_1, x_d_2, x_d_3⟩ := x_d
              go_wp2_with (go_at_call 21; fail)
              refine (rpCircle a1 a2 b1 b2 c1 c2 d1 d2 w2 ha hb hc hd M.out).mono ?_
              rintro e w3 ⟨rfl, bw3⟩
              clear x_a_0 x_a_1 x_a_2 x_a_3 x_b_0 x_b_1 x_b_2 x_b_3 x_c_0 x_c_1 x_c_2 x_c_3 x_d_0 x_d_1 x_d_2 x_d_3
              have zbw3 := bw3.size
              replace BB := also BB bw3
              replace x_a := x_a.on bw3
              replace x_b := x_b.on bw3
              replace x_c := x_c.on bw3
              replace x_d := x_d.on bw3
              have ⟨x_a_0, x_a_1, x_a_2, x_a_3⟩ := x_a
              have ⟨x_b_0, x_b_1, x_b_2, x_b_3⟩ := x_b
              have ⟨x_c_0, x_c_1, x_c_2, x_c_3⟩ := x_c
              have ⟨x_d_0, x_d_1, x_d_2, x_d_3⟩ := x_d
              go_wp2
              go_ret
              exact ⟨rfl, BB⟩
end Go.Proofs.Ytnemailhijkemaa

namespace Go.Proofs.Ytnemailhijkemaa
open Go.RowKit
set_option linter.unusedVariables false

set_option maxRecDepth 100000 in
set_option maxHeartbeats 20000000 in
theorem lives8_any (w : World) : Calls Try.prog 10 #[] w fun e w' => e = .returned (.bool true) ∧ Below w.heap.size w w' := by
  have H1 : Hid (true = cfQ (0, 0) (1, 0) (1, 1) (0, 1)) := by unfold Hid; decide
  have H2 : Hid (false = cfQ (1, 0) (1, 1) (0, 1) (0, 0)) := by unfold Hid; decide
  have H3 : Hid ((2 : Int) = bstQ (0, 0) (1, 0) [(0, 0), (1, 1), (0, 1)] 3) := by unfold Hid; decide
  obtain ⟨W, hW, bW, x_a, x_b, x_c, x_d, sW⟩ := bs_2222 w (.int .i64 0) (.int .i64 0) (.int .i64 1) (.int .i64 0) (.int .i64 1) (.int .i64 1) (.int .i64 0) (.int .i64 1) 23 23 23 23
  have zbW := bW.size
  have BB := bW
  go_enter Try.func10, Try.ntmps10
  go_wp2_with (go_at_call 8; fail)
  rw [← hW]
  clear hW
  refine (tConflict 0 0 1 0 1 1 0 1 W H1.out).mono ?_
  rintro e w1 ⟨rfl, bw1⟩
  have zbw1 := bw1.size
  replace BB := also BB bw1
  replace x_a := x_a.on bw1
  replace x_b := x_b.on bw1
  replace x_c := x_c.on bw1
  replace x_d := x_d.on bw1
  have ⟨x_a_0, x_a_1, x_a_2, x_a_3⟩ := x_a
  have ⟨x_b_0, x_b_1, x_b_2, x_b_3⟩ := x_b
  have ⟨x_c_0, x_c_1, x_c_2, x_c_3⟩ := x_c
  have ⟨x_d_0, x_d_1, x_d_2, x_d_3⟩ := x_d
  go_wp2_with (go_at_call 8; fail)
  refine (tConflict 1 0 1 1 0 1 0 0 w1 H2.out).mono ?_
  rintro e w2 ⟨rfl, bw2⟩
  clear x_a_0 x_a_1 x_a_2 x_a_3 x_b_0 x_b_1 x_b_2 x_b_3 x_c_0 x_c_1 x_c_2 x_c_3 x_d_0 x_d_1 x_d_2 x_d_3
  have zbw2 := bw2.size
  replace BB := also BB bw2
  replace x_a := x_a.on bw2
  replace x_b := x_b.on bw2
  replace x_c := x_c.on bw2
  replace x_d := x_d.on bw2
  have ⟨x_a_0, x_a_1, x_a_2, x_a_3⟩ := x_a
  have ⟨x_b_0, x_b_1, x_b_2, x_b_3⟩ := x_b
  have ⟨x_c_0, x_c_1, x_c_2, x_c_3⟩ := x_c
  have ⟨x_d_0, x_d_1, x_d_2, x_d_3⟩ := x_d
  go_wp2_with (go_at_call 14; fail)
  obtain ⟨V, hV⟩ : ∃ V, V = (w2.alloc (.cells #[.int .i64 0, .int .i64 0, .int .i64 1, .int .i64 1, .int .i64 0, .int .i64 1] 23)) := ⟨_, rfl⟩
  rw [← hV]
  have bV : Below w2.heap.size w2 V := by rw [hV]; exact (Below.refl _ _).alloc (Nat.le_refl _) _
  have rV : Row V w2.heap.size [.int .i64 0, .int .i64 0, .int .i64 1, .int .i64 1, .int .i64 0, .int .i64 1] := by rw [hV]; exact Row.new _ _ _
  have lV : w2.heap.size < V.heap.size := by rw [hV]; simp
  clear hV
  clear x_a_0 x_a_1 x_a_2 x_a_3 x_b_0 x_b_1 x_b_2 x_b_3 x_c_0 x_c_1 x_c_2 x_c_3 x_d_0 x_d_1 x_d_2 x_d_3
  have zbV := bV.size
  replace BB := also BB bV
  replace x_a := x_a.on bV
  replace x_b := x_b.on bV
  replace x_c := x_c.on bV
  replace x_d := x_d.on bV
  refine (tBest 0 0 1 0 _ 3 3 [(0, 0), (1, 1), (0, 1)] V ⟨rfl, Nat.le_refl _, (by intro h; cases h), Or.inr ⟨_, 0, rfl, lV, rV.seg⟩⟩ (by decide) H3.out).mono ?_
  rintro e w3 ⟨rfl, bw3⟩
  have zbw3 := bw3.size
  replace BB := also BB bw3
  replace x_a := x_a.on bw3
  replace x_b := x_b.on bw3
  replace x_c := x_c.on bw3
  replace x_d := x_d.on bw3
  go_wp2
  go_ret
  exact ⟨rfl, BB⟩
end Go.Proofs.Ytnemailhijkemaa

namespace Go.Proofs.Ytnemailhijkemaa
open Go.RowKit
open Go.ChangeShapes Go.WideShapes Go.ChangeAt Go.Joins
set_option linter.unusedVariables false
set_option linter.constructorNameAsVariable false

theorem list6 {cs : Array Value} (h : cs.size = 6) : ∃ c0 c1 c2 c3 c4 c5, cs = #[c0, c1, c2, c3, c4, c5] := by
  obtain ⟨l⟩ := cs
  match l, h with
  | [c0, c1, c2, c3, c4, c5], _ => exact ⟨c0, c1, c2, c3, c4, c5, rfl⟩
theorem cells3I : Try.prog.cellsOf 2 = 1 := by kernel_rfl
theorem cells3P : Try.prog.cellsOf 23 = 2 := by kernel_rfl
theorem cells3PP : Try.prog.cellsOf 24 = 6 := by kernel_rfl
theorem trod_p {H : Type} {enc : TypeId × Value → H} {W : World} {bs fuel : Nat} {sp : Nat → Bool} {hd : Bool} {c0 c1 : Value} {y : DataW H × List MemPlace} (h : DataW.trod enc Try.prog W bs sp hd fuel 23 [c0, c1] = some y) :
    ∃ a b : Int, c0 = .int .i64 a ∧ c1 = .int .i64 b ∧ y = (.agg [.lit (.int .i64 a), .lit (.int .i64 b)], []) ∧ (Lit.int .i64 a).wf = true ∧ (Lit.int .i64 b).wf = true := by
  obtain ⟨y0, y1, n, hx, _, h0, h1⟩ := trod_struct2 Try.underlying23 h
  have h0 : DataW.trod enc Try.prog W bs sp hd n 2 [c0] = some y0 := by simpa [cells3I] using h0
  have h1 : DataW.trod enc Try.prog W bs sp hd n 2 [c1] = some y1 := by simpa [cells3I] using h1
  obtain ⟨a, e0, rfl, w0⟩ := DataW.trod_int Try.underlying2 h0
  obtain ⟨b, e1, rfl, w1⟩ := DataW.trod_int Try.underlying2 h1
  simp at e0 e1 hx
  exact ⟨a, b, e0, e1, hx, w0, w1⟩
theorem open_pt3 {H : Type} {enc : TypeId × Value → H} {w W : World} {r : Reach} {b0 bs : Nat} {sp : Nat → Bool} {hd : Bool} {v : Value} {d : DataW H} {p : List MemPlace} (hv : Value.okWide Try.prog w r b0 24 v) (h : DataW.Trod enc Try.prog W bs sp hd 24 v d p) :
    ∃ a0 a1 a2 a3 a4 a5 : Int, v = .agg #[.int .i64 a0, .int .i64 a1, .int .i64 a2, .int .i64 a3, .int .i64 a4, .int .i64 a5] ∧ d = .agg [.agg [.lit (.int .i64 a0), .lit (.int .i64 a1)], .agg [.lit (.int .i64 a2), .lit (.int .i64 a3)], .agg [.lit (.int .i64 a4), .lit (.int .i64 a5)]] ∧ p = [] ∧ (Lit.int .i64 a0).wf = true ∧ (Lit.int .i64 a1).wf = true ∧ (Lit.int .i64 a2).wf = true ∧ (Lit.int .i64 a3).wf = true ∧ (Lit.int .i64 a4).wf = true ∧ (Lit.int .i64 a5).wf = true := by
  simp only [Value.okWide, Try.underlying24] at hv
  obtain ⟨cs, rfl, hsz, _⟩ := hv
  obtain ⟨c0, c1, c2, c3, c4, c5, rfl⟩ := list6 (hsz.trans cells3PP)
  obtain ⟨fuel, hf⟩ := h
  obtain ⟨xs, m, _, hx, _, hl, hi⟩ := DataW.trod_array Try.underlying24 hf
  obtain ⟨y0, y1, y2, rfl⟩ : ∃ y0 y1 y2, xs = [y0, y1, y2] := by
    match xs, hl with
    | [y0, y1, y2], _ => exact ⟨y0, y1, y2, rfl⟩
  have i0 := hi 0 (by decide)
  have i1 := hi 1 (by decide)
  have i2 := hi 2 (by decide)
  rw [cells3P] at i0 i1 i2
  simp [Value.cells] at i0 i1 i2
  obtain ⟨a0, a1, rfl, rfl, rfl, w0, w1⟩ := trod_p i0
  obtain ⟨a2, a3, rfl, rfl, rfl, w2, w3⟩ := trod_p i1
  obtain ⟨a4, a5, rfl, rfl, rfl, w4, w5⟩ := trod_p i2
  simp at hx
  exact ⟨a0, a1, a2, a3, a4, a5, rfl, hx.1, hx.2, w0, w1, w2, w3, w4, w5⟩
theorem shut_pt3 {H : Type} {enc : TypeId × Value → H} {W : World} {bs : Nat} {sp : Nat → Bool} {hd : Bool} {a0 a1 a2 a3 a4 a5 : Int} (w0 : (Lit.int .i64 a0).wf = true) (w1 : (Lit.int .i64 a1).wf = true) (w2 : (Lit.int .i64 a2).wf = true) (w3 : (Lit.int .i64 a3).wf = true) (w4 : (Lit.int .i64 a4).wf = true) (w5 : (Lit.int .i64 a5).wf = true) :
    DataW.Trod enc Try.prog W bs sp hd 24 (.agg #[.int .i64 a0, .int .i64 a1, .int .i64 a2, .int .i64 a3, .int .i64 a4, .int .i64 a5]) (.agg [.agg [.lit (.int .i64 a0), .lit (.int .i64 a1)], .agg [.lit (.int .i64 a2), .lit (.int .i64 a3)], .agg [.lit (.int .i64 a4), .lit (.int .i64 a5)]]) [] := by
  have r3 : List.range 3 = [0, 1, 2] := rfl
  exact ⟨3, by simp [DataW.trod, Try.underlying24, Try.underlying23, Try.underlying2, cells3I, cells3P, cells3PP, Value.cells, r3, w0, w1, w2, w3, w4, w5]⟩
end Go.Proofs.Ytnemailhijkemaa
