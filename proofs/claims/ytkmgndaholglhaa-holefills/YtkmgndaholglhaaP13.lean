/-
  Joined texts, part 13:
  What zelligeref07's InCircle answers.
  Points of 64 bits. It imports nothing of the program.
  What zelligeref08's Can, last, Left and Conflict answer.
-/
import Derived.Test.YtkmgndaholglhaaP12
namespace Go.Proofs.Ytkmgndaholglhaa
open Go.RowKit
set_option linter.unusedVariables false

set_option maxRecDepth 100000 in
set_option maxHeartbeats 4000000 in
theorem rpCircle (a1 a2 b1 b2 c1 c2 d1 d2 : Int) (w : World) (ha : canC a1 a2 = true) (hb : canC b1 b2 = true) (hc : canC c1 c2 = true) (hd : canC d1 d2 = true) {g : Int} (hg : g = (detP a1 a2 b1 b2 c1 c2 d1 d2).sign) :
  Calls Try.prog 22 #[.agg #[.int .i64 a1, .int .i64 a2], .agg #[.int .i64 b1, .int .i64 b2], .agg #[.int .i64 c1, .int .i64 c2], .agg #[.int .i64 d1, .int .i64 d2]] w fun e w' => e = .returned (.int .i64 g) ∧ Below w.heap.size w w' := by
 cases na : nearP a1 a2 d1 d2
 ·exact rpCircle0 a1 a2 b1 b2 c1 c2 d1 d2 w ha hb hc hd na hg
 ·skip
  cases nb : nearP b1 b2 d1 d2
  ·exact rpCircle1 a1 a2 b1 b2 c1 c2 d1 d2 w ha hb hc hd na nb hg
  ·skip
   cases nc : nearP c1 c2 d1 d2
   ·exact rpCircle2 a1 a2 b1 b2 c1 c2 d1 d2 w ha hb hc hd na nb nc hg
   ·skip
    have HG : Hid _ := hg
    clear hg
    obtain ⟨W, hW, bW, x_a, x_b, x_c, x_d, sW⟩ := bs_2222 w (.int .i64 a1) (.int .i64 a2) (.int .i64 b1) (.int .i64 b2) (.int .i64 c1) (.int .i64 c2) (.int .i64 d1) (.int .i64 d2) 31 31 31 31
    have zbW := bW.size
    have BB := bW
    go_enter Try.func22, Try.ntmps22
    go_wp2_with (go_at_call 31; fail)
    rw [← hW]
    clear hW
    refine (rpNear a1 a2 d1 d2 W ha hd na.symm).mono ?_
    rintro e v0 ⟨rfl, bv0⟩
    have zbv0 := bv0.size
    replace BB := also BB bv0
    replace x_a := x_a.on bv0
    replace x_b := x_b.on bv0
    replace x_c := x_c.on bv0
    replace x_d := x_d.on bv0
    have ⟨x_a_0, x_a_1, x_a_2, x_a_3⟩ := x_a
    have ⟨x_b_0, x_b_1, x_b_2, x_b_3⟩ := x_b
    have ⟨x_c_0, x_c_1, x_c_2, x_c_3⟩ := x_c
    have ⟨x_d_0, x_d_1, x_d_2, x_d_3⟩ := x_d
    go_wp2_with (go_at_call 31; fail)
    refine (rpNear b1 b2 d1 d2 v0 hb hd nb.symm).mono ?_
    rintro e v1 ⟨rfl, bv1⟩
    clear x_a_0 x_a_1 x_a_2 x_a_3 x_b_0 x_b_1 x_b_2 x_b_3 x_c_0 x_c_1 x_c_2 x_c_3 x_d_0 x_d_1 x_d_2 x_d_3
    have zbv1 := bv1.size
    replace BB := also BB bv1
    replace x_a := x_a.on bv1
    replace x_b := x_b.on bv1
    replace x_c := x_c.on bv1
    replace x_d := x_d.on bv1
    have ⟨x_a_0, x_a_1, x_a_2, x_a_3⟩ := x_a
    have ⟨x_b_0, x_b_1, x_b_2, x_b_3⟩ := x_b
    have ⟨x_c_0, x_c_1, x_c_2, x_c_3⟩ := x_c
    have ⟨x_d_0, x_d_1, x_d_2, x_d_3⟩ := x_d
    go_wp2_with (go_at_call 31; fail)
    refine (rpNear c1 c2 d1 d2 v1 hc hd nc.symm).mono ?_
    rintro e v2 ⟨rfl, bv2⟩
    clear x_a_0 x_a_1 x_a_2 x_a_3 x_b_0 x_b_1 x_b_2 x_b_3 x_c_0 x_c_1 x_c_2 x_c_3 x_d_0 x_d_1 x_d_2 x_d_3
    have zbv2 := bv2.size
    replace BB := also BB bv2
    replace x_a := x_a.on bv2
    replace x_b := x_b.on bv2
    replace x_c := x_c.on bv2
    replace x_d := x_d.on bv2
    have ⟨x_a_0, x_a_1, x_a_2, x_a_3⟩ := x_a
    have ⟨x_b_0, x_b_1, x_b_2, x_b_3⟩ := x_b
    have ⟨x_c_0, x_c_1, x_c_2, x_c_3⟩ := x_c
    have ⟨x_d_0, x_d_1, x_d_2, x_d_3⟩ := x_d
    go_wp2_with (go_at_call 34; fail)
    refine (rpFlat a1 a2 b1 b2 c1 c2 d1 d2 v2 ha hb hc hd na nb nc HG.out).mono ?_
    rintro e v3 ⟨rfl, bv3⟩
    clear x_a_0 x_a_1 x_a_2 x_a_3 x_b_0 x_b_1 x_b_2 x_b_3 x_c_0 x_c_1 x_c_2 x_c_3 x_d_0 x_d_1 x_d_2 x_d_3
    have zbv3 := bv3.size
    replace BB := also BB bv3
    replace x_a := x_a.on bv3
    replace x_b := x_b.on bv3
    replace x_c := x_c.on bv3
    replace x_d := x_d.on bv3
    go_wp2
    go_ret
    exact ⟨rfl, BB⟩
end Go.Proofs.Ytkmgndaholglhaa

namespace Go.Proofs.Ytkmgndaholglhaa
open Go.RowKit
set_option linter.unusedVariables false

def R2 (p : Pt) : Prop := R64 p.1 ∧ R64 p.2
theorem r2x {x y : Int} (h : R2 (x, y)) : -9223372036854775808 ≤ x ∧ x ≤ 9223372036854775807 := h.1
theorem r2y {x y : Int} (h : R2 (x, y)) : -9223372036854775808 ≤ y ∧ y ≤ 9223372036854775807 := h.2
end Go.Proofs.Ytkmgndaholglhaa

namespace Go.Proofs.Ytkmgndaholglhaa
open Go.RowKit
set_option linter.unusedVariables false

theorem left_area {a b c : Pt} (ha : canC a.1 a.2 = true) (hb : canC b.1 b.2 = true) (hc : canC c.1 c.2 = true) : leftQ a b c = decide ((areaP a.1 a.2 b.1 b.2 c.1 c.2).sign = 1) := by
 unfold leftQ arP; rw [can3.2 ⟨ha, hb, hc⟩]; rfl
theorem pos_sign (x : Int) : decide (0 < x) = decide (x.sign = 1) := by rw [decide_eq_decide]; exact Int.sign_eq_one_iff_pos.symm
set_option maxRecDepth 100000 in
set_option maxHeartbeats 8000000 in
theorem rtCan (a1 a2 b1 b2 c1 c2 d1 d2 : Int) (w : World) (Ra : Hid (R2 (a1, a2))) (Rb : Hid (R2 (b1, b2))) (Rc : Hid (R2 (c1, c2))) (Rd : Hid (R2 (d1, d2))) {r : Bool} (hr : r = canAll [(a1, a2), (b1, b2), (c1, c2), (d1, d2)]) :
  Calls Try.prog 21 #[.agg #[.int .i64 a1, .int .i64 a2], .agg #[.int .i64 b1, .int .i64 b2], .agg #[.int .i64 c1, .int .i64 c2], .agg #[.int .i64 d1, .int .i64 d2]] w fun e w' => e = .returned (.bool r) ∧ Below w.heap.size w w' := by
 cases ha : canC a1 a2
 ·skip
  obtain rfl : r = false := by rw [hr]; simp [canAll, ha]
  clear hr
  obtain ⟨W, hW, bW, x_a, x_b, x_c, x_d, sW⟩ := bs_2222 w (.int .i64 a1) (.int .i64 a2) (.int .i64 b1) (.int .i64 b2) (.int .i64 c1) (.int .i64 c2) (.int .i64 d1) (.int .i64 d2) 31 31 31 31
  have zbW := bW.size
  have BB := bW
  go_enter Try.func21, Try.ntmps21
  go_wp2_with (go_at_call 19; fail)
  rw [← hW]
  clear hW
  refine (rlCan a1 a2 W (r2x Ra.out) (r2y Ra.out) ha.symm).mono ?_
  rintro e w0 ⟨rfl, bw0⟩
  have zbw0 := bw0.size
  replace BB := also BB bw0
  replace x_a := x_a.on bw0
  replace x_b := x_b.on bw0
  replace x_c := x_c.on bw0
  replace x_d := x_d.on bw0
  have ⟨x_a_0, x_a_1, x_a_2, x_a_3⟩ := x_a
  have ⟨x_b_0, x_b_1, x_b_2, x_b_3⟩ := x_b
  have ⟨x_c_0, x_c_1, x_c_2, x_c_3⟩ := x_c
  have ⟨x_d_0, x_d_1, x_d_2, x_d_3⟩ := x_d
  go_wp2
  go_ret
  exact ⟨rfl, BB⟩
 ·skip
  cases hb : canC b1 b2
  ·skip
   obtain rfl : r = false := by rw [hr]; simp [canAll, ha, hb]
   clear hr
   obtain ⟨W, hW, bW, x_a, x_b, x_c, x_d, sW⟩ := bs_2222 w (.int .i64 a1) (.int .i64 a2) (.int .i64 b1) (.int .i64 b2) (.int .i64 c1) (.int .i64 c2) (.int .i64 d1) (.int .i64 d2) 31 31 31 31
   have zbW := bW.size
   have BB := bW
   go_enter Try.func21, Try.ntmps21
   go_wp2_with (go_at_call 19; fail)
   rw [← hW]
   clear hW
   refine (rlCan a1 a2 W (r2x Ra.out) (r2y Ra.out) ha.symm).mono ?_
   rintro e w0 ⟨rfl, bw0⟩
   have zbw0 := bw0.size
   replace BB := also BB bw0
   replace x_a := x_a.on bw0
   replace x_b := x_b.on bw0
   replace x_c := x_c.on bw0
   replace x_d := x_d.on bw0
   have ⟨x_a_0, x_a_1, x_a_2, x_a_3⟩ := x_a
   have ⟨x_b_0, x_b_1, x_b_2, x_b_3⟩ := x_b
   have ⟨x_c_0, x_c_1, x_c_2, x_c_3⟩ := x_c
   have ⟨x_d_0, x_d_1, x_d_2, x_d_3⟩ := x_d
   go_wp2_with (go_at_call 19; fail)
   refine (rlCan b1 b2 w0 (r2x Rb.out) (r2y Rb.out) hb.symm).mono ?_
   rintro e w1 ⟨rfl, bw1⟩
   clear x_a_0 x_a_1 x_a_2 x_a_3 x_b_0 x_b_1 x_b_2 x_b_3 x_c_0 x_c_1 x_c_2 x_c_3 x_d_0 x_d_1 x_d_2 x_d_3
   have zbw1 := bw1.size
   replace BB := also BB bw1
   replace x_a := x_a.on bw1
   replace x_b := x_b.on bw1
   replace x_c := x_c.on bw1
   replace x_d := x_d.on bw1
   have ⟨x_a_0, x_a_1, x_a_2, x_a_3⟩ := x_a
   have ⟨x_b_0, x_b_1, x_b_2, x_b_3⟩ := x_b
   have ⟨x_c_0, x_c_1, x_c_2, x_c_3⟩ := x_c
   have ⟨x_d_0, x_d_1, x_d_2, x_d_3⟩ := x_d
   go_wp2
   go_ret
   exact ⟨rfl, BB⟩
  ·skip
   cases hc : canC c1 c2
   ·skip
    obtain rfl : r = false := by rw [hr]; simp [canAll, ha, hb, hc]
    clear hr
    obtain ⟨W, hW, bW, x_a, x_b, x_c, x_d, sW⟩ := bs_2222 w (.int .i64 a1) (.int .i64 a2) (.int .i64 b1) (.int .i64 b2) (.int .i64 c1) (.int .i64 c2) (.int .i64 d1) (.int .i64 d2) 31 31 31 31
    have zbW := bW.size
    have BB := bW
    go_enter Try.func21, Try.ntmps21
    go_wp2_with (go_at_call 19; fail)
    rw [← hW]
    clear hW
    refine (rlCan a1 a2 W (r2x Ra.out) (r2y Ra.out) ha.symm).mono ?_
    rintro e w0 ⟨rfl, bw0⟩
    have zbw0 := bw0.size
    replace BB := also BB bw0
    replace x_a := x_a.on bw0
    replace x_b := x_b.on bw0
    replace x_c := x_c.on bw0
    replace x_d := x_d.on bw0
    have ⟨x_a_0, x_a_1, x_a_2, x_a_3⟩ := x_a
    have ⟨x_b_0, x_b_1, x_b_2, x_b_3⟩ := x_b
    have ⟨x_c_0, x_c_1, x_c_2, x_c_3⟩ := x_c
    have ⟨x_d_0, x_d_1, x_d_2, x_d_3⟩ := x_d
    go_wp2_with (go_at_call 19; fail)
    refine (rlCan b1 b2 w0 (r2x Rb.out) (r2y Rb.out) hb.symm).mono ?_
    rintro e w1 ⟨rfl, bw1⟩
    clear x_a_0 x_a_1 x_a_2 x_a_3 x_b_0 x_b_1 x_b_2 x_b_3 x_c_0 x_c_1 x_c_2 x_c_3 x_d_0 x_d_1 x_d_2 x_d_3
    have zbw1 := bw1.size
    replace BB := also BB bw1
    replace x_a := x_a.on bw1
    replace x_b := x_b.on bw1
    replace x_c := x_c.on bw1
    replace x_d := x_d.on bw1
    have ⟨x_a_0, x_a_1, x_a_2, x_a_3⟩ := x_a
    have ⟨x_b_0, x_b_1, x_b_2, x_b_3⟩ := x_b
    have ⟨x_c_0, x_c_1, x_c_2, x_c_3⟩ := x_c
    have ⟨x_d_0, x_d_1, x_d_2, x_d_3⟩ := x_d
    go_wp2_with (go_at_call 19; fail)
    refine (rlCan c1 c2 w1 (r2x Rc.out) (r2y Rc.out) hc.symm).mono ?_
    rintro e w2 ⟨rfl, bw2⟩
    clear x_a_0 x_a_1 x_a_2 x_a_3 x_b_0 x_b_1 x_b_2 x_b_3 x_c_0 x_c_1 x_c_2 x_c_3 x_d_0 x_d_1 x_d_2 x_d_3
    have zbw2 := bw2.size
    replace BB := also BB bw2
    replace x_a := x_a.on bw2
    replace x_b := x_b.on bw2
    replace x_c := x_c.on bw2
    replace x_d := x_d.on bw2
    have ⟨x_a_0, x_a_1, x_a_2, x_a_3⟩ := x_a
    have ⟨x_b_0, x_b_1, x_b_2, x_b_3⟩ := x_b
    have ⟨x_c_0, x_c_1, x_c_2, x_c_3⟩ := x_c
    have ⟨x_d_0, x_d_1, x_d_2, x_d_3⟩ := x_d
    go_wp2
    go_ret
    exact ⟨rfl, BB⟩
   ·skip
    cases hd : canC d1 d2
    ·skip
     obtain rfl : r = false := by rw [hr]; simp [canAll, ha, hb, hc, hd]
     clear hr
     obtain ⟨W, hW, bW, x_a, x_b, x_c, x_d, sW⟩ := bs_2222 w (.int .i64 a1) (.int .i64 a2) (.int .i64 b1) (.int .i64 b2) (.int .i64 c1) (.int .i64 c2) (.int .i64 d1) (.int .i64 d2) 31 31 31 31
     have zbW := bW.size
     have BB := bW
     go_enter Try.func21, Try.ntmps21
     go_wp2_with (go_at_call 19; fail)
     rw [← hW]
     clear hW
     refine (rlCan a1 a2 W (r2x Ra.out) (r2y Ra.out) ha.symm).mono ?_
     rintro e w0 ⟨rfl, bw0⟩
     have zbw0 := bw0.size
     replace BB := also BB bw0
     replace x_a := x_a.on bw0
     replace x_b := x_b.on bw0
     replace x_c := x_c.on bw0
     replace x_d := x_d.on bw0
     have ⟨x_a_0, x_a_1, x_a_2, x_a_3⟩ := x_a
     have ⟨x_b_0, x_b_1, x_b_2, x_b_3⟩ := x_b
     have ⟨x_c_0, x_c_1, x_c_2, x_c_3⟩ := x_c
     have ⟨x_d_0, x_d_1, x_d_2, x_d_3⟩ := x_d
     go_wp2_with (go_at_call 19; fail)
     refine (rlCan b1 b2 w0 (r2x Rb.out) (r2y Rb.out) hb.symm).mono ?_
     rintro e w1 ⟨rfl, bw1⟩
     clear x_a_0 x_a_1 x_a_2 x_a_3 x_b_0 x_b_1 x_b_2 x_b_3 x_c_0 x_c_1 x_c_2 x_c_3 x_d_0 x_d_1 x_d_2 x_d_3
     have zbw1 := bw1.size
     replace BB := also BB bw1
     replace x_a := x_a.on bw1
     replace x_b := x_b.on bw1
     replace x_c := x_c.on bw1
     replace x_d := x_d.on bw1
     have ⟨x_a_0, x_a_1, x_a_2, x_a_3⟩ := x_a
     have ⟨x_b_0, x_b_1, x_b_2, x_b_3⟩ := x_b
     have ⟨x_c_0, x_c_1, x_c_2, x_c_3⟩ := x_c
     have ⟨x_d_0, x_d_1, x_d_2, x_d_3⟩ := x_d
     go_wp2_with (go_at_call 19; fail)
     refine (rlCan c1 c2 w1 (r2x Rc.out) (r2y Rc.out) hc.symm).mono ?_
     rintro e w2 ⟨rfl, bw2⟩
     clear x_a_0 x_a_1 x_a_2 x_a_3 x_b_0 x_b_1 x_b_2 x_b_3 x_c_0 x_c_1 x_c_2 x_c_3 x_d_0 x_d_1 x_d_2 x_d_3
     have zbw2 := bw2.size
     replace BB := also BB bw2
     replace x_a := x_a.on bw2
     replace x_b := x_b.on bw2
     replace x_c := x_c.on bw2
     replace x_d := x_d.on bw2
     have ⟨x_a_0, x_a_1, x_a_2, x_a_3⟩ := x_a
     have ⟨x_b_0, x_b_1, x_b_2, x_b_3⟩ := x_b
     have ⟨x_c_0, x_c_1, x_c_2, x_c_3⟩ := x_c
     have ⟨x_d_0, x_d_1, x_d_2, x_d_3⟩ := x_d
     go_wp2_with (go_at_call 19; fail)
     refine (rlCan d1 d2 w2 (r2x Rd.out) (r2y Rd.out) hd.symm).mono ?_
     rintro e w3 ⟨rfl, bw3⟩
     clear x_a_0 x_a_1 x_a_2 x_a_3 x_b_0 x_b_1 x_b_2 x_b_3 x_c_0 x_c_1 x_c_2 x_c_3 x_d_0 x_d_1 x_d_2 x_d_3
     have zbw3 := bw3.size
     replace BB := also BB bw3
     replace x_a := x_a.on bw3
     replace x_b := x_b.on bw3
     replace x_c := x_c.on bw3
     replace x_d := x_d.on bw3
     have ⟨x_a_0, x_a_1, x_a_2, x_a_3⟩ := x_a
     have ⟨x_b_0, x_b_1, x_b_2, x_b_3⟩ := x_b
     have ⟨x_c_0, x_c_1, x_c_2, x_c_3⟩ := x_c
     have ⟨x_d_0, x_d_1, x_d_2, x_d_3⟩ := x_d
     go_wp2
     go_ret
     exact ⟨rfl, BB⟩
    ·skip
     obtain rfl : r = true := by rw [hr]; simp [canAll, ha, hb, hc, hd]
     clear hr
     obtain ⟨W, hW, bW, x_a, x_b, x_c, x_d, sW⟩ := bs_2222 w (.int .i64 a1) (.int .i64 a2) (.int .i64 b1) (.int .i64 b2) (.int .i64 c1) (.int .i64 c2) (.int .i64 d1) (.int .i64 d2) 31 31 31 31
     have zbW := bW.size
     have BB := bW
     go_enter Try.func21, Try.ntmps21
     go_wp2_with (go_at_call 19; fail)
     rw [← hW]
     clear hW
     refine (rlCan a1 a2 W (r2x Ra.out) (r2y Ra.out) ha.symm).mono ?_
     rintro e w0 ⟨rfl, bw0⟩
     have zbw0 := bw0.size
     replace BB := also BB bw0
     replace x_a := x_a.on bw0
     replace x_b := x_b.on bw0
     replace x_c := x_c.on bw0
     replace x_d := x_d.on bw0
     have ⟨x_a_0, x_a_1, x_a_2, x_a_3⟩ := x_a
     have ⟨x_b_0, x_b_1, x_b_2, x_b_3⟩ := x_b
     have ⟨x_c_0, x_c_1, x_c_2, x_c_3⟩ := x_c
     have ⟨x_d_0, x_d_1, x_d_2, x_d_3⟩ := x_d
     go_wp2_with (go_at_call 19; fail)
     refine (rlCan b1 b2 w0 (r2x Rb.out) (r2y Rb.out) hb.symm).mono ?_
     rintro e w1 ⟨rfl, bw1⟩
     clear x_a_0 x_a_1 x_a_2 x_a_3 x_b_0 x_b_1 x_b_2 x_b_3 x_c_0 x_c_1 x_c_2 x_c_3 x_d_0 x_d_1 x_d_2 x_d_3
     have zbw1 := bw1.size
     replace BB := also BB bw1
     replace x_a := x_a.on bw1
     replace x_b := x_b.on bw1
     replace x_c := x_c.on bw1
     replace x_d := x_d.on bw1
     have ⟨x_a_0, x_a_1, x_a_2, x_a_3⟩ := x_a
     have ⟨x_b_0, x_b_1, x_b_2, x_b_3⟩ := x_b
     have ⟨x_c_0, x_c_1, x_c_2, x_c_3⟩ := x_c
     have ⟨x_d_0, x_d_1, x_d_2, x_d_3⟩ := x_d
     go_wp2_with (go_at_call 19; fail)
     refine (rlCan c1 c2 w1 (r2x Rc.out) (r2y Rc.out) hc.symm).mono ?_
     rintro e w2 ⟨rfl, bw2⟩
     clear x_a_0 x_a_1 x_a_2 x_a_3 x_b_0 x_b_1 x_b_2 x_b_3 x_c_0 x_c_1 x_c_2 x_c_3 x_d_0 x_d_1 x_d_2 x_d_3
     have zbw2 := bw2.size
     replace BB := also BB bw2
     replace x_a := x_a.on bw2
     replace x_b := x_b.on bw2
     replace x_c := x_c.on bw2
     replace x_d := x_d.on bw2
     have ⟨x_a_0, x_a_1, x_a_2, x_a_3⟩ := x_a
     have ⟨x_b_0, x_b_1, x_b_2, x_b_3⟩ := x_b
     have ⟨x_c_0, x_c_1, x_c_2, x_c_3⟩ := x_c
     have ⟨x_d_0, x_d_1, x_d_2, x_d_3⟩ := x_d
     go_wp2_with (go_at_call 19; fail)
     refine (rlCan d1 d2 w2 (r2x Rd.out) (r2y Rd.out) hd.symm).mono ?_
     rintro e w3 ⟨rfl, bw3⟩
     clear x_a_0 x_a_1 x_a_2 x_a_3 x_b_0 x_b_1 x_b_2 x_b_3 x_c_0 x_c_1 x_c_2 x_c_3 x_d_0 x_d_1 x_d_2 x_d_3
     have zbw3 := bw3.size
     replace BB := also BB bw3
     replace x_a := x_a.on bw3
     replace x_b := x_b.on bw3
     replace x_c := x_c.on bw3
     replace x_d := x_d.on bw3
     have ⟨x_a_0, x_a_1, x_a_2, x_a_3⟩ := x_a
     have ⟨x_b_0, x_b_1, x_b_2, x_b_3⟩ := x_b
     have ⟨x_c_0, x_c_1, x_c_2, x_c_3⟩ := x_c
     have ⟨x_d_0, x_d_1, x_d_2, x_d_3⟩ := x_d
     go_wp2
     go_ret
     exact ⟨rfl, BB⟩
set_option maxRecDepth 100000 in
set_option maxHeartbeats 8000000 in
theorem rtLast (d1 d2 a1 a2 b1 b2 c1 c2 : Int) (w : World)  {r : Bool} (hr : r = lastQ (d1, d2) (a1, a2) (b1, b2) (c1, c2)) :
  Calls Try.prog 23 #[.agg #[.int .i64 d1, .int .i64 d2], .agg #[.int .i64 a1, .int .i64 a2], .agg #[.int .i64 b1, .int .i64 b2], .agg #[.int .i64 c1, .int .i64 c2]] w fun e w' => e = .returned (.bool r) ∧ Below w.heap.size w w' := by
 cases ha : ltQ (a1, a2) (d1, d2)
 ·skip
  obtain rfl : r = false := by rw [hr]; simp [lastQ, ha]
  obtain ⟨g0, hg0⟩ : ∃ g, g = cmpP d1 d2 a1 a2 := ⟨_, rfl⟩
  have pg0 : (0 < g0) = False := by rw [hg0]; exact eq_false (cmp_not ha)
  have G0 : Hid _ := hg0
  clear hg0
  clear hr
  obtain ⟨W, hW, bW, x_d, x_a, x_b, x_c, sW⟩ := bs_2222 w (.int .i64 d1) (.int .i64 d2) (.int .i64 a1) (.int .i64 a2) (.int .i64 b1) (.int .i64 b2) (.int .i64 c1) (.int .i64 c2) 31 31 31 31
  have zbW := bW.size
  have BB := bW
  go_enter Try.func23, Try.ntmps23
  go_wp2_with (go_at_call 40; fail)
  rw [← hW]
  clear hW
  refine (rlCmp d1 d2 a1 a2 W G0.out).mono ?_
  rintro e w0 ⟨rfl, bw0⟩
  have zbw0 := bw0.size
  replace BB := also BB bw0
  replace x_d := x_d.on bw0
  replace x_a := x_a.on bw0
  replace x_b := x_b.on bw0
  replace x_c := x_c.on bw0
  have ⟨x_a_0, x_a_1, x_a_2, x_a_3⟩ := x_a
  have ⟨x_b_0, x_b_1, x_b_2, x_b_3⟩ := x_b
  have ⟨x_c_0, x_c_1, x_c_2, x_c_3⟩ := x_c
  have ⟨x_d_0, x_d_1, x_d_2, x_d_3⟩ := x_d
  go_wp2
  go_ret
  exact ⟨rfl, BB⟩
 ·skip
  cases hb : ltQ (b1, b2) (d1, d2)
  ·skip
   obtain rfl : r = false := by rw [hr]; simp [lastQ, ha, hb]
   obtain ⟨g0, hg0⟩ : ∃ g, g = cmpP d1 d2 a1 a2 := ⟨_, rfl⟩
   have pg0 : (0 < g0) = True := by rw [hg0]; exact eq_true (cmp_yes ha)
   have G0 : Hid _ := hg0
   clear hg0
   obtain ⟨g1, hg1⟩ : ∃ g, g = cmpP d1 d2 b1 b2 := ⟨_, rfl⟩
   have pg1 : (0 < g1) = False := by rw [hg1]; exact eq_false (cmp_not hb)
   have G1 : Hid _ := hg1
   clear hg1
   clear hr
   obtain ⟨W, hW, bW, x_d, x_a, x_b, x_c, sW⟩ := bs_2222 w (.int .i64 d1) (.int .i64 d2) (.int .i64 a1) (.int .i64 a2) (.int .i64 b1) (.int .i64 b2) (.int .i64 c1) (.int .i64 c2) 31 31 31 31
   have zbW := bW.size
   have BB := bW
   go_enter Try.func23, Try.ntmps23
   go_wp2_with (go_at_call 40; fail)
   rw [← hW]
   clear hW
   refine (rlCmp d1 d2 a1 a2 W G0.out).mono ?_
   rintro e w0 ⟨rfl, bw0⟩
   have zbw0 := bw0.size
   replace BB := also BB bw0
   replace x_d := x_d.on bw0
   replace x_a := x_a.on bw0
   replace x_b := x_b.on bw0
   replace x_c := x_c.on bw0
   have ⟨x_a_0, x_a_1, x_a_2, x_a_3⟩ := x_a
   have ⟨x_b_0, x_b_1, x_b_2, x_b_3⟩ := x_b
   have ⟨x_c_0, x_c_1, x_c_2, x_c_3⟩ := x_c
   have ⟨x_d_0, x_d_1, x_d_2, x_d_3⟩ := x_d
   go_wp2_with (go_at_call 40; fail)
   refine (rlCmp d1 d2 b1 b2 w0 G1.out).mono ?_
   rintro e w1 ⟨rfl, bw1⟩
   clear x_a_0 x_a_1 x_a_2 x_a_3 x_b_0 x_b_1 x_b_2 x_b_3 x_c_0 x_c_1 x_c_2 x_c_3 x_d_0 x_d_1 x_d_2 x_d_3
   have zbw1 := bw1.size
   replace BB := also BB bw1
   replace x_d := x_d.on bw1
   replace x_a := x_a.on bw1
   replace x_b := x_b.on bw1
   replace x_c := x_c.on bw1
   have ⟨x_a_0, x_a_1, x_a_2, x_a_3⟩ := x_a
   have ⟨x_b_0, x_b_1, x_b_2, x_b_3⟩ := x_b
   have ⟨x_c_0, x_c_1, x_c_2, x_c_3⟩ := x_c
   have ⟨x_d_0, x_d_1, x_d_2, x_d_3⟩ := x_d
   go_wp2
   go_ret
   exact ⟨rfl, BB⟩
  ·skip
   cases hc : ltQ (c1, c2) (d1, d2)
   ·skip
    obtain rfl : r = false := by rw [hr]; simp [lastQ, ha, hb, hc]
    obtain ⟨g0, hg0⟩ : ∃ g, g = cmpP d1 d2 a1 a2 := ⟨_, rfl⟩
    have pg0 : (0 < g0) = True := by rw [hg0]; exact eq_true (cmp_yes ha)
    have G0 : Hid _ := hg0
    clear hg0
    obtain ⟨g1, hg1⟩ : ∃ g, g = cmpP d1 d2 b1 b2 := ⟨_, rfl⟩
    have pg1 : (0 < g1) = True := by rw [hg1]; exact eq_true (cmp_yes hb)
    have G1 : Hid _ := hg1
    clear hg1
    obtain ⟨g2, hg2⟩ : ∃ g, g = cmpP d1 d2 c1 c2 := ⟨_, rfl⟩
    have pg2 : (0 < g2) = False := by rw [hg2]; exact eq_false (cmp_not hc)
    have G2 : Hid _ := hg2
    clear hg2
    clear hr
    obtain ⟨W, hW, bW, x_d, x_a, x_b, x_c, sW⟩ := bs_2222 w (.int .i64 d1) (.int .i64 d2) (.int .i64 a1) (.int .i64 a2) (.int .i64 b1) (.int .i64 b2) (.int .i64 c1) (.int .i64 c2) 31 31 31 31
    have zbW := bW.size
    have BB := bW
    go_enter Try.func23, Try.ntmps23
    go_wp2_with (go_at_call 40; fail)
    rw [← hW]
    clear hW
    refine (rlCmp d1 d2 a1 a2 W G0.out).mono ?_
    rintro e w0 ⟨rfl, bw0⟩
    have zbw0 := bw0.size
    replace BB := also BB bw0
    replace x_d := x_d.on bw0
    replace x_a := x_a.on bw0
    replace x_b := x_b.on bw0
    replace x_c := x_c.on bw0
    have ⟨x_a_0, x_a_1, x_a_2, x_a_3⟩ := x_a
    have ⟨x_b_0, x_b_1, x_b_2, x_b_3⟩ := x_b
    have ⟨x_c_0, x_c_1, x_c_2, x_c_3⟩ := x_c
    have ⟨x_d_0, x_d_1, x_d_2, x_d_3⟩ := x_d
    go_wp2_with (go_at_call 40; fail)
    refine (rlCmp d1 d2 b1 b2 w0 G1.out).mono ?_
    rintro e w1 ⟨rfl, bw1⟩
    clear x_a_0 x_a_1 x_a_2 x_a_3 x_b_0 x_b_1 x_b_2 x_b_3 x_c_0 x_c_1 x_c_2 x_c_3 x_d_0 x_d_1 x_d_2 x_d_3
    have zbw1 := bw1.size
    replace BB := also BB bw1
    replace x_d := x_d.on bw1
    replace x_a := x_a.on bw1
    replace x_b := x_b.on bw1
    replace x_c := x_c.on bw1
    have ⟨x_a_0, x_a_1, x_a_2, x_a_3⟩ := x_a
    have ⟨x_b_0, x_b_1, x_b_2, x_b_3⟩ := x_b
    have ⟨x_c_0, x_c_1, x_c_2, x_c_3⟩ := x_c
    have ⟨x_d_0, x_d_1, x_d_2, x_d_3⟩ := x_d
    go_wp2_with (go_at_call 40; fail)
    refine (rlCmp d1 d2 c1 c2 w1 G2.out).mono ?_
    rintro e w2 ⟨rfl, bw2⟩
    clear x_a_0 x_a_1 x_a_2 x_a_3 x_b_0 x_b_1 x_b_2 x_b_3 x_c_0 x_c_1 x_c_2 x_c_3 x_d_0 x_d_1 x_d_2 x_d_3
    have zbw2 := bw2.size
    replace BB := also BB bw2
    replace x_d := x_d.on bw2
    replace x_a := x_a.on bw2
    replace x_b := x_b.on bw2
    replace x_c := x_c.on bw2
    have ⟨x_a_0, x_a_1, x_a_2, x_a_3⟩ := x_a
    have ⟨x_b_0, x_b_1, x_b_2, x_b_3⟩ := x_b
    have ⟨x_c_0, x_c_1, x_c_2, x_c_3⟩ := x_c
    have ⟨x_d_0, x_d_1, x_d_2, x_d_3⟩ := x_d
    go_wp2
    go_ret
    exact ⟨rfl, BB⟩
   ·skip
    obtain rfl : r = true := by rw [hr]; simp [lastQ, ha, hb, hc]
    obtain ⟨g0, hg0⟩ : ∃ g, g = cmpP d1 d2 a1 a2 := ⟨_, rfl⟩
    have pg0 : (0 < g0) = True := by rw [hg0]; exact eq_true (cmp_yes ha)
    have G0 : Hid _ := hg0
    clear hg0
    obtain ⟨g1, hg1⟩ : ∃ g, g = cmpP d1 d2 b1 b2 := ⟨_, rfl⟩
    have pg1 : (0 < g1) = True := by rw [hg1]; exact eq_true (cmp_yes hb)
    have G1 : Hid _ := hg1
    clear hg1
    obtain ⟨g2, hg2⟩ : ∃ g, g = cmpP d1 d2 c1 c2 := ⟨_, rfl⟩
    have pg2 : (0 < g2) = True := by rw [hg2]; exact eq_true (cmp_yes hc)
    have G2 : Hid _ := hg2
    clear hg2
    clear hr
    obtain ⟨W, hW, bW, x_d, x_a, x_b, x_c, sW⟩ := bs_2222 w (.int .i64 d1) (.int .i64 d2) (.int .i64 a1) (.int .i64 a2) (.int .i64 b1) (.int .i64 b2) (.int .i64 c1) (.int .i64 c2) 31 31 31 31
    have zbW := bW.size
    have BB := bW
    go_enter Try.func23, Try.ntmps23
    go_wp2_with (go_at_call 40; fail)
    rw [← hW]
    clear hW
    refine (rlCmp d1 d2 a1 a2 W G0.out).mono ?_
    rintro e w0 ⟨rfl, bw0⟩
    have zbw0 := bw0.size
    replace BB := also BB bw0
    replace x_d := x_d.on bw0
    replace x_a := x_a.on bw0
    replace x_b := x_b.on bw0
    replace x_c := x_c.on bw0
    have ⟨x_a_0, x_a_1, x_a_2, x_a_3⟩ := x_a
    have ⟨x_b_0, x_b_1, x_b_2, x_b_3⟩ := x_b
    have ⟨x_c_0, x_c_1, x_c_2, x_c_3⟩ := x_c
    have ⟨x_d_0, x_d_1, x_d_2, x_d_3⟩ := x_d
    go_wp2_with (go_at_call 40; fail)
    refine (rlCmp d1 d2 b1 b2 w0 G1.out).mono ?_
    rintro e w1 ⟨rfl, bw1⟩
    clear x_a_0 x_a_1 x_a_2 x_a_3 x_b_0 x_b_1 x_b_2 x_b_3 x_c_0 x_c_1 x_c_2 x_c_3 x_d_0 x_d_1 x_d_2 x_d_3
    have zbw1 := bw1.size
    replace BB := also BB bw1
    replace x_d := x_d.on bw1
    replace x_a := x_a.on bw1
    replace x_b := x_b.on bw1
    replace x_c := x_c.on bw1
    have ⟨x_a_0, x_a_1, x_a_2, x_a_3⟩ := x_a
    have ⟨x_b_0, x_b_1, x_b_2, x_b_3⟩ := x_b
    have ⟨x_c_0, x_c_1, x_c_2, x_c_3⟩ := x_c
    have ⟨x_d_0, x_d_1, x_d_2, x_d_3⟩ := x_d
    go_wp2_with (go_at_call 40; fail)
    refine (rlCmp d1 d2 c1 c2 w1 G2.out).mono ?_
    rintro e w2 ⟨rfl, bw2⟩
    clear x_a_0 x_a_1 x_a_2 x_a_3 x_b_0 x_b_1 x_b_2 x_b_3 x_c_0 x_c_1 x_c_2 x_c_3 x_d_0 x_d_1 x_d_2 x_d_3
    have zbw2 := bw2.size
    replace BB := also BB bw2
    replace x_d := x_d.on bw2
    replace x_a := x_a.on bw2
    replace x_b := x_b.on bw2
    replace x_c := x_c.on bw2
    have ⟨x_a_0, x_a_1, x_a_2, x_a_3⟩ := x_a
    have ⟨x_b_0, x_b_1, x_b_2, x_b_3⟩ := x_b
    have ⟨x_c_0, x_c_1, x_c_2, x_c_3⟩ := x_c
    have ⟨x_d_0, x_d_1, x_d_2, x_d_3⟩ := x_d
    go_wp2
    go_ret
    exact ⟨rfl, BB⟩
set_option maxRecDepth 100000 in
set_option maxHeartbeats 8000000 in
theorem rtLeft (a1 a2 b1 b2 c1 c2 : Int) (w : World) (Ra : Hid (R2 (a1, a2))) (Rb : Hid (R2 (b1, b2))) (Rc : Hid (R2 (c1, c2))) {r : Bool} (hr : r = leftQ (a1, a2) (b1, b2) (c1, c2)) :
  Calls Try.prog 14 #[.agg #[.int .i64 a1, .int .i64 a2], .agg #[.int .i64 b1, .int .i64 b2], .agg #[.int .i64 c1, .int .i64 c2]] w fun e w' => e = .returned (.bool r) ∧ Below w.heap.size w w' := by
 cases ha : canC a1 a2
 ·skip
  obtain rfl : r = false := by rw [hr, ← Bool.not_eq_true, left_iff]; rintro ⟨k1, k2, k3, _⟩; simp_all
  clear hr
  obtain ⟨W, hW, bW, x_a, x_b, x_c, sW⟩ := bs_222 w (.int .i64 a1) (.int .i64 a2) (.int .i64 b1) (.int .i64 b2) (.int .i64 c1) (.int .i64 c2) 31 31 31
  have zbW := bW.size
  have BB := bW
  go_enter Try.func14, Try.ntmps14
  go_wp2_with (go_at_call 19; fail)
  rw [← hW]
  clear hW
  refine (rlCan a1 a2 W (r2x Ra.out) (r2y Ra.out) ha.symm).mono ?_
  rintro e w0 ⟨rfl, bw0⟩
  have zbw0 := bw0.size
  replace BB := also BB bw0
  replace x_a := x_a.on bw0
  replace x_b := x_b.on bw0
  replace x_c := x_c.on bw0
  have ⟨x_a_0, x_a_1, x_a_2, x_a_3⟩ := x_a
  have ⟨x_b_0, x_b_1, x_b_2, x_b_3⟩ := x_b
  have ⟨x_c_0, x_c_1, x_c_2, x_c_3⟩ := x_c
  go_wp2
  go_ret
  exact ⟨rfl, BB⟩
 ·skip
  cases hb : canC b1 b2
  ·skip
   obtain rfl : r = false := by rw [hr, ← Bool.not_eq_true, left_iff]; rintro ⟨k1, k2, k3, _⟩; simp_all
   clear hr
   obtain ⟨W, hW, bW, x_a, x_b, x_c, sW⟩ := bs_222 w (.int .i64 a1) (.int .i64 a2) (.int .i64 b1) (.int .i64 b2) (.int .i64 c1) (.int .i64 c2) 31 31 31
   have zbW := bW.size
   have BB := bW
   go_enter Try.func14, Try.ntmps14
   go_wp2_with (go_at_call 19; fail)
   rw [← hW]
   clear hW
   refine (rlCan a1 a2 W (r2x Ra.out) (r2y Ra.out) ha.symm).mono ?_
   rintro e w0 ⟨rfl, bw0⟩
   have zbw0 := bw0.size
   replace BB := also BB bw0
   replace x_a := x_a.on bw0
   replace x_b := x_b.on bw0
   replace x_c := x_c.on bw0
   have ⟨x_a_0, x_a_1, x_a_2, x_a_3⟩ := x_a
   have ⟨x_b_0, x_b_1, x_b_2, x_b_3⟩ := x_b
   have ⟨x_c_0, x_c_1, x_c_2, x_c_3⟩ := x_c
   go_wp2_with (go_at_call 19; fail)
   refine (rlCan b1 b2 w0 (r2x Rb.out) (r2y Rb.out) hb.symm).mono ?_
   rintro e w1 ⟨rfl, bw1⟩
   clear x_a_0 x_a_1 x_a_2 x_a_3 x_b_0 x_b_1 x_b_2 x_b_3 x_c_0 x_c_1 x_c_2 x_c_3
   have zbw1 := bw1.size
   replace BB := also BB bw1
   replace x_a := x_a.on bw1
   replace x_b := x_b.on bw1
   replace x_c := x_c.on bw1
   have ⟨x_a_0, x_a_1, x_a_2, x_a_3⟩ := x_a
   have ⟨x_b_0, x_b_1, x_b_2, x_b_3⟩ := x_b
   have ⟨x_c_0, x_c_1, x_c_2, x_c_3⟩ := x_c
   go_wp2
   go_ret
   exact ⟨rfl, BB⟩
  ·skip
   cases hc : canC c1 c2
   ·skip
    obtain rfl : r = false := by rw [hr, ← Bool.not_eq_true, left_iff]; rintro ⟨k1, k2, k3, _⟩; simp_all
    clear hr
    obtain ⟨W, hW, bW, x_a, x_b, x_c, sW⟩ := bs_222 w (.int .i64 a1) (.int .i64 a2) (.int .i64 b1) (.int .i64 b2) (.int .i64 c1) (.int .i64 c2) 31 31 31
    have zbW := bW.size
    have BB := bW
    go_enter Try.func14, Try.ntmps14
    go_wp2_with (go_at_call 19; fail)
    rw [← hW]
    clear hW
    refine (rlCan a1 a2 W (r2x Ra.out) (r2y Ra.out) ha.symm).mono ?_
    rintro e w0 ⟨rfl, bw0⟩
    have zbw0 := bw0.size
    replace BB := also BB bw0
    replace x_a := x_a.on bw0
    replace x_b := x_b.on bw0
    replace x_c := x_c.on bw0
    have ⟨x_a_0, x_a_1, x_a_2, x_a_3⟩ := x_a
    have ⟨x_b_0, x_b_1, x_b_2, x_b_3⟩ := x_b
    have ⟨x_c_0, x_c_1, x_c_2, x_c_3⟩ := x_c
    go_wp2_with (go_at_call 19; fail)
    refine (rlCan b1 b2 w0 (r2x Rb.out) (r2y Rb.out) hb.symm).mono ?_
    rintro e w1 ⟨rfl, bw1⟩
    clear x_a_0 x_a_1 x_a_2 x_a_3 x_b_0 x_b_1 x_b_2 x_b_3 x_c_0 x_c_1 x_c_2 x_c_3
    have zbw1 := bw1.size
    replace BB := also BB bw1
    replace x_a := x_a.on bw1
    replace x_b := x_b.on bw1
    replace x_c := x_c.on bw1
    have ⟨x_a_0, x_a_1, x_a_2, x_a_3⟩ := x_a
    have ⟨x_b_0, x_b_1, x_b_2, x_b_3⟩ := x_b
    have ⟨x_c_0, x_c_1, x_c_2, x_c_3⟩ := x_c
    go_wp2_with (go_at_call 19; fail)
    refine (rlCan c1 c2 w1 (r2x Rc.out) (r2y Rc.out) hc.symm).mono ?_
    rintro e w2 ⟨rfl, bw2⟩
    clear x_a_0 x_a_1 x_a_2 x_a_3 x_b_0 x_b_1 x_b_2 x_b_3 x_c_0 x_c_1 x_c_2 x_c_3
    have zbw2 := bw2.size
    replace BB := also BB bw2
    replace x_a := x_a.on bw2
    replace x_b := x_b.on bw2
    replace x_c := x_c.on bw2
    have ⟨x_a_0, x_a_1, x_a_2, x_a_3⟩ := x_a
    have ⟨x_b_0, x_b_1, x_b_2, x_b_3⟩ := x_b
    have ⟨x_c_0, x_c_1, x_c_2, x_c_3⟩ := x_c
    go_wp2
    go_ret
    exact ⟨rfl, BB⟩
   ·skip
    rw [left_area ha hb hc] at hr
    obtain ⟨g, hg⟩ : ∃ g, g = (areaP a1 a2 b1 b2 c1 c2).sign := ⟨_, rfl⟩
    dsimp only at hr
    rw [← hg] at hr
    have G : Hid _ := hg
    have HR : Hid _ := hr
    clear hg
    clear hr
    obtain ⟨W, hW, bW, x_a, x_b, x_c, sW⟩ := bs_222 w (.int .i64 a1) (.int .i64 a2) (.int .i64 b1) (.int .i64 b2) (.int .i64 c1) (.int .i64 c2) 31 31 31
    have zbW := bW.size
    have BB := bW
    go_enter Try.func14, Try.ntmps14
    go_wp2_with (go_at_call 19; fail)
    rw [← hW]
    clear hW
    refine (rlCan a1 a2 W (r2x Ra.out) (r2y Ra.out) ha.symm).mono ?_
    rintro e w0 ⟨rfl, bw0⟩
    have zbw0 := bw0.size
    replace BB := also BB bw0
    replace x_a := x_a.on bw0
    replace x_b := x_b.on bw0
    replace x_c := x_c.on bw0
    have ⟨x_a_0, x_a_1, x_a_2, x_a_3⟩ := x_a
    have ⟨x_b_0, x_b_1, x_b_2, x_b_3⟩ := x_b
    have ⟨x_c_0, x_c_1, x_c_2, x_c_3⟩ := x_c
    go_wp2_with (go_at_call 19; fail)
    refine (rlCan b1 b2 w0 (r2x Rb.out) (r2y Rb.out) hb.symm).mono ?_
    rintro e w1 ⟨rfl, bw1⟩
    clear x_a_0 x_a_1 x_a_2 x_a_3 x_b_0 x_b_1 x_b_2 x_b_3 x_c_0 x_c_1 x_c_2 x_c_3
    have zbw1 := bw1.size
    replace BB := also BB bw1
    replace x_a := x_a.on bw1
    replace x_b := x_b.on bw1
    replace x_c := x_c.on bw1
    have ⟨x_a_0, x_a_1, x_a_2, x_a_3⟩ := x_a
    have ⟨x_b_0, x_b_1, x_b_2, x_b_3⟩ := x_b
    have ⟨x_c_0, x_c_1, x_c_2, x_c_3⟩ := x_c
    go_wp2_with (go_at_call 19; fail)
    refine (rlCan c1 c2 w1 (r2x Rc.out) (r2y Rc.out) hc.symm).mono ?_
    rintro e w2 ⟨rfl, bw2⟩
    clear x_a_0 x_a_1 x_a_2 x_a_3 x_b_0 x_b_1 x_b_2 x_b_3 x_c_0 x_c_1 x_c_2 x_c_3
    have zbw2 := bw2.size
    replace BB := also BB bw2
    replace x_a := x_a.on bw2
    replace x_b := x_b.on bw2
    replace x_c := x_c.on bw2
    have ⟨x_a_0, x_a_1, x_a_2, x_a_3⟩ := x_a
    have ⟨x_b_0, x_b_1, x_b_2, x_b_3⟩ := x_b
    have ⟨x_c_0, x_c_1, x_c_2, x_c_3⟩ := x_c
    go_wp2_with (go_at_call 20; fail)
    refine (rpOrient a1 a2 b1 b2 c1 c2 w2 ha hb hc G.out).mono ?_
    rintro e w8 ⟨rfl, bw8⟩
    clear x_a_0 x_a_1 x_a_2 x_a_3 x_b_0 x_b_1 x_b_2 x_b_3 x_c_0 x_c_1 x_c_2 x_c_3
    have zbw8 := bw8.size
    replace BB := also BB bw8
    replace x_a := x_a.on bw8
    replace x_b := x_b.on bw8
    replace x_c := x_c.on bw8
    go_wp2
    go_ret
    exact ⟨by rw [HR.out]; rfl, BB⟩
set_option maxRecDepth 100000 in
set_option maxHeartbeats 8000000 in
theorem rtConflict (a1 a2 b1 b2 c1 c2 d1 d2 : Int) (w : World) (Ra : Hid (R2 (a1, a2))) (Rb : Hid (R2 (b1, b2))) (Rc : Hid (R2 (c1, c2))) (Rd : Hid (R2 (d1, d2))) {r : Bool} (hr : r = cfQ (a1, a2) (b1, b2) (c1, c2) (d1, d2)) :
  Calls Try.prog 15 #[.agg #[.int .i64 a1, .int .i64 a2], .agg #[.int .i64 b1, .int .i64 b2], .agg #[.int .i64 c1, .int .i64 c2], .agg #[.int .i64 d1, .int .i64 d2]] w fun e w' => e = .returned (.bool r) ∧ Below w.heap.size w w' := by
 cases hq : canAll [(a1, a2), (b1, b2), (c1, c2), (d1, d2)]
 ·skip
  obtain rfl : r = false := by rw [hr, cf_no]; rintro ⟨h1, h2, _⟩; obtain ⟨k1, k2, k3, _⟩ := left_iff.1 h2; rw [can4.2 ⟨k1, k2, k3, h1⟩] at hq; cases hq
  try clear hr
  try clear hl
  have HQ : Hid _ := hq.symm
  clear hq
  obtain ⟨W, hW, bW, x_a, x_b, x_c, x_d, sW⟩ := bs_2222 w (.int .i64 a1) (.int .i64 a2) (.int .i64 b1) (.int .i64 b2) (.int .i64 c1) (.int .i64 c2) (.int .i64 d1) (.int .i64 d2) 31 31 31 31
  have zbW := bW.size
  have BB := bW
  go_enter Try.func15, Try.ntmps15
  go_wp2_with (go_at_call 21; fail)
  rw [← hW]
  clear hW
  refine (rtCan a1 a2 b1 b2 c1 c2 d1 d2 W Ra Rb Rc Rd HQ.out).mono ?_
  rintro e w1 ⟨rfl, bw1⟩
  have zbw1 := bw1.size
  replace BB := also BB bw1
  replace x_a := x_a.on bw1
  replace x_b := x_b.on bw1
  replace x_c := x_c.on bw1
  replace x_d := x_d.on bw1
  have ⟨x_a_0, x_a_1, x_a_2, x_a_3⟩ := x_a
  have ⟨x_b_0, x_b_1, x_b_2, x_b_3⟩ := x_b
  have ⟨x_c_0, x_c_1, x_c_2, x_c_3⟩ := x_c
  have ⟨x_d_0, x_d_1, x_d_2, x_d_3⟩ := x_d
  go_wp2
  go_ret
  exact ⟨rfl, BB⟩
 ·skip
  cases hl : leftQ (a1, a2) (b1, b2) (c1, c2)
  ·skip
   obtain ⟨ha, hb, hc, hd⟩ := can4.1 hq
   obtain rfl : r = false := by rw [hr, cf_no]; rintro ⟨_, h1, _⟩; rw [hl] at h1; cases h1
   obtain ⟨g, hg⟩ : ∃ g, g = (areaP a1 a2 b1 b2 c1 c2).sign := ⟨_, rfl⟩
   have hl' := (left_area (a := (a1, a2)) (b := (b1, b2)) (c := (c1, c2)) ha hb hc).symm.trans hl
   have hg1 : ¬ g = 1 := by rw [hg]; exact of_decide_eq_false hl'
   have G : Hid _ := hg
   clear hg hl'
   try clear hr
   try clear hl
   have HQ : Hid _ := hq.symm
   clear hq
   obtain ⟨W, hW, bW, x_a, x_b, x_c, x_d, sW⟩ := bs_2222 w (.int .i64 a1) (.int .i64 a2) (.int .i64 b1) (.int .i64 b2) (.int .i64 c1) (.int .i64 c2) (.int .i64 d1) (.int .i64 d2) 31 31 31 31
   have zbW := bW.size
   have BB := bW
   go_enter Try.func15, Try.ntmps15
   go_wp2_with (go_at_call 21; fail)
   rw [← hW]
   clear hW
   refine (rtCan a1 a2 b1 b2 c1 c2 d1 d2 W Ra Rb Rc Rd HQ.out).mono ?_
   rintro e w1 ⟨rfl, bw1⟩
   have zbw1 := bw1.size
   replace BB := also BB bw1
   replace x_a := x_a.on bw1
   replace x_b := x_b.on bw1
   replace x_c := x_c.on bw1
   replace x_d := x_d.on bw1
   have ⟨x_a_0, x_a_1, x_a_2, x_a_3⟩ := x_a
   have ⟨x_b_0, x_b_1, x_b_2, x_b_3⟩ := x_b
   have ⟨x_c_0, x_c_1, x_c_2, x_c_3⟩ := x_c
   have ⟨x_d_0, x_d_1, x_d_2, x_d_3⟩ := x_d
   go_wp2_with (go_at_call 20; fail)
   refine (rpOrient a1 a2 b1 b2 c1 c2 w1 ha hb hc G.out).mono ?_
   rintro e w2 ⟨rfl, bw2⟩
   clear x_a_0 x_a_1 x_a_2 x_a_3 x_b_0 x_b_1 x_b_2 x_b_3 x_c_0 x_c_1 x_c_2 x_c_3 x_d_0 x_d_1 x_d_2 x_d_3
   have zbw2 := bw2.size
   replace BB := also BB bw2
   replace x_a := x_a.on bw2
   replace x_b := x_b.on bw2
   replace x_c := x_c.on bw2
   replace x_d := x_d.on bw2
   have ⟨x_a_0, x_a_1, x_a_2, x_a_3⟩ := x_a
   have ⟨x_b_0, x_b_1, x_b_2, x_b_3⟩ := x_b
   have ⟨x_c_0, x_c_1, x_c_2, x_c_3⟩ := x_c
   have ⟨x_d_0, x_d_1, x_d_2, x_d_3⟩ := x_d
   go_wp2
   go_ret
   exact ⟨rfl, BB⟩
  ·skip
   by_cases na : (d1, d2) = (a1, a2)
   ·obtain ⟨rfl, rfl⟩ := Prod.mk.inj na
    obtain ⟨ha, hb, hc, hd⟩ := can4.1 hq
    obtain rfl : r = false := by rw [hr, cf_no]; rintro ⟨_, _, h3, h4, h5⟩; exact h3 rfl
    obtain ⟨g, hg⟩ : ∃ g, g = (areaP d1 d2 b1 b2 c1 c2).sign := ⟨_, rfl⟩
    have hl' := (left_area (a := (d1, d2)) (b := (b1, b2)) (c := (c1, c2)) ha hb hc).symm.trans hl
    obtain rfl : g = 1 := by rw [hg]; exact of_decide_eq_true hl'
    have G : Hid _ := hg
    clear hg hl'
    try clear hr
    try clear hl
    have HQ : Hid _ := hq.symm
    clear hq
    obtain ⟨W, hW, bW, x_a, x_b, x_c, x_d, sW⟩ := bs_2222 w (.int .i64 d1) (.int .i64 d2) (.int .i64 b1) (.int .i64 b2) (.int .i64 c1) (.int .i64 c2) (.int .i64 d1) (.int .i64 d2) 31 31 31 31
    have zbW := bW.size
    have BB := bW
    go_enter Try.func15, Try.ntmps15
    go_wp2_with (go_at_call 21; fail)
    rw [← hW]
    clear hW
    refine (rtCan d1 d2 b1 b2 c1 c2 d1 d2 W Ra Rb Rc Rd HQ.out).mono ?_
    rintro e w1 ⟨rfl, bw1⟩
    have zbw1 := bw1.size
    replace BB := also BB bw1
    replace x_a := x_a.on bw1
    replace x_b := x_b.on bw1
    replace x_c := x_c.on bw1
    replace x_d := x_d.on bw1
    have ⟨x_a_0, x_a_1, x_a_2, x_a_3⟩ := x_a
    have ⟨x_b_0, x_b_1, x_b_2, x_b_3⟩ := x_b
    have ⟨x_c_0, x_c_1, x_c_2, x_c_3⟩ := x_c
    have ⟨x_d_0, x_d_1, x_d_2, x_d_3⟩ := x_d
    go_wp2_with (go_at_call 20; fail)
    refine (rpOrient d1 d2 b1 b2 c1 c2 w1 ha hb hc G.out).mono ?_
    rintro e w2 ⟨rfl, bw2⟩
    clear x_a_0 x_a_1 x_a_2 x_a_3 x_b_0 x_b_1 x_b_2 x_b_3 x_c_0 x_c_1 x_c_2 x_c_3 x_d_0 x_d_1 x_d_2 x_d_3
    have zbw2 := bw2.size
    replace BB := also BB bw2
    replace x_a := x_a.on bw2
    replace x_b := x_b.on bw2
    replace x_c := x_c.on bw2
    replace x_d := x_d.on bw2
    have ⟨x_a_0, x_a_1, x_a_2, x_a_3⟩ := x_a
    have ⟨x_b_0, x_b_1, x_b_2, x_b_3⟩ := x_b
    have ⟨x_c_0, x_c_1, x_c_2, x_c_3⟩ := x_c
    have ⟨x_d_0, x_d_1, x_d_2, x_d_3⟩ := x_d
    go_wp2
    go_ret
    exact ⟨rfl, BB⟩
   ·skip
    by_cases nb : (d1, d2) = (b1, b2)
    ·obtain ⟨rfl, rfl⟩ := Prod.mk.inj nb
     obtain ⟨ha, hb, hc, hd⟩ := can4.1 hq
     obtain rfl : r = false := by rw [hr, cf_no]; rintro ⟨_, _, h3, h4, h5⟩; exact h4 rfl
     obtain ⟨g, hg⟩ : ∃ g, g = (areaP a1 a2 d1 d2 c1 c2).sign := ⟨_, rfl⟩
     have hl' := (left_area (a := (a1, a2)) (b := (d1, d2)) (c := (c1, c2)) ha hb hc).symm.trans hl
     obtain rfl : g = 1 := by rw [hg]; exact of_decide_eq_true hl'
     have G : Hid _ := hg
     clear hg hl'
     have ka := eqP_no na
     clear na
     try clear hr
     try clear hl
     have HQ : Hid _ := hq.symm
     clear hq
     obtain ⟨W, hW, bW, x_a, x_b, x_c, x_d, sW⟩ := bs_2222 w (.int .i64 a1) (.int .i64 a2) (.int .i64 d1) (.int .i64 d2) (.int .i64 c1) (.int .i64 c2) (.int .i64 d1) (.int .i64 d2) 31 31 31 31
     have zbW := bW.size
     have BB := bW
     go_enter Try.func15, Try.ntmps15
     go_wp2_with (go_at_call 21; fail)
     rw [← hW]
     clear hW
     refine (rtCan a1 a2 d1 d2 c1 c2 d1 d2 W Ra Rb Rc Rd HQ.out).mono ?_
     rintro e w1 ⟨rfl, bw1⟩
     have zbw1 := bw1.size
     replace BB := also BB bw1
     replace x_a := x_a.on bw1
     replace x_b := x_b.on bw1
     replace x_c := x_c.on bw1
     replace x_d := x_d.on bw1
     have ⟨x_a_0, x_a_1, x_a_2, x_a_3⟩ := x_a
     have ⟨x_b_0, x_b_1, x_b_2, x_b_3⟩ := x_b
     have ⟨x_c_0, x_c_1, x_c_2, x_c_3⟩ := x_c
     have ⟨x_d_0, x_d_1, x_d_2, x_d_3⟩ := x_d
     go_wp2_with (go_at_call 20; fail)
     refine (rpOrient a1 a2 d1 d2 c1 c2 w1 ha hb hc G.out).mono ?_
     rintro e w2 ⟨rfl, bw2⟩
     clear x_a_0 x_a_1 x_a_2 x_a_3 x_b_0 x_b_1 x_b_2 x_b_3 x_c_0 x_c_1 x_c_2 x_c_3 x_d_0 x_d_1 x_d_2 x_d_3
     have zbw2 := bw2.size
     replace BB := also BB bw2
     replace x_a := x_a.on bw2
     replace x_b := x_b.on bw2
     replace x_c := x_c.on bw2
     replace x_d := x_d.on bw2
     have ⟨x_a_0, x_a_1, x_a_2, x_a_3⟩ := x_a
     have ⟨x_b_0, x_b_1, x_b_2, x_b_3⟩ := x_b
     have ⟨x_c_0, x_c_1, x_c_2, x_c_3⟩ := x_c
     have ⟨x_d_0, x_d_1, x_d_2, x_d_3⟩ := x_d
     go_wp2
     go_ret
     exact ⟨rfl, BB⟩
    ·skip
     by_cases nc : (d1, d2) = (c1, c2)
     ·obtain ⟨rfl, rfl⟩ := Prod.mk.inj nc
      obtain ⟨ha, hb, hc, hd⟩ := can4.1 hq
      obtain rfl : r = false := by rw [hr, cf_no]; rintro ⟨_, _, h3, h4, h5⟩; exact h5 rfl
      obtain ⟨g, hg⟩ : ∃ g, g = (areaP a1 a2 b1 b2 d1 d2).sign := ⟨_, rfl⟩
      have hl' := (left_area (a := (a1, a2)) (b := (b1, b2)) (c := (d1, d2)) ha hb hc).symm.trans hl
      obtain rfl : g = 1 := by rw [hg]; exact of_decide_eq_true hl'
      have G : Hid _ := hg
      clear hg hl'
      have ka := eqP_no na
      clear na
      have kb := eqP_no nb
      clear nb
      try clear hr
      try clear hl
      have HQ : Hid _ := hq.symm
      clear hq
      obtain ⟨W, hW, bW, x_a, x_b, x_c, x_d, sW⟩ := bs_2222 w (.int .i64 a1) (.int .i64 a2) (.int .i64 b1) (.int .i64 b2) (.int .i64 d1) (.int .i64 d2) (.int .i64 d1) (.int .i64 d2) 31 31 31 31
      have zbW := bW.size
      have BB := bW
      go_enter Try.func15, Try.ntmps15
      go_wp2_with (go_at_call 21; fail)
      rw [← hW]
      clear hW
      refine (rtCan a1 a2 b1 b2 d1 d2 d1 d2 W Ra Rb Rc Rd HQ.out).mono ?_
      rintro e w1 ⟨rfl, bw1⟩
      have zbw1 := bw1.size
      replace BB := also BB bw1
      replace x_a := x_a.on bw1
      replace x_b := x_b.on bw1
      replace x_c := x_c.on bw1
      replace x_d := x_d.on bw1
      have ⟨x_a_0, x_a_1, x_a_2, x_a_3⟩ := x_a
      have ⟨x_b_0, x_b_1, x_b_2, x_b_3⟩ := x_b
      have ⟨x_c_0, x_c_1, x_c_2, x_c_3⟩ := x_c
      have ⟨x_d_0, x_d_1, x_d_2, x_d_3⟩ := x_d
      go_wp2_with (go_at_call 20; fail)
      refine (rpOrient a1 a2 b1 b2 d1 d2 w1 ha hb hc G.out).mono ?_
      rintro e w2 ⟨rfl, bw2⟩
      clear x_a_0 x_a_1 x_a_2 x_a_3 x_b_0 x_b_1 x_b_2 x_b_3 x_c_0 x_c_1 x_c_2 x_c_3 x_d_0 x_d_1 x_d_2 x_d_3
      have zbw2 := bw2.size
      replace BB := also BB bw2
      replace x_a := x_a.on bw2
      replace x_b := x_b.on bw2
      replace x_c := x_c.on bw2
      replace x_d := x_d.on bw2
      have ⟨x_a_0, x_a_1, x_a_2, x_a_3⟩ := x_a
      have ⟨x_b_0, x_b_1, x_b_2, x_b_3⟩ := x_b
      have ⟨x_c_0, x_c_1, x_c_2, x_c_3⟩ := x_c
      have ⟨x_d_0, x_d_1, x_d_2, x_d_3⟩ := x_d
      go_wp2
      go_ret
      exact ⟨rfl, BB⟩
     ·skip
      rcases Int.lt_trichotomy (deQ (a1, a2) (b1, b2) (c1, c2) (d1, d2)) 0 with hde | hde | hde
      ·skip
       obtain ⟨ha, hb, hc, hd⟩ := can4.1 hq
       obtain ⟨g, hg⟩ : ∃ g, g = (areaP a1 a2 b1 b2 c1 c2).sign := ⟨_, rfl⟩
       have hl' := (left_area (a := (a1, a2)) (b := (b1, b2)) (c := (c1, c2)) ha hb hc).symm.trans hl
       obtain rfl : g = 1 := by rw [hg]; exact of_decide_eq_true hl'
       have G : Hid _ := hg
       clear hg hl'
       obtain ⟨m, hm⟩ : ∃ m, m = (detP a1 a2 b1 b2 c1 c2 d1 d2).sign := ⟨_, rfl⟩
       have hms : m = (deQ (a1, a2) (b1, b2) (c1, c2) (d1, d2)).sign := hm
       rw [cf_yes (a := (a1, a2)) (b := (b1, b2)) (c := (c1, c2)) (d := (d1, d2)) hd hl na nb nc] at hr
       unfold cirQ at hr
       rw [if_neg (by omega)] at hr
       obtain rfl : m = -1 := by rw [hms]; exact Int.sign_eq_neg_one_of_neg hde
       obtain rfl : r = false := by rw [hr]; exact decide_eq_false (by omega)
       have M : Hid _ := hm
       clear hm hms
       have ka := eqP_no na
       clear na
       have kb := eqP_no nb
       clear nb
       have kc := eqP_no nc
       clear nc
       try clear hr
       try clear hl
       clear hde
       have HQ : Hid _ := hq.symm
       clear hq
       obtain ⟨W, hW, bW, x_a, x_b, x_c, x_d, sW⟩ := bs_2222 w (.int .i64 a1) (.int .i64 a2) (.int .i64 b1) (.int .i64 b2) (.int .i64 c1) (.int .i64 c2) (.int .i64 d1) (.int .i64 d2) 31 31 31 31
       have zbW := bW.size
       have BB := bW
       go_enter Try.func15, Try.ntmps15
       go_wp2_with (go_at_call 21; fail)
       rw [← hW]
       clear hW
       refine (rtCan a1 a2 b1 b2 c1 c2 d1 d2 W Ra Rb Rc Rd HQ.out).mono ?_
       rintro e w1 ⟨rfl, bw1⟩
       have zbw1 := bw1.size
       replace BB := also BB bw1
       replace x_a := x_a.on bw1
       replace x_b := x_b.on bw1
       replace x_c := x_c.on bw1
       replace x_d := x_d.on bw1
       have ⟨x_a_0, x_a_1, x_a_2, x_a_3⟩ := x_a
       have ⟨x_b_0, x_b_1, x_b_2, x_b_3⟩ := x_b
       have ⟨x_c_0, x_c_1, x_c_2, x_c_3⟩ := x_c
       have ⟨x_d_0, x_d_1, x_d_2, x_d_3⟩ := x_d
       go_wp2_with (go_at_call 20; fail)
       refine (rpOrient a1 a2 b1 b2 c1 c2 w1 ha hb hc G.out).mono ?_
       rintro e w2 ⟨rfl, bw2⟩
       clear x_a_0 x_a_1 x_a_2 x_a_3 x_b_0 x_b_1 x_b_2 x_b_3 x_c_0 x_c_1 x_c_2 x_c_3 x_d_0 x_d_1 x_d_2 x_d_3
       have zbw2 := bw2.size
       replace BB := also BB bw2
       replace x_a := x_a.on bw2
       replace x_b := x_b.on bw2
       replace x_c := x_c.on bw2
       replace x_d := x_d.on bw2
       have ⟨x_a_0, x_a_1, x_a_2, x_a_3⟩ := x_a
       have ⟨x_b_0, x_b_1, x_b_2, x_b_3⟩ := x_b
       have ⟨x_c_0, x_c_1, x_c_2, x_c_3⟩ := x_c
       have ⟨x_d_0, x_d_1, x_d_2, x_d_3⟩ := x_d
       go_wp2_with (go_at_call 22; fail)
       refine (rpCircle a1 a2 b1 b2 c1 c2 d1 d2 w2 ha hb hc hd M.out).mono ?_
       rintro e w3 ⟨rfl, bw3⟩
       clear x_a_0 x_a_1 x_a_2 x_a_3 x_b_0 x_b_1 x_b_2 x_b_3 x_c_0 x_c_1 x_c_2 x_c_3 x_d_0 x_d_1 x_d_2 x_d_3
       have zbw3 := bw3.size
       replace BB := also BB bw3
       replace x_a := x_a.on bw3
       replace x_b := x_b.on bw3
       replace x_c := x_c.on bw3
       replace x_d := x_d.on bw3
       have ⟨x_a_0, x_a_1, x_a_2, x_a_3⟩ := x_a
       have ⟨x_b_0, x_b_1, x_b_2, x_b_3⟩ := x_b
       have ⟨x_c_0, x_c_1, x_c_2, x_c_3⟩ := x_c
       have ⟨x_d_0, x_d_1, x_d_2, x_d_3⟩ := x_d
       go_wp2
       go_ret
       exact ⟨rfl, BB⟩
      ·skip
       cases t0 : lastQ (d1, d2) (a1, a2) (b1, b2) (c1, c2)
       rotate_left
       ·skip
        obtain ⟨ha, hb, hc, hd⟩ := can4.1 hq
        obtain ⟨g, hg⟩ : ∃ g, g = (areaP a1 a2 b1 b2 c1 c2).sign := ⟨_, rfl⟩
        have hl' := (left_area (a := (a1, a2)) (b := (b1, b2)) (c := (c1, c2)) ha hb hc).symm.trans hl
        obtain rfl : g = 1 := by rw [hg]; exact of_decide_eq_true hl'
        have G : Hid _ := hg
        clear hg hl'
        obtain ⟨m, hm⟩ : ∃ m, m = (detP a1 a2 b1 b2 c1 c2 d1 d2).sign := ⟨_, rfl⟩
        have hms : m = (deQ (a1, a2) (b1, b2) (c1, c2) (d1, d2)).sign := hm
        rw [cf_yes (a := (a1, a2)) (b := (b1, b2)) (c := (c1, c2)) (d := (d1, d2)) hd hl na nb nc] at hr
        unfold cirQ at hr
        rw [if_pos hde] at hr
        obtain rfl : m = 0 := by rw [hms, hde]; rfl
        unfold tieQ at hr
        simp only [t0, if_true] at hr
        subst hr
        have T0 : Hid _ := t0.symm
        clear t0
        have M : Hid _ := hm
        clear hm hms
        have ka := eqP_no na
        clear na
        have kb := eqP_no nb
        clear nb
        have kc := eqP_no nc
        clear nc
        try clear hr
        try clear hl
        clear hde
        have HQ : Hid _ := hq.symm
        clear hq
        obtain ⟨W, hW, bW, x_a, x_b, x_c, x_d, sW⟩ := bs_2222 w (.int .i64 a1) (.int .i64 a2) (.int .i64 b1) (.int .i64 b2) (.int .i64 c1) (.int .i64 c2) (.int .i64 d1) (.int .i64 d2) 31 31 31 31
        have zbW := bW.size
        have BB := bW
        go_enter Try.func15, Try.ntmps15
        go_wp2_with (go_at_call 21; fail)
        rw [← hW]
        clear hW
        refine (rtCan a1 a2 b1 b2 c1 c2 d1 d2 W Ra Rb Rc Rd HQ.out).mono ?_
        rintro e w1 ⟨rfl, bw1⟩
        have zbw1 := bw1.size
        replace BB := also BB bw1
        replace x_a := x_a.on bw1
        replace x_b := x_b.on bw1
        replace x_c := x_c.on bw1
        replace x_d := x_d.on bw1
        have ⟨x_a_0, x_a_1, x_a_2, x_a_3⟩ := x_a
        have ⟨x_b_0, x_b_1, x_b_2, x_b_3⟩ := x_b
        have ⟨x_c_0, x_c_1, x_c_2, x_c_3⟩ := x_c
        have ⟨x_d_0, x_d_1, x_d_2, x_d_3⟩ := x_d
        go_wp2_with (go_at_call 20; fail)
        refine (rpOrient a1 a2 b1 b2 c1 c2 w1 ha hb hc G.out).mono ?_
        rintro e w2 ⟨rfl, bw2⟩
        clear x_a_0 x_a_1 x_a_2 x_a_3 x_b_0 x_b_1 x_b_2 x_b_3 x_c_0 x_c_1 x_c_2 x_c_3 x_d_0 x_d_1 x_d_2 x_d_3
        have zbw2 := bw2.size
        replace BB := also BB bw2
        replace x_a := x_a.on bw2
        replace x_b := x_b.on bw2
        replace x_c := x_c.on bw2
        replace x_d := x_d.on bw2
        have ⟨x_a_0, x_a_1, x_a_2, x_a_3⟩ := x_a
        have ⟨x_b_0, x_b_1, x_b_2, x_b_3⟩ := x_b
        have ⟨x_c_0, x_c_1, x_c_2, x_c_3⟩ := x_c
        have ⟨x_d_0, x_d_1, x_d_2, x_d_3⟩ := x_d
        go_wp2_with (go_at_call 22; fail)
        refine (rpCircle a1 a2 b1 b2 c1 c2 d1 d2 w2 ha hb hc hd M.out).mono ?_
        rintro e w3 ⟨rfl, bw3⟩
        clear x_a_0 x_a_1 x_a_2 x_a_3 x_b_0 x_b_1 x_b_2 x_b_3 x_c_0 x_c_1 x_c_2 x_c_3 x_d_0 x_d_1 x_d_2 x_d_3
        have zbw3 := bw3.size
        replace BB := also BB bw3
        replace x_a := x_a.on bw3
        replace x_b := x_b.on bw3
        replace x_c := x_c.on bw3
        replace x_d := x_d.on bw3
        have ⟨x_a_0, x_a_1, x_a_2, x_a_3⟩ := x_a
        have ⟨x_b_0, x_b_1, x_b_2, x_b_3⟩ := x_b
        have ⟨x_c_0, x_c_1, x_c_2, x_c_3⟩ := x_c
        have ⟨x_d_0, x_d_1, x_d_2, x_d_3⟩ := x_d
        go_wp2_with (go_at_call 23; fail)
        refine (rtLast d1 d2 a1 a2 b1 b2 c1 c2 w3 T0.out).mono ?_
        rintro e v0 ⟨rfl, bv0⟩
        clear x_a_0 x_a_1 x_a_2 x_a_3 x_b_0 x_b_1 x_b_2 x_b_3 x_c_0 x_c_1 x_c_2 x_c_3 x_d_0 x_d_1 x_d_2 x_d_3
        have zbv0 := bv0.size
        replace BB := also BB bv0
        replace x_a := x_a.on bv0
        replace x_b := x_b.on bv0
        replace x_c := x_c.on bv0
        replace x_d := x_d.on bv0
        have ⟨x_a_0, x_a_1, x_a_2, x_a_3⟩ := x_a
        have ⟨x_b_0, x_b_1, x_b_2, x_b_3⟩ := x_b
        have ⟨x_c_0, x_c_1, x_c_2, x_c_3⟩ := x_c
        have ⟨x_d_0, x_d_1, x_d_2, x_d_3⟩ := x_d
        go_wp2
        go_ret
        exact ⟨rfl, BB⟩
       cases t1 : lastQ (c1, c2) (a1, a2) (b1, b2) (d1, d2)
       rotate_left
       ·skip
        obtain ⟨ha, hb, hc, hd⟩ := can4.1 hq
        obtain ⟨g, hg⟩ : ∃ g, g = (areaP a1 a2 b1 b2 c1 c2).sign := ⟨_, rfl⟩
        have hl' := (left_area (a := (a1, a2)) (b := (b1, b2)) (c := (c1, c2)) ha hb hc).symm.trans hl
        obtain rfl : g = 1 := by rw [hg]; exact of_decide_eq_true hl'
        have G : Hid _ := hg
        clear hg hl'
        obtain ⟨m, hm⟩ : ∃ m, m = (detP a1 a2 b1 b2 c1 c2 d1 d2).sign := ⟨_, rfl⟩
        have hms : m = (deQ (a1, a2) (b1, b2) (c1, c2) (d1, d2)).sign := hm
        rw [cf_yes (a := (a1, a2)) (b := (b1, b2)) (c := (c1, c2)) (d := (d1, d2)) hd hl na nb nc] at hr
        unfold cirQ at hr
        rw [if_pos hde] at hr
        obtain rfl : m = 0 := by rw [hms, hde]; rfl
        unfold tieQ at hr
        simp only [t0, t1, if_true, if_false, Bool.false_eq_true] at hr
        rw [pos_sign] at hr
        obtain ⟨s, hs⟩ : ∃ s, s = (areaP a1 a2 b1 b2 d1 d2).sign := ⟨_, rfl⟩
        replace hr : r = decide (s = 1) := by rw [hr, hs]; rfl
        have HS : Hid _ := hs
        have HR : Hid _ := hr
        clear hr hs
        have T0 : Hid _ := t0.symm
        clear t0
        have T1 : Hid _ := t1.symm
        clear t1
        have M : Hid _ := hm
        clear hm hms
        have ka := eqP_no na
        clear na
        have kb := eqP_no nb
        clear nb
        have kc := eqP_no nc
        clear nc
        try clear hr
        try clear hl
        clear hde
        have HQ : Hid _ := hq.symm
        clear hq
        obtain ⟨W, hW, bW, x_a, x_b, x_c, x_d, sW⟩ := bs_2222 w (.int .i64 a1) (.int .i64 a2) (.int .i64 b1) (.int .i64 b2) (.int .i64 c1) (.int .i64 c2) (.int .i64 d1) (.int .i64 d2) 31 31 31 31
        have zbW := bW.size
        have BB := bW
        go_enter Try.func15, Try.ntmps15
        go_wp2_with (go_at_call 21; fail)
        rw [← hW]
        clear hW
        refine (rtCan a1 a2 b1 b2 c1 c2 d1 d2 W Ra Rb Rc Rd HQ.out).mono ?_
        rintro e w1 ⟨rfl, bw1⟩
        have zbw1 := bw1.size
        replace BB := also BB bw1
        replace x_a := x_a.on bw1
        replace x_b := x_b.on bw1
        replace x_c := x_c.on bw1
        replace x_d := x_d.on bw1
        have ⟨x_a_0, x_a_1, x_a_2, x_a_3⟩ := x_a
        have ⟨x_b_0, x_b_1, x_b_2, x_b_3⟩ := x_b
        have ⟨x_c_0, x_c_1, x_c_2, x_c_3⟩ := x_c
        have ⟨x_d_0, x_d_1, x_d_2, x_d_3⟩ := x_d
        go_wp2_with (go_at_call 20; fail)
        refine (rpOrient a1 a2 b1 b2 c1 c2 w1 ha hb hc G.out).mono ?_
        rintro e w2 ⟨rfl, bw2⟩
        clear x_a_0 x_a_1 x_a_2 x_a_3 x_b_0 x_b_1 x_b_2 x_b_3 x_c_0 x_c_1 x_c_2 x_c_3 x_d_0 x_d_1 x_d_2 x_d_3
        have zbw2 := bw2.size
        replace BB := also BB bw2
        replace x_a := x_a.on bw2
        replace x_b := x_b.on bw2
        replace x_c := x_c.on bw2
        replace x_d := x_d.on bw2
        have ⟨x_a_0, x_a_1, x_a_2, x_a_3⟩ := x_a
        have ⟨x_b_0, x_b_1, x_b_2, x_b_3⟩ := x_b
        have ⟨x_c_0, x_c_1, x_c_2, x_c_3⟩ := x_c
        have ⟨x_d_0, x_d_1, x_d_2, x_d_3⟩ := x_d
        go_wp2_with (go_at_call 22; fail)
        refine (rpCircle a1 a2 b1 b2 c1 c2 d1 d2 w2 ha hb hc hd M.out).mono ?_
        rintro e w3 ⟨rfl, bw3⟩
        clear x_a_0 x_a_1 x_a_2 x_a_3 x_b_0 x_b_1 x_b_2 x_b_3 x_c_0 x_c_1 x_c_2 x_c_3 x_d_0 x_d_1 x_d_2 x_d_3
        have zbw3 := bw3.size
        replace BB := also BB bw3
        replace x_a := x_a.on bw3
        replace x_b := x_b.on bw3
        replace x_c := x_c.on bw3
        replace x_d := x_d.on bw3
        have ⟨x_a_0, x_a_1, x_a_2, x_a_3⟩ := x_a
        have ⟨x_b_0, x_b_1, x_b_2, x_b_3⟩ := x_b
        have ⟨x_c_0, x_c_1, x_c_2, x_c_3⟩ := x_c
        have ⟨x_d_0, x_d_1, x_d_2, x_d_3⟩ := x_d
        go_wp2_with (go_at_call 23; fail)
        refine (rtLast d1 d2 a1 a2 b1 b2 c1 c2 w3 T0.out).mono ?_
        rintro e v0 ⟨rfl, bv0⟩
        clear x_a_0 x_a_1 x_a_2 x_a_3 x_b_0 x_b_1 x_b_2 x_b_3 x_c_0 x_c_1 x_c_2 x_c_3 x_d_0 x_d_1 x_d_2 x_d_3
        have zbv0 := bv0.size
        replace BB := also BB bv0
        replace x_a := x_a.on bv0
        replace x_b := x_b.on bv0
        replace x_c := x_c.on bv0
        replace x_d := x_d.on bv0
        have ⟨x_a_0, x_a_1, x_a_2, x_a_3⟩ := x_a
        have ⟨x_b_0, x_b_1, x_b_2, x_b_3⟩ := x_b
        have ⟨x_c_0, x_c_1, x_c_2, x_c_3⟩ := x_c
        have ⟨x_d_0, x_d_1, x_d_2, x_d_3⟩ := x_d
        go_wp2_with (go_at_call 23; fail)
        refine (rtLast c1 c2 a1 a2 b1 b2 d1 d2 v0 T1.out).mono ?_
        rintro e v1 ⟨rfl, bv1⟩
        clear x_a_0 x_a_1 x_a_2 x_a_3 x_b_0 x_b_1 x_b_2 x_b_3 x_c_0 x_c_1 x_c_2 x_c_3 x_d_0 x_d_1 x_d_2 x_d_3
        have zbv1 := bv1.size
        replace BB := also BB bv1
        replace x_a := x_a.on bv1
        replace x_b := x_b.on bv1
        replace x_c := x_c.on bv1
        replace x_d := x_d.on bv1
        have ⟨x_a_0, x_a_1, x_a_2, x_a_3⟩ := x_a
        have ⟨x_b_0, x_b_1, x_b_2, x_b_3⟩ := x_b
        have ⟨x_c_0, x_c_1, x_c_2, x_c_3⟩ := x_c
        have ⟨x_d_0, x_d_1, x_d_2, x_d_3⟩ := x_d
        go_wp2_with (go_at_call 20; fail)
        refine (rpOrient a1 a2 b1 b2 d1 d2 v1 ha hb hd HS.out).mono ?_
        rintro e w9 ⟨rfl, bw9⟩
        clear x_a_0 x_a_1 x_a_2 x_a_3 x_b_0 x_b_1 x_b_2 x_b_3 x_c_0 x_c_1 x_c_2 x_c_3 x_d_0 x_d_1 x_d_2 x_d_3
        have zbw9 := bw9.size
        replace BB := also BB bw9
        replace x_a := x_a.on bw9
        replace x_b := x_b.on bw9
        replace x_c := x_c.on bw9
        replace x_d := x_d.on bw9
        go_wp2
        go_ret
        exact ⟨by rw [HR.out]; rfl, BB⟩
       cases t2 : lastQ (b1, b2) (a1, a2) (c1, c2) (d1, d2)
       rotate_left
       ·skip
        obtain ⟨ha, hb, hc, hd⟩ := can4.1 hq
        obtain ⟨g, hg⟩ : ∃ g, g = (areaP a1 a2 b1 b2 c1 c2).sign := ⟨_, rfl⟩
        have hl' := (left_area (a := (a1, a2)) (b := (b1, b2)) (c := (c1, c2)) ha hb hc).symm.trans hl
        obtain rfl : g = 1 := by rw [hg]; exact of_decide_eq_true hl'
        have G : Hid _ := hg
        clear hg hl'
        obtain ⟨m, hm⟩ : ∃ m, m = (detP a1 a2 b1 b2 c1 c2 d1 d2).sign := ⟨_, rfl⟩
        have hms : m = (deQ (a1, a2) (b1, b2) (c1, c2) (d1, d2)).sign := hm
        rw [cf_yes (a := (a1, a2)) (b := (b1, b2)) (c := (c1, c2)) (d := (d1, d2)) hd hl na nb nc] at hr
        unfold cirQ at hr
        rw [if_pos hde] at hr
        obtain rfl : m = 0 := by rw [hms, hde]; rfl
        unfold tieQ at hr
        simp only [t0, t1, t2, if_true, if_false, Bool.false_eq_true] at hr
        rw [pos_sign] at hr
        obtain ⟨s, hs⟩ : ∃ s, s = (areaP a1 a2 d1 d2 c1 c2).sign := ⟨_, rfl⟩
        replace hr : r = decide (s = 1) := by rw [hr, hs]; rfl
        have HS : Hid _ := hs
        have HR : Hid _ := hr
        clear hr hs
        have T0 : Hid _ := t0.symm
        clear t0
        have T1 : Hid _ := t1.symm
        clear t1
        have T2 : Hid _ := t2.symm
        clear t2
        have M : Hid _ := hm
        clear hm hms
        have ka := eqP_no na
        clear na
        have kb := eqP_no nb
        clear nb
        have kc := eqP_no nc
        clear nc
        try clear hr
        try clear hl
        clear hde
        have HQ : Hid _ := hq.symm
        clear hq
        obtain ⟨W, hW, bW, x_a, x_b, x_c, x_d, sW⟩ := bs_2222 w (.int .i64 a1) (.int .i64 a2) (.int .i64 b1) (.int .i64 b2) (.int .i64 c1) (.int .i64 c2) (.int .i64 d1) (.int .i64 d2) 31 31 31 31
        have zbW := bW.size
        have BB := bW
        go_enter Try.func15, Try.ntmps15
        go_wp2_with (go_at_call 21; fail)
        rw [← hW]
        clear hW
        refine (rtCan a1 a2 b1 b2 c1 c2 d1 d2 W Ra Rb Rc Rd HQ.out).mono ?_
        rintro e w1 ⟨rfl, bw1⟩
        have zbw1 := bw1.size
        replace BB := also BB bw1
        replace x_a := x_a.on bw1
        replace x_b := x_b.on bw1
        replace x_c := x_c.on bw1
        replace x_d := x_d.on bw1
        have ⟨x_a_0, x_a_1, x_a_2, x_a_3⟩ := x_a
        have ⟨x_b_0, x_b_1, x_b_2, x_b_3⟩ := x_b
        have ⟨x_c_0, x_c_1, x_c_2, x_c_3⟩ := x_c
        have ⟨x_d_0, x_d_1, x_d_2, x_d_3⟩ := x_d
        go_wp2_with (go_at_call 20; fail)
        refine (rpOrient a1 a2 b1 b2 c1 c2 w1 ha hb hc G.out).mono ?_
        rintro e w2 ⟨rfl, bw2⟩
        clear x_a_0 x_a_1 x_a_2 x_a_3 x_b_0 x_b_1 x_b_2 x_b_3 x_c_0 x_c_1 x_c_2 x_c_3 x_d_0 x_d_1 x_d_2 x_d_3
        have zbw2 := bw2.size
        replace BB := also BB bw2
        replace x_a := x_a.on bw2
        replace x_b := x_b.on bw2
        replace x_c := x_c.on bw2
        replace x_d := x_d.on bw2
        have ⟨x_a_0, x_a_1, x_a_2, x_a_3⟩ := x_a
        have ⟨x_b_0, x_b_1, x_b_2, x_b_3⟩ := x_b
        have ⟨x_c_0, x_c_1, x_c_2, x_c_3⟩ := x_c
        have ⟨x_d_0, x_d_1, x_d_2, x_d_3⟩ := x_d
        go_wp2_with (go_at_call 22; fail)
        refine (rpCircle a1 a2 b1 b2 c1 c2 d1 d2 w2 ha hb hc hd M.out).mono ?_
        rintro e w3 ⟨rfl, bw3⟩
        clear x_a_0 x_a_1 x_a_2 x_a_3 x_b_0 x_b_1 x_b_2 x_b_3 x_c_0 x_c_1 x_c_2 x_c_3 x_d_0 x_d_1 x_d_2 x_d_3
        have zbw3 := bw3.size
        replace BB := also BB bw3
        replace x_a := x_a.on bw3
        replace x_b := x_b.on bw3
        replace x_c := x_c.on bw3
        replace x_d := x_d.on bw3
        have ⟨x_a_0, x_a_1, x_a_2, x_a_3⟩ := x_a
        have ⟨x_b_0, x_b_1, x_b_2, x_b_3⟩ := x_b
        have ⟨x_c_0, x_c_1, x_c_2, x_c_3⟩ := x_c
        have ⟨x_d_0, x_d_1, x_d_2, x_d_3⟩ := x_d
        go_wp2_with (go_at_call 23; fail)
        refine (rtLast d1 d2 a1 a2 b1 b2 c1 c2 w3 T0.out).mono ?_
        rintro e v0 ⟨rfl, bv0⟩
        clear x_a_0 x_a_1 x_a_2 x_a_3 x_b_0 x_b_1 x_b_2 x_b_3 x_c_0 x_c_1 x_c_2 x_c_3 x_d_0 x_d_1 x_d_2 x_d_3
        have zbv0 := bv0.size
        replace BB := also BB bv0
        replace x_a := x_a.on bv0
        replace x_b := x_b.on bv0
        replace x_c := x_c.on bv0
        replace x_d := x_d.on bv0
        have ⟨x_a_0, x_a_1, x_a_2, x_a_3⟩ := x_a
        have ⟨x_b_0, x_b_1, x_b_2, x_b_3⟩ := x_b
        have ⟨x_c_0, x_c_1, x_c_2, x_c_3⟩ := x_c
        have ⟨x_d_0, x_d_1, x_d_2, x_d_3⟩ := x_d
        go_wp2_with (go_at_call 23; fail)
        refine (rtLast c1 c2 a1 a2 b1 b2 d1 d2 v0 T1.out).mono ?_
        rintro e v1 ⟨rfl, bv1⟩
        clear x_a_0 x_a_1 x_a_2 x_a_3 x_b_0 x_b_1 x_b_2 x_b_3 x_c_0 x_c_1 x_c_2 x_c_3 x_d_0 x_d_1 x_d_2 x_d_3
        have zbv1 := bv1.size
        replace BB := also BB bv1
        replace x_a := x_a.on bv1
        replace x_b := x_b.on bv1
        replace x_c := x_c.on bv1
        replace x_d := x_d.on bv1
        have ⟨x_a_0, x_a_1, x_a_2, x_a_3⟩ := x_a
        have ⟨x_b_0, x_b_1, x_b_2, x_b_3⟩ := x_b
        have ⟨x_c_0, x_c_1, x_c_2, x_c_3⟩ := x_c
        have ⟨x_d_0, x_d_1, x_d_2, x_d_3⟩ := x_d
        go_wp2_with (go_at_call 23; fail)
        refine (rtLast b1 b2 a1 a2 c1 c2 d1 d2 v1 T2.out).mono ?_
        rintro e v2 ⟨rfl, bv2⟩
        clear x_a_0 x_a_1 x_a_2 x_a_3 x_b_0 x_b_1 x_b_2 x_b_3 x_c_0 x_c_1 x_c_2 x_c_3 x_d_0 x_d_1 x_d_2 x_d_3
        have zbv2 := bv2.size
        replace BB := also BB bv2
        replace x_a := x_a.on bv2
        replace x_b := x_b.on bv2
        replace x_c := x_c.on bv2
        replace x_d := x_d.on bv2
        have ⟨x_a_0, x_a_1, x_a_2, x_a_3⟩ := x_a
        have ⟨x_b_0, x_b_1, x_b_2, x_b_3⟩ := x_b
        have ⟨x_c_0, x_c_1, x_c_2, x_c_3⟩ := x_c
        have ⟨x_d_0, x_d_1, x_d_2, x_d_3⟩ := x_d
        go_wp2_with (go_at_call 20; fail)
        refine (rpOrient a1 a2 d1 d2 c1 c2 v2 ha hd hc HS.out).mono ?_
        rintro e w9 ⟨rfl, bw9⟩
        clear x_a_0 x_a_1 x_a_2 x_a_3 x_b_0 x_b_1 x_b_2 x_b_3 x_c_0 x_c_1 x_c_2 x_c_3 x_d_0 x_d_1 x_d_2 x_d_3
        have zbw9 := bw9.size
        replace BB := also BB bw9
        replace x_a := x_a.on bw9
        replace x_b := x_b.on bw9
        replace x_c := x_c.on bw9
        replace x_d := x_d.on bw9
        go_wp2
        go_ret
        exact ⟨by rw [HR.out]; rfl, BB⟩
       obtain ⟨ha, hb, hc, hd⟩ := can4.1 hq
       obtain ⟨g, hg⟩ : ∃ g, g = (areaP a1 a2 b1 b2 c1 c2).sign := ⟨_, rfl⟩
       have hl' := (left_area (a := (a1, a2)) (b := (b1, b2)) (c := (c1, c2)) ha hb hc).symm.trans hl
       obtain rfl : g = 1 := by rw [hg]; exact of_decide_eq_true hl'
       have G : Hid _ := hg
       clear hg hl'
       obtain ⟨m, hm⟩ : ∃ m, m = (detP a1 a2 b1 b2 c1 c2 d1 d2).sign := ⟨_, rfl⟩
       have hms : m = (deQ (a1, a2) (b1, b2) (c1, c2) (d1, d2)).sign := hm
       rw [cf_yes (a := (a1, a2)) (b := (b1, b2)) (c := (c1, c2)) (d := (d1, d2)) hd hl na nb nc] at hr
       unfold cirQ at hr
       rw [if_pos hde] at hr
       obtain rfl : m = 0 := by rw [hms, hde]; rfl
       unfold tieQ at hr
       simp only [t0, t1, t2, if_false, Bool.false_eq_true] at hr
       rw [pos_sign] at hr
       obtain ⟨s, hs⟩ : ∃ s, s = (areaP d1 d2 b1 b2 c1 c2).sign := ⟨_, rfl⟩
       replace hr : r = decide (s = 1) := by rw [hr, hs]; rfl
       have HS : Hid _ := hs
       have HR : Hid _ := hr
       clear hr hs
       have T0 : Hid _ := t0.symm
       clear t0
       have T1 : Hid _ := t1.symm
       clear t1
       have T2 : Hid _ := t2.symm
       clear t2
       have M : Hid _ := hm
       clear hm hms
       have ka := eqP_no na
       clear na
       have kb := eqP_no nb
       clear nb
       have kc := eqP_no nc
       clear nc
       try clear hr
       try clear hl
       clear hde
       have HQ : Hid _ := hq.symm
       clear hq
       obtain ⟨W, hW, bW, x_a, x_b, x_c, x_d, sW⟩ := bs_2222 w (.int .i64 a1) (.int .i64 a2) (.int .i64 b1) (.int .i64 b2) (.int .i64 c1) (.int .i64 c2) (.int .i64 d1) (.int .i64 d2) 31 31 31 31
       have zbW := bW.size
       have BB := bW
       go_enter Try.func15, Try.ntmps15
       go_wp2_with (go_at_call 21; fail)
       rw [← hW]
       clear hW
       refine (rtCan a1 a2 b1 b2 c1 c2 d1 d2 W Ra Rb Rc Rd HQ.out).mono ?_
       rintro e w1 ⟨rfl, bw1⟩
       have zbw1 := bw1.size
       replace BB := also BB bw1
       replace x_a := x_a.on bw1
       replace x_b := x_b.on bw1
       replace x_c := x_c.on bw1
       replace x_d := x_d.on bw1
       have ⟨x_a_0, x_a_1, x_a_2, x_a_3⟩ := x_a
       have ⟨x_b_0, x_b_1, x_b_2, x_b_3⟩ := x_b
       have ⟨x_c_0, x_c_1, x_c_2, x_c_3⟩ := x_c
       have ⟨x_d_0, x_d_1, x_d_2, x_d_3⟩ := x_d
       go_wp2_with (go_at_call 20; fail)
       refine (rpOrient a1 a2 b1 b2 c1 c2 w1 ha hb hc G.out).mono ?_
       rintro e w2 ⟨rfl, bw2⟩
       clear x_a_0 x_a_1 x_a_2 x_a_3 x_b_0 x_b_1 x_b_2 x_b_3 x_c_0 x_c_1 x_c_2 x_c_3 x_d_0 x_d_1 x_d_2 x_d_3
       have zbw2 := bw2.size
       replace BB := also BB bw2
       replace x_a := x_a.on bw2
       replace x_b := x_b.on bw2
       replace x_c := x_c.on bw2
       replace x_d := x_d.on bw2
       have ⟨x_a_0, x_a_1, x_a_2, x_a_3⟩ := x_a
       have ⟨x_b_0, x_b_1, x_b_2, x_b_3⟩ := x_b
       have ⟨x_c_0, x_c_1, x_c_2, x_c_3⟩ := x_c
       have ⟨x_d_0, x_d_1, x_d_2, x_d_3⟩ := x_d
       go_wp2_with (go_at_call 22; fail)
       refine (rpCircle a1 a2 b1 b2 c1 c2 d1 d2 w2 ha hb hc hd M.out).mono ?_
       rintro e w3 ⟨rfl, bw3⟩
       clear x_a_0 x_a_1 x_a_2 x_a_3 x_b_0 x_b_1 x_b_2 x_b_3 x_c_0 x_c_1 x_c_2 x_c_3 x_d_0 x_d_1 x_d_2 x_d_3
       have zbw3 := bw3.size
       replace BB := also BB bw3
       replace x_a := x_a.on bw3
       replace x_b := x_b.on bw3
       replace x_c := x_c.on bw3
       replace x_d := x_d.on bw3
       have ⟨x_a_0, x_a_1, x_a_2, x_a_3⟩ := x_a
       have ⟨x_b_0, x_b_1, x_b_2, x_b_3⟩ := x_b
       have ⟨x_c_0, x_c_1, x_c_2, x_c_3⟩ := x_c
       have ⟨x_d_0, x_d_1, x_d_2, x_d_3⟩ := x_d
       go_wp2_with (go_at_call 23; fail)
       refine (rtLast d1 d2 a1 a2 b1 b2 c1 c2 w3 T0.out).mono ?_
       rintro e v0 ⟨rfl, bv0⟩
       clear x_a_0 x_a_1 x_a_2 x_a_3 x_b_0 x_b_1 x_b_2 x_b_3 x_c_0 x_c_1 x_c_2 x_c_3 x_d_0 x_d_1 x_d_2 x_d_3
       have zbv0 := bv0.size
       replace BB := also BB bv0
       replace x_a := x_a.on bv0
       replace x_b := x_b.on bv0
       replace x_c := x_c.on bv0
       replace x_d := x_d.on bv0
       have ⟨x_a_0, x_a_1, x_a_2, x_a_3⟩ := x_a
       have ⟨x_b_0, x_b_1, x_b_2, x_b_3⟩ := x_b
       have ⟨x_c_0, x_c_1, x_c_2, x_c_3⟩ := x_c
       have ⟨x_d_0, x_d_1, x_d_2, x_d_3⟩ := x_d
       go_wp2_with (go_at_call 23; fail)
       refine (rtLast c1 c2 a1 a2 b1 b2 d1 d2 v0 T1.out).mono ?_
       rintro e v1 ⟨rfl, bv1⟩
       clear x_a_0 x_a_1 x_a_2 x_a_3 x_b_0 x_b_1 x_b_2 x_b_3 x_c_0 x_c_1 x_c_2 x_c_3 x_d_0 x_d_1 x_d_2 x_d_3
       have zbv1 := bv1.size
       replace BB := also BB bv1
       replace x_a := x_a.on bv1
       replace x_b := x_b.on bv1
       replace x_c := x_c.on bv1
       replace x_d := x_d.on bv1
       have ⟨x_a_0, x_a_1, x_a_2, x_a_3⟩ := x_a
       have ⟨x_b_0, x_b_1, x_b_2, x_b_3⟩ := x_b
       have ⟨x_c_0, x_c_1, x_c_2, x_c_3⟩ := x_c
       have ⟨x_d_0, x_d_1, x_d_2, x_d_3⟩ := x_d
       go_wp2_with (go_at_call 23; fail)
       refine (rtLast b1 b2 a1 a2 c1 c2 d1 d2 v1 T2.out).mono ?_
       rintro e v2 ⟨rfl, bv2⟩
       clear x_a_0 x_a_1 x_a_2 x_a_3 x_b_0 x_b_1 x_b_2 x_b_3 x_c_0 x_c_1 x_c_2 x_c_3 x_d_0 x_d_1 x_d_2 x_d_3
       have zbv2 := bv2.size
       replace BB := also BB bv2
       replace x_a := x_a.on bv2
       replace x_b := x_b.on bv2
       replace x_c := x_c.on bv2
       replace x_d := x_d.on bv2
       have ⟨x_a_0, x_a_1, x_a_2, x_a_3⟩ := x_a
       have ⟨x_b_0, x_b_1, x_b_2, x_b_3⟩ := x_b
       have ⟨x_c_0, x_c_1, x_c_2, x_c_3⟩ := x_c
       have ⟨x_d_0, x_d_1, x_d_2, x_d_3⟩ := x_d
       go_wp2_with (go_at_call 20; fail)
       refine (rpOrient d1 d2 b1 b2 c1 c2 v2 hd hb hc HS.out).mono ?_
       rintro e w9 ⟨rfl, bw9⟩
       clear x_a_0 x_a_1 x_a_2 x_a_3 x_b_0 x_b_1 x_b_2 x_b_3 x_c_0 x_c_1 x_c_2 x_c_3 x_d_0 x_d_1 x_d_2 x_d_3
       have zbw9 := bw9.size
       replace BB := also BB bw9
       replace x_a := x_a.on bw9
       replace x_b := x_b.on bw9
       replace x_c := x_c.on bw9
       replace x_d := x_d.on bw9
       go_wp2
       go_ret
       exact ⟨by rw [HR.out]; rfl, BB⟩
      ·skip
       obtain ⟨ha, hb, hc, hd⟩ := can4.1 hq
       obtain ⟨g, hg⟩ : ∃ g, g = (areaP a1 a2 b1 b2 c1 c2).sign := ⟨_, rfl⟩
       have hl' := (left_area (a := (a1, a2)) (b := (b1, b2)) (c := (c1, c2)) ha hb hc).symm.trans hl
       obtain rfl : g = 1 := by rw [hg]; exact of_decide_eq_true hl'
       have G : Hid _ := hg
       clear hg hl'
       obtain ⟨m, hm⟩ : ∃ m, m = (detP a1 a2 b1 b2 c1 c2 d1 d2).sign := ⟨_, rfl⟩
       have hms : m = (deQ (a1, a2) (b1, b2) (c1, c2) (d1, d2)).sign := hm
       rw [cf_yes (a := (a1, a2)) (b := (b1, b2)) (c := (c1, c2)) (d := (d1, d2)) hd hl na nb nc] at hr
       unfold cirQ at hr
       rw [if_neg (by omega)] at hr
       obtain rfl : m = 1 := by rw [hms]; exact Int.sign_eq_one_of_pos hde
       obtain rfl : r = true := by rw [hr]; exact decide_eq_true (by omega)
       have M : Hid _ := hm
       clear hm hms
       have ka := eqP_no na
       clear na
       have kb := eqP_no nb
       clear nb
       have kc := eqP_no nc
       clear nc
       try clear hr
       try clear hl
       clear hde
       have HQ : Hid _ := hq.symm
       clear hq
       obtain ⟨W, hW, bW, x_a, x_b, x_c, x_d, sW⟩ := bs_2222 w (.int .i64 a1) (.int .i64 a2) (.int .i64 b1) (.int .i64 b2) (.int .i64 c1) (.int .i64 c2) (.int .i64 d1) (.int .i64 d2) 31 31 31 31
       have zbW := bW.size
       have BB := bW
       go_enter Try.func15, Try.ntmps15
       go_wp2_with (go_at_call 21; fail)
       rw [← hW]
       clear hW
       refine (rtCan a1 a2 b1 b2 c1 c2 d1 d2 W Ra Rb Rc Rd HQ.out).mono ?_
       rintro e w1 ⟨rfl, bw1⟩
       have zbw1 := bw1.size
       replace BB := also BB bw1
       replace x_a := x_a.on bw1
       replace x_b := x_b.on bw1
       replace x_c := x_c.on bw1
       replace x_d := x_d.on bw1
       have ⟨x_a_0, x_a_1, x_a_2, x_a_3⟩ := x_a
       have ⟨x_b_0, x_b_1, x_b_2, x_b_3⟩ := x_b
       have ⟨x_c_0, x_c_1, x_c_2, x_c_3⟩ := x_c
       have ⟨x_d_0, x_d_1, x_d_2, x_d_3⟩ := x_d
       go_wp2_with (go_at_call 20; fail)
       refine (rpOrient a1 a2 b1 b2 c1 c2 w1 ha hb hc G.out).mono ?_
       rintro e w2 ⟨rfl, bw2⟩
       clear x_a_0 x_a_1 x_a_2 x_a_3 x_b_0 x_b_1 x_b_2 x_b_3 x_c_0 x_c_1 x_c_2 x_c_3 x_d_0 x_d_1 x_d_2 x_d_3
       have zbw2 := bw2.size
       replace BB := also BB bw2
       replace x_a := x_a.on bw2
       replace x_b := x_b.on bw2
       replace x_c := x_c.on bw2
       replace x_d := x_d.on bw2
       have ⟨x_a_0, x_a_1, x_a_2, x_a_3⟩ := x_a
       have ⟨x_b_0, x_b_1, x_b_2, x_b_3⟩ := x_b
       have ⟨x_c_0, x_c_1, x_c_2, x_c_3⟩ := x_c
       have ⟨x_d_0, x_d_1, x_d_2, x_d_3⟩ := x_d
       go_wp2_with (go_at_call 22; fail)
       refine (rpCircle a1 a2 b1 b2 c1 c2 d1 d2 w2 ha hb hc hd M.out).mono ?_
       rintro e w3 ⟨rfl, bw3⟩
       clear x_a_0 x_a_1 x_a_2 x_a_3 x_b_0 x_b_1 x_b_2 x_b_3 x_c_0 x_c_1 x_c_2 x_c_3 x_d_0 x_d_1 x_d_2 x_d_3
       have zbw3 := bw3.size
       replace BB := also BB bw3
       replace x_a := x_a.on bw3
       replace x_b := x_b.on bw3
       replace x_c := x_c.on bw3
       replace x_d := x_d.on bw3
       have ⟨x_a_0, x_a_1, x_a_2, x_a_3⟩ := x_a
       have ⟨x_b_0, x_b_1, x_b_2, x_b_3⟩ := x_b
       have ⟨x_c_0, x_c_1, x_c_2, x_c_3⟩ := x_c
       have ⟨x_d_0, x_d_1, x_d_2, x_d_3⟩ := x_d
       go_wp2
       go_ret
       exact ⟨rfl, BB⟩
end Go.Proofs.Ytkmgndaholglhaa
