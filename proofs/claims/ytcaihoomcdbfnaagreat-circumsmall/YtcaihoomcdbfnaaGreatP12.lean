/-
  Joined texts, part 12:
  What zelligeref09's Has, weight and mean answer.
  What package circum's about answers.
  What zelligeref05's Low and Same answer.
  Blocks of eight cells: what they hold. It imports nothing of the program.
  Mathematics of a field, by fractions in lowest terms: what was added, or multiplied, can be taken back, and a factor goes to each part of a sum.
  The circle of three points in lowest terms: the center, how far it is from the corners, and which circles are small. It imports nothing of the program but what fractions in lowest terms are.
  What circum's functions must answer: the laws of layer 9 are walked over this.
  What package rat's Show answers.
  What package whole's Parse answers.
-/
import Derived.Test.YtcaihoomcdbfnaaGreatP11
namespace Go.Proofs.YtcaihoomcdbfnaaGreat
open Go.RowKit
set_option linter.unusedVariables false

/-- Whether three points have a circle. -/
def hasP (a1 a2 b1 b2 c1 c2 : Int) : Bool := canAll [(a1, a2), (b1, b2), (c1, c2)] && decide (areaP a1 a2 b1 b2 c1 c2 ≠ 0)
theorem has_yes {a1 a2 b1 b2 c1 c2 : Int} : hasP a1 a2 b1 b2 c1 c2 = true ↔ (canC a1 a2 = true ∧ canC b1 b2 = true ∧ canC c1 c2 = true ∧ areaP a1 a2 b1 b2 c1 c2 ≠ 0) := by
  unfold hasP
  rw [Bool.and_eq_true_iff, can3, decide_eq_true_iff]
  exact ⟨fun h => ⟨h.1.1, h.1.2.1, h.1.2.2, h.2⟩, fun h => ⟨⟨h.1, h.2.1, h.2.2.1⟩, h.2.2.2⟩⟩
set_option maxRecDepth 100000 in
set_option maxHeartbeats 8000000 in
theorem rcHas (a1 a2 b1 b2 c1 c2 : Int) (w : World) (Ra : Hid (R2 (a1, a2))) (Rb : Hid (R2 (b1, b2))) (Rc : Hid (R2 (c1, c2))) {r : Bool} (hr : r = hasP a1 a2 b1 b2 c1 c2) :
    Calls Tryz.prog 8 #[.agg #[.int .i64 a1, .int .i64 a2], .agg #[.int .i64 b1, .int .i64 b2], .agg #[.int .i64 c1, .int .i64 c2]] w fun e w' => e = .returned (.bool r) ∧ Below w.heap.size w w' := by
  cases ha : canC a1 a2
  · skip
    obtain rfl : r = false := by rw [hr, ← Bool.not_eq_true, has_yes]; rintro ⟨k1, k2, k3, _⟩; simp_all
    clear hr
    obtain ⟨W, hW, bW, x_a, x_b, x_c, sW⟩ := bs_222 w (.int .i64 a1) (.int .i64 a2) (.int .i64 b1) (.int .i64 b2) (.int .i64 c1) (.int .i64 c2) 23 23 23
    have zbW := bW.size
    have BB := bW
    go_enter Tryz.func8, Tryz.ntmps8
    go_wp2_with (go_at_call 20; fail)
    rw [← hW]
    clear hW
    refine (rlCan a1 a2 W (r2x Ra.out) (r2y Ra.out) ha.symm).mono ?_
    rintro e w0 ⟨rfl, bw0⟩
    have zbw0 := bw0.size
    replace BB := also BB bw0
    replace x_a := x_a.on bw0
    replace x_b := x_b.on bw0
    replace x_c := x_c.on bw0
    have ⟨x_a_0, x_a_1, x_a_2, x_a_3⟩ := x_a
    have ⟨x_b_0, x_b_1, x_b_2, x_b_3⟩ := x_b
    have ⟨x_c_0, x_c_1, x_c_2, x_c_3⟩ := x_c
    go_wp2
    go_ret
    exact ⟨rfl, BB⟩
  · skip
    cases hb : canC b1 b2
    · skip
      obtain rfl : r = false := by rw [hr, ← Bool.not_eq_true, has_yes]; rintro ⟨k1, k2, k3, _⟩; simp_all
      clear hr
      obtain ⟨W, hW, bW, x_a, x_b, x_c, sW⟩ := bs_222 w (.int .i64 a1) (.int .i64 a2) (.int .i64 b1) (.int .i64 b2) (.int .i64 c1) (.int .i64 c2) 23 23 23
      have zbW := bW.size
      have BB := bW
      go_enter Tryz.func8, Tryz.ntmps8
      go_wp2_with (go_at_call 20; fail)
      rw [← hW]
      clear hW
      refine (rlCan a1 a2 W (r2x Ra.out) (r2y Ra.out) ha.symm).mono ?_
      rintro e w0 ⟨rfl, bw0⟩
      have zbw0 := bw0.size
      replace BB := also BB bw0
      replace x_a := x_a.on bw0
      replace x_b := x_b.on bw0
      replace x_c := x_c.on bw0
      have ⟨x_a_0, x_a_1, x_a_2, x_a_3⟩ := x_a
      have ⟨x_b_0, x_b_1, x_b_2, x_b_3⟩ := x_b
      have ⟨x_c_0, x_c_1, x_c_2, x_c_3⟩ := x_c
      go_wp2_with (go_at_call 20; fail)
      refine (rlCan b1 b2 w0 (r2x Rb.out) (r2y Rb.out) hb.symm).mono ?_
      rintro e w1 ⟨rfl, bw1⟩
      clear x_a_0 x_a_1 x_a_2 x_a_3 x_b_0 x_b_1 x_b_2 x_b_3 x_c_0 x_c_1 x_c_2 x_c_3
      have zbw1 := bw1.size
      replace BB := also BB bw1
      replace x_a := x_a.on bw1
      replace x_b := x_b.on bw1
      replace x_c := x_c.on bw1
      have ⟨x_a_0, x_a_1, x_a_2, x_a_3⟩ := x_a
      have ⟨x_b_0, x_b_1, x_b_2, x_b_3⟩ := x_b
      have ⟨x_c_0, x_c_1, x_c_2, x_c_3⟩ := x_c
      go_wp2
      go_ret
      exact ⟨rfl, BB⟩
    · skip
      cases hc : canC c1 c2
      · skip
        obtain rfl : r = false := by rw [hr, ← Bool.not_eq_true, has_yes]; rintro ⟨k1, k2, k3, _⟩; simp_all
        clear hr
        obtain ⟨W, hW, bW, x_a, x_b, x_c, sW⟩ := bs_222 w (.int .i64 a1) (.int .i64 a2) (.int .i64 b1) (.int .i64 b2) (.int .i64 c1) (.int .i64 c2) 23 23 23
        have zbW := bW.size
        have BB := bW
        go_enter Tryz.func8, Tryz.ntmps8
        go_wp2_with (go_at_call 20; fail)
        rw [← hW]
        clear hW
        refine (rlCan a1 a2 W (r2x Ra.out) (r2y Ra.out) ha.symm).mono ?_
        rintro e w0 ⟨rfl, bw0⟩
        have zbw0 := bw0.size
        replace BB := also BB bw0
        replace x_a := x_a.on bw0
        replace x_b := x_b.on bw0
        replace x_c := x_c.on bw0
        have ⟨x_a_0, x_a_1, x_a_2, x_a_3⟩ := x_a
        have ⟨x_b_0, x_b_1, x_b_2, x_b_3⟩ := x_b
        have ⟨x_c_0, x_c_1, x_c_2, x_c_3⟩ := x_c
        go_wp2_with (go_at_call 20; fail)
        refine (rlCan b1 b2 w0 (r2x Rb.out) (r2y Rb.out) hb.symm).mono ?_
        rintro e w1 ⟨rfl, bw1⟩
        clear x_a_0 x_a_1 x_a_2 x_a_3 x_b_0 x_b_1 x_b_2 x_b_3 x_c_0 x_c_1 x_c_2 x_c_3
        have zbw1 := bw1.size
        replace BB := also BB bw1
        replace x_a := x_a.on bw1
        replace x_b := x_b.on bw1
        replace x_c := x_c.on bw1
        have ⟨x_a_0, x_a_1, x_a_2, x_a_3⟩ := x_a
        have ⟨x_b_0, x_b_1, x_b_2, x_b_3⟩ := x_b
        have ⟨x_c_0, x_c_1, x_c_2, x_c_3⟩ := x_c
        go_wp2_with (go_at_call 20; fail)
        refine (rlCan c1 c2 w1 (r2x Rc.out) (r2y Rc.out) hc.symm).mono ?_
        rintro e w2 ⟨rfl, bw2⟩
        clear x_a_0 x_a_1 x_a_2 x_a_3 x_b_0 x_b_1 x_b_2 x_b_3 x_c_0 x_c_1 x_c_2 x_c_3
        have zbw2 := bw2.size
        replace BB := also BB bw2
        replace x_a := x_a.on bw2
        replace x_b := x_b.on bw2
        replace x_c := x_c.on bw2
        have ⟨x_a_0, x_a_1, x_a_2, x_a_3⟩ := x_a
        have ⟨x_b_0, x_b_1, x_b_2, x_b_3⟩ := x_b
        have ⟨x_c_0, x_c_1, x_c_2, x_c_3⟩ := x_c
        go_wp2
        go_ret
        exact ⟨rfl, BB⟩
      · skip
        by_cases h0 : areaP a1 a2 b1 b2 c1 c2 = 0
        · skip
          obtain ⟨g, hg⟩ : ∃ g, g = (areaP a1 a2 b1 b2 c1 c2).sign := ⟨_, rfl⟩
          obtain rfl : r = false := by rw [hr, ← Bool.not_eq_true, has_yes]; rintro ⟨_, _, _, k⟩; exact k h0
          obtain rfl : g = 0 := by rw [hg, h0]; rfl
          have G : Hid _ := hg
          clear hg h0
          clear hr
          obtain ⟨W, hW, bW, x_a, x_b, x_c, sW⟩ := bs_222 w (.int .i64 a1) (.int .i64 a2) (.int .i64 b1) (.int .i64 b2) (.int .i64 c1) (.int .i64 c2) 23 23 23
          have zbW := bW.size
          have BB := bW
          go_enter Tryz.func8, Tryz.ntmps8
          go_wp2_with (go_at_call 20; fail)
          rw [← hW]
          clear hW
          refine (rlCan a1 a2 W (r2x Ra.out) (r2y Ra.out) ha.symm).mono ?_
          rintro e w0 ⟨rfl, bw0⟩
          have zbw0 := bw0.size
          replace BB := also BB bw0
          replace x_a := x_a.on bw0
          replace x_b := x_b.on bw0
          replace x_c := x_c.on bw0
          have ⟨x_a_0, x_a_1, x_a_2, x_a_3⟩ := x_a
          have ⟨x_b_0, x_b_1, x_b_2, x_b_3⟩ := x_b
          have ⟨x_c_0, x_c_1, x_c_2, x_c_3⟩ := x_c
          go_wp2_with (go_at_call 20; fail)
          refine (rlCan b1 b2 w0 (r2x Rb.out) (r2y Rb.out) hb.symm).mono ?_
          rintro e w1 ⟨rfl, bw1⟩
          clear x_a_0 x_a_1 x_a_2 x_a_3 x_b_0 x_b_1 x_b_2 x_b_3 x_c_0 x_c_1 x_c_2 x_c_3
          have zbw1 := bw1.size
          replace BB := also BB bw1
          replace x_a := x_a.on bw1
          replace x_b := x_b.on bw1
          replace x_c := x_c.on bw1
          have ⟨x_a_0, x_a_1, x_a_2, x_a_3⟩ := x_a
          have ⟨x_b_0, x_b_1, x_b_2, x_b_3⟩ := x_b
          have ⟨x_c_0, x_c_1, x_c_2, x_c_3⟩ := x_c
          go_wp2_with (go_at_call 20; fail)
          refine (rlCan c1 c2 w1 (r2x Rc.out) (r2y Rc.out) hc.symm).mono ?_
          rintro e w2 ⟨rfl, bw2⟩
          clear x_a_0 x_a_1 x_a_2 x_a_3 x_b_0 x_b_1 x_b_2 x_b_3 x_c_0 x_c_1 x_c_2 x_c_3
          have zbw2 := bw2.size
          replace BB := also BB bw2
          replace x_a := x_a.on bw2
          replace x_b := x_b.on bw2
          replace x_c := x_c.on bw2
          have ⟨x_a_0, x_a_1, x_a_2, x_a_3⟩ := x_a
          have ⟨x_b_0, x_b_1, x_b_2, x_b_3⟩ := x_b
          have ⟨x_c_0, x_c_1, x_c_2, x_c_3⟩ := x_c
          go_wp2_with (go_at_call 26; fail)
          refine (rpOrient a1 a2 b1 b2 c1 c2 w2 ha hb hc G.out).mono ?_
          rintro e w8 ⟨rfl, bw8⟩
          clear x_a_0 x_a_1 x_a_2 x_a_3 x_b_0 x_b_1 x_b_2 x_b_3 x_c_0 x_c_1 x_c_2 x_c_3
          have zbw8 := bw8.size
          replace BB := also BB bw8
          replace x_a := x_a.on bw8
          replace x_b := x_b.on bw8
          replace x_c := x_c.on bw8
          go_wp2
          go_ret
          exact ⟨rfl, BB⟩
        · skip
          obtain ⟨g, hg⟩ : ∃ g, g = (areaP a1 a2 b1 b2 c1 c2).sign := ⟨_, rfl⟩
          obtain rfl : r = true := by rw [hr, has_yes]; exact ⟨ha, hb, hc, h0⟩
          have hg0 : ¬ g = 0 := by rw [hg]; exact fun k => h0 (Int.sign_eq_zero_iff_zero.1 k)
          have G : Hid _ := hg
          clear hg h0
          clear hr
          obtain ⟨W, hW, bW, x_a, x_b, x_c, sW⟩ := bs_222 w (.int .i64 a1) (.int .i64 a2) (.int .i64 b1) (.int .i64 b2) (.int .i64 c1) (.int .i64 c2) 23 23 23
          have zbW := bW.size
          have BB := bW
          go_enter Tryz.func8, Tryz.ntmps8
          go_wp2_with (go_at_call 20; fail)
          rw [← hW]
          clear hW
          refine (rlCan a1 a2 W (r2x Ra.out) (r2y Ra.out) ha.symm).mono ?_
          rintro e w0 ⟨rfl, bw0⟩
          have zbw0 := bw0.size
          replace BB := also BB bw0
          replace x_a := x_a.on bw0
          replace x_b := x_b.on bw0
          replace x_c := x_c.on bw0
          have ⟨x_a_0, x_a_1, x_a_2, x_a_3⟩ := x_a
          have ⟨x_b_0, x_b_1, x_b_2, x_b_3⟩ := x_b
          have ⟨x_c_0, x_c_1, x_c_2, x_c_3⟩ := x_c
          go_wp2_with (go_at_call 20; fail)
          refine (rlCan b1 b2 w0 (r2x Rb.out) (r2y Rb.out) hb.symm).mono ?_
          rintro e w1 ⟨rfl, bw1⟩
          clear x_a_0 x_a_1 x_a_2 x_a_3 x_b_0 x_b_1 x_b_2 x_b_3 x_c_0 x_c_1 x_c_2 x_c_3
          have zbw1 := bw1.size
          replace BB := also BB bw1
          replace x_a := x_a.on bw1
          replace x_b := x_b.on bw1
          replace x_c := x_c.on bw1
          have ⟨x_a_0, x_a_1, x_a_2, x_a_3⟩ := x_a
          have ⟨x_b_0, x_b_1, x_b_2, x_b_3⟩ := x_b
          have ⟨x_c_0, x_c_1, x_c_2, x_c_3⟩ := x_c
          go_wp2_with (go_at_call 20; fail)
          refine (rlCan c1 c2 w1 (r2x Rc.out) (r2y Rc.out) hc.symm).mono ?_
          rintro e w2 ⟨rfl, bw2⟩
          clear x_a_0 x_a_1 x_a_2 x_a_3 x_b_0 x_b_1 x_b_2 x_b_3 x_c_0 x_c_1 x_c_2 x_c_3
          have zbw2 := bw2.size
          replace BB := also BB bw2
          replace x_a := x_a.on bw2
          replace x_b := x_b.on bw2
          replace x_c := x_c.on bw2
          have ⟨x_a_0, x_a_1, x_a_2, x_a_3⟩ := x_a
          have ⟨x_b_0, x_b_1, x_b_2, x_b_3⟩ := x_b
          have ⟨x_c_0, x_c_1, x_c_2, x_c_3⟩ := x_c
          go_wp2_with (go_at_call 26; fail)
          refine (rpOrient a1 a2 b1 b2 c1 c2 w2 ha hb hc G.out).mono ?_
          rintro e w8 ⟨rfl, bw8⟩
          clear x_a_0 x_a_1 x_a_2 x_a_3 x_b_0 x_b_1 x_b_2 x_b_3 x_c_0 x_c_1 x_c_2 x_c_3
          have zbw8 := bw8.size
          replace BB := also BB bw8
          replace x_a := x_a.on bw8
          replace x_b := x_b.on bw8
          replace x_c := x_c.on bw8
          go_wp2
          go_ret
          exact ⟨by show Ending.returned (Value.bool (g != 0)) = _; rw [bne_iff_ne.2 hg0], BB⟩
end Go.Proofs.YtcaihoomcdbfnaaGreat

namespace Go.Proofs.YtcaihoomcdbfnaaGreat
open Go.RowKit
set_option linter.unusedVariables false

theorem off_x (a1 a2 b1 b2 c1 c2 : Int) : distP a1 a2 b1 b2 * (c2 - a2) - distP a1 a2 c1 c2 * (b2 - a2) = offX (b1 - a1) (b2 - a2) (c1 - a1) (c2 - a2) := by unfold offX distP; grind
theorem off_y (a1 a2 b1 b2 c1 c2 : Int) : distP a1 a2 c1 c2 * (b1 - a1) - distP a1 a2 b1 b2 * (c1 - a1) = offY (b1 - a1) (b2 - a2) (c1 - a1) (c2 - a2) := by unfold offY distP; grind
theorem sq_small {x P : Int} (h : x * x ≤ P) (hP : P ≤ 1000000000000000000000000000000000000000000000000000000000000000000000000000) : x.natAbs ≤ 40000000000000000000000000000000000000 := by
  refine Nat.le_of_not_lt fun k => ?_
  have := Nat.mul_le_mul (Nat.le_of_lt k) (Nat.le_of_lt k)
  have e : x * x = ((x.natAbs * x.natAbs : Nat) : Int) := (Int.natAbs_mul_self).symm
  omega
theorem off_sum (a1 a2 b1 b2 c1 c2 : Int) : offX (b1 - a1) (b2 - a2) (c1 - a1) (c2 - a2) * offX (b1 - a1) (b2 - a2) (c1 - a1) (c2 - a2) + offY (b1 - a1) (b2 - a2) (c1 - a1) (c2 - a2) * offY (b1 - a1) (b2 - a2) (c1 - a1) (c2 - a2) = rad2 a1 a2 b1 b2 c1 c2 := by
  obtain ⟨e1, e2, e3, e4⟩ := sides a1 a2 b1 b2 c1 c2
  have h := far_a (b1 - a1) (b2 - a2) (c1 - a1) (c2 - a2)
  rw [← e1, ← e2, ← e3] at h
  exact h
theorem rad_small {a1 a2 b1 b2 c1 c2 : Int} (ha : canC a1 a2 = true) (hb : canC b1 b2 = true) (hc : canC c1 c2 = true) : 0 ≤ rad2 a1 a2 b1 b2 c1 c2 ∧ rad2 a1 a2 b1 b2 c1 c2 ≤ 1000000000000000000000000000000000000000000000000000000000000000000000000000 := by
  have h1 := dist_wide ha hb
  have h2 := dist_wide hc ha
  have h3 := dist_wide hb hc
  unfold rad2
  have k := Int.mul_le_mul h1.2 h2.2 h2.1 (by decide)
  have k0 := Int.mul_nonneg h1.1 h2.1
  have m := Int.mul_le_mul k h3.2 h3.1 (by decide)
  exact ⟨Int.mul_nonneg k0 h3.1, Int.le_trans m (by decide)⟩
theorem off_small {a1 a2 b1 b2 c1 c2 : Int} (ha : canC a1 a2 = true) (hb : canC b1 b2 = true) (hc : canC c1 c2 = true) : (offX (b1 - a1) (b2 - a2) (c1 - a1) (c2 - a2)).natAbs ≤ 40000000000000000000000000000000000000 ∧ (offY (b1 - a1) (b2 - a2) (c1 - a1) (c2 - a2)).natAbs ≤ 40000000000000000000000000000000000000 := by
  have h := off_sum a1 a2 b1 b2 c1 c2
  have r := (rad_small ha hb hc).2
  generalize offX (b1 - a1) (b2 - a2) (c1 - a1) (c2 - a2) = X at *
  generalize offY (b1 - a1) (b2 - a2) (c1 - a1) (c2 - a2) = Y at *
  have hx : 0 ≤ X * X := by rw [← Int.natAbs_mul_self]; exact Int.natCast_nonneg _
  have hy : 0 ≤ Y * Y := by rw [← Int.natAbs_mul_self]; exact Int.natCast_nonneg _
  exact ⟨sq_small (P := rad2 a1 a2 b1 b2 c1 c2) (by omega) r, sq_small (P := rad2 a1 a2 b1 b2 c1 c2) (by omega) r⟩
theorem w128_abs {x : Int} (h : x.natAbs ≤ 80000000000000000000000000000000000000) : W128 x := by unfold W128; omega
theorem ar_no {a1 a2 b1 b2 c1 c2 : Int} (h : hasP a1 a2 b1 b2 c1 c2 = false) : arP a1 a2 b1 b2 c1 c2 = 0 := by
  unfold hasP at h
  unfold arP
  cases k : canAll [(a1, a2), (b1, b2), (c1, c2)]
  · rfl
  · rw [k] at h
    simpa using h
theorem below_put6 {B b : Nat} {w w' : World} (h : Below B w w') (hb : B ≤ b) (u0 u1 u2 u3 u4 u5 : Value) : Below B w ((((((w'.setCell ⟨b, 0, none⟩ u0).setCell ⟨b, 1, none⟩ u1).setCell ⟨b, 2, none⟩ u2).setCell ⟨b, 3, none⟩ u3).setCell ⟨b, 4, none⟩ u4).setCell ⟨b, 5, none⟩ u5) := ((((((h.setCell hb u0).setCell hb u1).setCell hb u2).setCell hb u3).setCell hb u4).setCell hb u5)
theorem cell_put6 {w : World} {n k i : Nat} {x : Value} (h : w.cell? ⟨n, i, none⟩ = some x) (hk : n ≠ k) (u0 u1 u2 u3 u4 u5 : Value) : ((((((w.setCell ⟨k, 0, none⟩ u0).setCell ⟨k, 1, none⟩ u1).setCell ⟨k, 2, none⟩ u2).setCell ⟨k, 3, none⟩ u3).setCell ⟨k, 4, none⟩ u4).setCell ⟨k, 5, none⟩ u5).cell? ⟨n, i, none⟩ = some x := (cell_put1 (cell_put1 (cell_put1 (cell_put1 (cell_put1 (cell_put1 h hk u0) hk u1) hk u2) hk u3) hk u4) hk u5)
theorem bs_2226 (w : World) (x00 x01 x10 x11 x20 x21 x30 x31 x32 x33 x34 x35 : Value) (t0 t1 t2 t3 : TypeId) : ∃ W, W = ((((w.alloc (.cells #[x00, x01] t0)).alloc (.cells #[x10, x11] t1)).alloc (.cells #[x20, x21] t2)).alloc (.cells #[x30, x31, x32, x33, x34, x35] t3)) ∧ Below w.heap.size w W ∧ Bx W (w.heap.size) x00 x01 ∧ Bx W (w.heap.size + 1) x10 x11 ∧ Bx W (w.heap.size + 1 + 1) x20 x21 ∧ B6 W (w.heap.size + 1 + 1 + 1) x30 x31 x32 x33 x34 x35 ∧ w.heap.size + 1 + 1 + 1 < W.heap.size := by
  have e0 : Below w.heap.size w (w.alloc (.cells #[x00, x01] t0)) := (Below.refl _ _).alloc (Nat.le_refl _) _
  have h0 := bx_new w x00 x01 t0
  have e1 : Below (w.alloc (.cells #[x00, x01] t0)).heap.size (w.alloc (.cells #[x00, x01] t0)) ((w.alloc (.cells #[x00, x01] t0)).alloc (.cells #[x10, x11] t1)) := (Below.refl _ _).alloc (Nat.le_refl _) _
  have h1 := bx_new (w.alloc (.cells #[x00, x01] t0)) x10 x11 t1
  rw [World.size_alloc] at h1
  have e2 : Below ((w.alloc (.cells #[x00, x01] t0)).alloc (.cells #[x10, x11] t1)).heap.size ((w.alloc (.cells #[x00, x01] t0)).alloc (.cells #[x10, x11] t1)) (((w.alloc (.cells #[x00, x01] t0)).alloc (.cells #[x10, x11] t1)).alloc (.cells #[x20, x21] t2)) := (Below.refl _ _).alloc (Nat.le_refl _) _
  have h2 := bx_new ((w.alloc (.cells #[x00, x01] t0)).alloc (.cells #[x10, x11] t1)) x20 x21 t2
  rw [World.size_alloc, World.size_alloc] at h2
  have e3 : Below (((w.alloc (.cells #[x00, x01] t0)).alloc (.cells #[x10, x11] t1)).alloc (.cells #[x20, x21] t2)).heap.size (((w.alloc (.cells #[x00, x01] t0)).alloc (.cells #[x10, x11] t1)).alloc (.cells #[x20, x21] t2)) ((((w.alloc (.cells #[x00, x01] t0)).alloc (.cells #[x10, x11] t1)).alloc (.cells #[x20, x21] t2)).alloc (.cells #[x30, x31, x32, x33, x34, x35] t3)) := (Below.refl _ _).alloc (Nat.le_refl _) _
  have h3 := b6_new (((w.alloc (.cells #[x00, x01] t0)).alloc (.cells #[x10, x11] t1)).alloc (.cells #[x20, x21] t2)) x30 x31 x32 x33 x34 x35 t3
  rw [World.size_alloc, World.size_alloc, World.size_alloc] at h3
  exact ⟨_, rfl, also (also (also (e0) e1) e2) e3, (((h0.on e1).on e2).on e3), ((h1.on e2).on e3), (h2.on e3), h3, by simp⟩
set_option maxRecDepth 100000 in
set_option maxHeartbeats 8000000 in
theorem cAbout0 (a1 a2 b1 b2 c1 c2 : Int) (hh : hasP a1 a2 b1 b2 c1 c2 = false) (w : World) :
    Calls Tryz.prog 22 #[.agg #[.int .i64 a1, .int .i64 a2], .agg #[.int .i64 b1, .int .i64 b2], .agg #[.int .i64 c1, .int .i64 c2]] w fun e w' => e = .returned (.tuple #[.agg #[.int .i64 0, .int .u64 0, .int .i64 0, .int .u64 0, .int .i64 0, .int .u64 0], .bool false]) ∧ Below w.heap.size w w' := by
  have HU : Hid ((0 : Int) = lw.hi (arP a1 a2 b1 b2 c1 c2)) := by unfold Hid; rw [ar_no hh]; rfl
  have HV : Hid ((0 : Int) = lw.lo (arP a1 a2 b1 b2 c1 c2)) := by unfold Hid; rw [ar_no hh]; rfl
  clear hh
  have R0 : Hid (W128 0) := by unfold Hid W128; omega
  obtain ⟨W, hW, bW, x_a, x_b, x_c, x_r, sW⟩ := bs_2226 w (.int .i64 a1) (.int .i64 a2) (.int .i64 b1) (.int .i64 b2) (.int .i64 c1) (.int .i64 c2) (.int .i64 0) (.int .u64 0) (.int .i64 0) (.int .u64 0) (.int .i64 0) (.int .u64 0) 23 23 23 63
  have zbW := bW.size
  have BB := bW
  go_enter Tryz.func22, Tryz.ntmps22
  go_wp2_with (go_at_call 49; fail)
  rw [← hW]
  clear hW
  refine (pArea a1 a2 b1 b2 c1 c2 W HU.out HV.out).mono ?_
  rintro e w1 ⟨rfl, bw1⟩
  have zbw1 := bw1.size
  replace BB := also BB bw1
  replace x_a := x_a.on bw1
  replace x_b := x_b.on bw1
  replace x_c := x_c.on bw1
  replace x_r := x_r.on bw1
  obtain ⟨V, hV, bV, x_s, sV⟩ := bs_2 w1 (.int .i64 0) (.int .u64 0) 61
  have zbV := bV.size
  replace BB := also BB bV
  replace x_a := x_a.on bV
  replace x_b := x_b.on bV
  replace x_c := x_c.on bV
  replace x_r := x_r.on bV
  go_wp2_with (go_at_call 50; fail)
  rw [← hV]
  clear hV
  refine (xSign 0 (g := 0) rfl rfl R0 rfl V).mono ?_
  rintro e w2 ⟨rfl, bw2⟩
  have zbw2 := bw2.size
  replace BB := also BB bw2
  replace x_a := x_a.on bw2
  replace x_b := x_b.on bw2
  replace x_c := x_c.on bw2
  replace x_r := x_r.on bw2
  replace x_s := x_s.on bw2
  have ⟨x_r_0, x_r_1, x_r_2, x_r_3, x_r_4, x_r_5, x_r_6, x_r_7, x_r_8, x_r_9, x_r_10, x_r_11⟩ := x_r
  go_wp2
  exact bodyPost_ret (v := .tuple #[.agg #[.int .i64 0, .int .u64 0, .int .i64 0, .int .u64 0, .int .i64 0, .int .u64 0], .bool false]) (by simp [results, Tryz.results22, go_sem, *]) rfl (⟨rfl, below_put6 BB (by omega) _ _ _ _ _ _⟩)
def SpAb (eh el fh fl : Int) : Nat → Value → (World → Prop) → (Nat → Prop) → Prop
  | 0 => ValIs (.agg #[.int .i64 eh, .int .u64 el])
  | 1 => ValIs (.agg #[.int .i64 fh, .int .u64 fl])
  | _ => ValIs undef
theorem SpAb_good (eh el fh fl : Int) : GoodSp (SpAb eh el fh fl) := fun j x R A h => match j with
  | 0 => valIs_good h
  | 1 => valIs_good h
  | k + 2 => valIs_good h
def SpAbZ : Nat → List Value
  | 0 => [.int .i64 0, .int .u64 0]
  | 1 => [.int .i64 0, .int .u64 0]
  | _ => []
theorem fuel_SpAb_b0 {bD eD : Nat → Bool} {f : Nat} (hf : f = 2 + (nb (bD 0) + nb (bD 1) + nb (eD 0) + nb (eD 1))) (h : bD 0 = false) : f - 1 = 2 + (nb (upd bD 0 true 0) + nb (upd bD 0 true 1) + nb (eD 0) + nb (eD 1)) := by
  have h1 : nb (bD 0) = 1 := by rw [h]; rfl
  have h2 : nb (upd bD 0 true 0) = 0 := rfl
  have q1 : nb (upd bD 0 true 1) = nb (bD 1) := rfl
  omega
theorem fuel_SpAb_b1 {bD eD : Nat → Bool} {f : Nat} (hf : f = 2 + (nb (bD 0) + nb (bD 1) + nb (eD 0) + nb (eD 1))) (h : bD 1 = false) : f - 1 = 2 + (nb (upd bD 1 true 0) + nb (upd bD 1 true 1) + nb (eD 0) + nb (eD 1)) := by
  have h1 : nb (bD 1) = 1 := by rw [h]; rfl
  have h2 : nb (upd bD 1 true 1) = 0 := rfl
  have q0 : nb (upd bD 1 true 0) = nb (bD 0) := rfl
  omega
theorem fuel_SpAb_e0 {bD eD : Nat → Bool} {f : Nat} (hf : f = 2 + (nb (bD 0) + nb (bD 1) + nb (eD 0) + nb (eD 1))) (h : eD 0 = false) : f - 1 = 2 + (nb (bD 0) + nb (bD 1) + nb (upd eD 0 true 0) + nb (upd eD 0 true 1)) := by
  have h1 : nb (eD 0) = 1 := by rw [h]; rfl
  have h2 : nb (upd eD 0 true 0) = 0 := rfl
  have q1 : nb (upd eD 0 true 1) = nb (eD 1) := rfl
  omega
theorem fuel_SpAb_e1 {bD eD : Nat → Bool} {f : Nat} (hf : f = 2 + (nb (bD 0) + nb (bD 1) + nb (eD 0) + nb (eD 1))) (h : eD 1 = false) : f - 1 = 2 + (nb (bD 0) + nb (bD 1) + nb (upd eD 1 true 0) + nb (upd eD 1 true 1)) := by
  have h1 : nb (eD 1) = 1 := by rw [h]; rfl
  have h2 : nb (upd eD 1 true 1) = 0 := rfl
  have q0 : nb (upd eD 1 true 0) = nb (eD 0) := rfl
  omega
set_option maxRecDepth 100000 in
set_option maxHeartbeats 8000000 in
theorem cAbout (a1 a2 b1 b2 c1 c2 : Int) (hh : hasP a1 a2 b1 b2 c1 c2 = true) {rh rl : Int} (hrh : rh = lw.hi (offX (b1 - a1) (b2 - a2) (c1 - a1) (c2 - a2))) (hrl : rl = lw.lo (offX (b1 - a1) (b2 - a2) (c1 - a1) (c2 - a2))) {sh sl : Int} (hsh : sh = lw.hi (offY (b1 - a1) (b2 - a2) (c1 - a1) (c2 - a2))) (hsl : sl = lw.lo (offY (b1 - a1) (b2 - a2) (c1 - a1) (c2 - a2))) {ph pl : Int} (hph : ph = lw.hi (areaP a1 a2 b1 b2 c1 c2)) (hpl : pl = lw.lo (areaP a1 a2 b1 b2 c1 c2)) (w : World) :
    Calls Tryz.prog 22 #[.agg #[.int .i64 a1, .int .i64 a2], .agg #[.int .i64 b1, .int .i64 b2], .agg #[.int .i64 c1, .int .i64 c2]] w fun e w' => e = .returned (.tuple #[.agg #[.int .i64 rh, .int .u64 rl, .int .i64 sh, .int .u64 sl, .int .i64 ph, .int .u64 pl], .bool true]) ∧ Below w.heap.size w w' := by
  obtain ⟨ha, hb, hc, h0⟩ := has_yes.1 hh
  have hq : canAll [(a1, a2), (b1, b2), (c1, c2)] = true := can3.2 ⟨ha, hb, hc⟩
  have HU : Hid (ph = lw.hi (arP a1 a2 b1 b2 c1 c2)) := by unfold Hid; rw [hph]; unfold arP; rw [hq]; rfl
  have HV : Hid (pl = lw.lo (arP a1 a2 b1 b2 c1 c2)) := by unfold Hid; rw [hpl]; unfold arP; rw [hq]; rfl
  have kw := area_wide ha hb hc
  have Rp : Hid (W128 (areaP a1 a2 b1 b2 c1 c2)) := ⟨by omega, by omega⟩
  obtain ⟨g, hg⟩ : ∃ g : Int, g = (areaP a1 a2 b1 b2 c1 c2).sign := ⟨_, rfl⟩
  have hg0 : (g == 0) = false := by rw [hg]; exact beq_false_of_ne fun k => h0 (Int.sign_eq_zero_iff_zero.1 k)
  have Hg : Hid _ := hg
  have ke := dist_wide ha hb
  have de : diP a1 a2 b1 b2 = distP a1 a2 b1 b2 := by unfold diP; rw [can2.2 ⟨ha, hb⟩]; rfl
  obtain ⟨E, he⟩ : ∃ D, D = distP a1 a2 b1 b2 := ⟨_, rfl⟩
  rw [← he] at ke de
  have Re : Hid (W128 E) := ⟨by omega, by omega⟩
  obtain ⟨eh, heh⟩ : ∃ z, z = lw.hi (E) := ⟨_, rfl⟩
  obtain ⟨el, hel⟩ : ∃ z, z = lw.lo (E) := ⟨_, rfl⟩
  have Heh : Hid _ := heh
  have Hel : Hid _ := hel
  clear heh hel
  have Ieh : Hid (eh = lw.hi (diP a1 a2 b1 b2)) := by unfold Hid; rw [de]; exact Heh
  have Iel : Hid (el = lw.lo (diP a1 a2 b1 b2)) := by unfold Hid; rw [de]; exact Hel
  have kf := dist_wide ha hc
  have df : diP a1 a2 c1 c2 = distP a1 a2 c1 c2 := by unfold diP; rw [can2.2 ⟨ha, hc⟩]; rfl
  obtain ⟨F, hf⟩ : ∃ D, D = distP a1 a2 c1 c2 := ⟨_, rfl⟩
  rw [← hf] at kf df
  have Rf : Hid (W128 F) := ⟨by omega, by omega⟩
  obtain ⟨fh, hfh⟩ : ∃ z, z = lw.hi (F) := ⟨_, rfl⟩
  obtain ⟨fl, hfl⟩ : ∃ z, z = lw.lo (F) := ⟨_, rfl⟩
  have Hfh : Hid _ := hfh
  have Hfl : Hid _ := hfl
  clear hfh hfl
  have Ifh : Hid (fh = lw.hi (diP a1 a2 c1 c2)) := by unfold Hid; rw [df]; exact Hfh
  have Ifl : Hid (fl = lw.lo (diP a1 a2 c1 c2)) := by unfold Hid; rw [df]; exact Hfl
  obtain ⟨x, hx⟩ : ∃ x, x = c2 - a2 := ⟨_, rfl⟩
  have c_x := can_sub (canC_true.1 hc).2 (canC_true.1 ha).2
  rw [← hx] at c_x
  have w_x : wrap64 (c2 - a2) = x := by rw [← hx]; exact c_x.1
  have v_x : IntKind.i64.wrap (c2 - a2) = x := (wrap_i64 _).trans w_x
  have R_x : Hid _ := c_x.2
  have E_x : Hid _ := hx
  clear c_x hx
  obtain ⟨y, hy⟩ : ∃ y, y = b2 - a2 := ⟨_, rfl⟩
  have c_y := can_sub (canC_true.1 hb).2 (canC_true.1 ha).2
  rw [← hy] at c_y
  have w_y : wrap64 (b2 - a2) = y := by rw [← hy]; exact c_y.1
  have v_y : IntKind.i64.wrap (b2 - a2) = y := (wrap_i64 _).trans w_y
  have R_y : Hid _ := c_y.2
  have E_y : Hid _ := hy
  clear c_y hy
  obtain ⟨z, hz⟩ : ∃ z, z = b1 - a1 := ⟨_, rfl⟩
  have c_z := can_sub (canC_true.1 hb).1 (canC_true.1 ha).1
  rw [← hz] at c_z
  have w_z : wrap64 (b1 - a1) = z := by rw [← hz]; exact c_z.1
  have v_z : IntKind.i64.wrap (b1 - a1) = z := (wrap_i64 _).trans w_z
  have R_z : Hid _ := c_z.2
  have E_z : Hid _ := hz
  clear c_z hz
  obtain ⟨t, ht⟩ : ∃ t, t = c1 - a1 := ⟨_, rfl⟩
  have c_t := can_sub (canC_true.1 hc).1 (canC_true.1 ha).1
  rw [← ht] at c_t
  have w_t : wrap64 (c1 - a1) = t := by rw [← ht]; exact c_t.1
  have v_t : IntKind.i64.wrap (c1 - a1) = t := (wrap_i64 _).trans w_t
  have R_t : Hid _ := c_t.2
  have E_t : Hid _ := ht
  clear c_t ht
  have jx : E * x - F * y = offX (b1 - a1) (b2 - a2) (c1 - a1) (c2 - a2) := by rw [he, hf, E_x.out, E_y.out]; exact off_x a1 a2 b1 b2 c1 c2
  have jy : F * z - E * t = offY (b1 - a1) (b2 - a2) (c1 - a1) (c2 - a2) := by rw [he, hf, E_z.out, E_t.out]; exact off_y a1 a2 b1 b2 c1 c2
  have ko := off_small ha hb hc
  rw [← jx] at hrh hrl ko
  rw [← jy] at hsh hsl ko
  have Rr : Hid (W128 (E * x - F * y)) := w128_abs (by omega)
  have Rs : Hid (W128 (F * z - E * t)) := w128_abs (by omega)
  have Hrh : Hid _ := hrh
  have Hrl : Hid _ := hrl
  have Hsh : Hid _ := hsh
  have Hsl : Hid _ := hsl
  have Hph : Hid _ := hph
  have Hpl : Hid _ := hpl
  clear hrh hrl hsh hsl hph hpl
  clear ke kf de df he hf kw jx jy ko hg hq h0 hh
  obtain ⟨W, hW, bW, x_a, x_b, x_c, x_r, sW⟩ := bs_2226 w (.int .i64 a1) (.int .i64 a2) (.int .i64 b1) (.int .i64 b2) (.int .i64 c1) (.int .i64 c2) (.int .i64 0) (.int .u64 0) (.int .i64 0) (.int .u64 0) (.int .i64 0) (.int .u64 0) 23 23 23 63
  have zbW := bW.size
  have BB := bW
  go_enter Tryz.func22, Tryz.ntmps22
  go_wp2_with (go_at_call 49; fail)
  rw [← hW]
  clear hW
  refine (pArea a1 a2 b1 b2 c1 c2 W HU.out HV.out).mono ?_
  rintro e w1 ⟨rfl, bw1⟩
  have zbw1 := bw1.size
  replace BB := also BB bw1
  replace x_a := x_a.on bw1
  replace x_b := x_b.on bw1
  replace x_c := x_c.on bw1
  replace x_r := x_r.on bw1
  obtain ⟨V, hV, bV, x_s, sV⟩ := bs_2 w1 (.int .i64 ph) (.int .u64 pl) 61
  have zbV := bV.size
  replace BB := also BB bV
  replace x_a := x_a.on bV
  replace x_b := x_b.on bV
  replace x_c := x_c.on bV
  replace x_r := x_r.on bV
  go_wp2_with (go_at_call 50; fail)
  rw [← hV]
  clear hV
  refine (xSign _ Hph.out Hpl.out Rp Hg.out V).mono ?_
  rintro e w2 ⟨rfl, bw2⟩
  have zbw2 := bw2.size
  replace BB := also BB bw2
  replace x_a := x_a.on bw2
  replace x_b := x_b.on bw2
  replace x_c := x_c.on bw2
  replace x_r := x_r.on bw2
  replace x_s := x_s.on bw2
  go_wp2
  obtain ⟨QQ, hQQ⟩ : ∃ QQ : Exit → Act → World → Prop, QQ = fun e act wr => e = .normal ∧ ∃ (pma0 : Nat) (pma1 : Nat) , act = ⟨#[.agg #[.int .i64 a1, .int .i64 a2], .agg #[.int .i64 b1, .int .i64 b2], .agg #[.int .i64 c1, .int .i64 c2], .pointer (some ⟨w.heap.size, 0, none⟩), .pointer (some ⟨w.heap.size + 1, 0, none⟩), .pointer (some ⟨w.heap.size + 1 + 1, 0, none⟩), .pointer (some ⟨w.heap.size + 1 + 1 + 1, 0, none⟩), .bool false, .pointer (some ⟨w1.heap.size, 0, none⟩), .pointer (some ⟨pma0, 0, none⟩), .pointer (some ⟨pma1, 0, none⟩), .agg #[.int .i64 a1, .int .i64 a2], .agg #[.int .i64 b1, .int .i64 b2], .agg #[.int .i64 c1, .int .i64 c2], .agg #[.int .i64 ph, .int .u64 pl], .agg #[.int .i64 ph, .int .u64 pl], .int .i64 g, .bool false, undef, .agg #[.int .i64 a1, .int .i64 a2], .agg #[.int .i64 b1, .int .i64 b2], .agg #[.int .i64 eh, .int .u64 el], .agg #[.int .i64 a1, .int .i64 a2], .agg #[.int .i64 c1, .int .i64 c2], .agg #[.int .i64 fh, .int .u64 fl], undef, undef, undef, undef, undef, undef, undef, undef, undef, undef, undef, undef, undef, undef, undef, undef, undef, undef, undef, undef, undef, undef, undef, undef, undef, undef, undef, undef], []⟩ ∧ Bx wr (w.heap.size) (.int .i64 a1) (.int .i64 a2) ∧ Bx wr (w.heap.size + 1) (.int .i64 b1) (.int .i64 b2) ∧ Bx wr (w.heap.size + 1 + 1) (.int .i64 c1) (.int .i64 c2) ∧ B6 wr (w.heap.size + 1 + 1 + 1) (.int .i64 0) (.int .u64 0) (.int .i64 0) (.int .u64 0) (.int .i64 0) (.int .u64 0) ∧ Bx wr (w1.heap.size) (.int .i64 ph) (.int .u64 pl) ∧ Bx wr pma0 (.int .i64 eh) (.int .u64 el) ∧ Bx wr pma1 (.int .i64 fh) (.int .u64 fl) ∧ Below w.heap.size w wr ∧ w2.heap.size ≤ wr.heap.size ∧ (w2.heap.size ≤ pma0 ∧ pma0 < wr.heap.size) ∧ (w2.heap.size ≤ pma1 ∧ pma1 < wr.heap.size) := ⟨_, rfl⟩
  have HQQ : Hid _ := hQQ
  clear hQQ
  refine wp_mono (Q := QQ) ?_ ?_
  · refine wp_region_held_drew (S := (fun w' => w'.cell? ⟨w.heap.size, 0, none⟩ = some (.int .i64 a1) ∧ w'.cell? ⟨w.heap.size, 1, none⟩ = some (.int .i64 a2) ∧ w'.cell? ⟨w.heap.size + 1, 0, none⟩ = some (.int .i64 b1) ∧ w'.cell? ⟨w.heap.size + 1, 1, none⟩ = some (.int .i64 b2) ∧ w'.cell? ⟨w.heap.size + 1 + 1, 0, none⟩ = some (.int .i64 c1) ∧ w'.cell? ⟨w.heap.size + 1 + 1, 1, none⟩ = some (.int .i64 c2) ∧ Below w.heap.size w w')) (by kernel_rfl) ?_ (fun hHeld => ?_)
    · exact ⟨x_a.c0, x_a.c1, x_b.c0, x_b.c1, x_c.c0, x_c.c1, BB.drew⟩
    refine take_yes (i := 0) (v := ?vma0x1) rfl (by kernel_rfl) (by kernel_rfl) (by kernel_rfl) (fun _ _ _ h => by rw [HQQ.out] at h; exact Exit.noConfusion h.1) (by rfl) (by assumption) ?hyma0x1 ?restma0x1
    case hyma0x1 => (intro w hSw; (try dsimp only at hSw); first | (go_simp; done) | (go_simp; with_reducible rfl))
    simp only [Act.put, List.setIfInBounds_toArray, List.set_cons_zero, List.set_cons_succ]
    refine take_yes (i := 1) (v := ?vma1x2) rfl (by kernel_rfl) (by kernel_rfl) (by kernel_rfl) (fun _ _ _ h => by rw [HQQ.out] at h; exact Exit.noConfusion h.1) (by rfl) (by assumption) ?hyma1x2 ?restma1x2
    case hyma1x2 => (intro w hSw; (try dsimp only at hSw); first | (go_simp; done) | (go_simp; with_reducible rfl))
    simp only [Act.put, List.setIfInBounds_toArray, List.set_cons_zero, List.set_cons_succ]
    refine take_yes (i := 3) (v := ?vma3x3) rfl (by kernel_rfl) (by kernel_rfl) (by kernel_rfl) (fun _ _ _ h => by rw [HQQ.out] at h; exact Exit.noConfusion h.1) (by rfl) (by assumption) ?hyma3x3 ?restma3x3
    case hyma3x3 => (intro w hSw; (try dsimp only at hSw); first | (go_simp; done) | (go_simp; with_reducible rfl))
    simp only [Act.put, List.setIfInBounds_toArray, List.set_cons_zero, List.set_cons_succ]
    refine take_yes (i := 4) (v := ?vma4x4) rfl (by kernel_rfl) (by kernel_rfl) (by kernel_rfl) (fun _ _ _ h => by rw [HQQ.out] at h; exact Exit.noConfusion h.1) (by rfl) (by assumption) ?hyma4x4 ?restma4x4
    case hyma4x4 => (intro w hSw; (try dsimp only at hSw); first | (go_simp; done) | (go_simp; with_reducible rfl))
    simp only [Act.put, List.setIfInBounds_toArray, List.set_cons_zero, List.set_cons_succ]
    clear hHeld
    obtain ⟨INV, hINV⟩ : ∃ INV : Nat → Array Bool → Act → World → Prop, INV = fun f L act wr => ∃ (bD eD : Nat → Bool) (pD : Nat → Nat) (RD : Nat → World → Prop) (AD : Nat → Nat → Prop) (uD vD : Nat → Value), f = 2 + (nb (bD 0) + nb (bD 1) + nb (eD 0) + nb (eD 1)) ∧ L = #[true, true, bD 0, true, true, bD 1, eD 0, eD 1, false, false] ∧ act = ⟨#[.agg #[.int .i64 a1, .int .i64 a2], .agg #[.int .i64 b1, .int .i64 b2], .agg #[.int .i64 c1, .int .i64 c2], .pointer (some ⟨w.heap.size, 0, none⟩), .pointer (some ⟨w.heap.size + 1, 0, none⟩), .pointer (some ⟨w.heap.size + 1 + 1, 0, none⟩), .pointer (some ⟨w.heap.size + 1 + 1 + 1, 0, none⟩), .bool false, .pointer (some ⟨w1.heap.size, 0, none⟩), vD 0, vD 1, .agg #[.int .i64 a1, .int .i64 a2], .agg #[.int .i64 b1, .int .i64 b2], .agg #[.int .i64 c1, .int .i64 c2], .agg #[.int .i64 ph, .int .u64 pl], .agg #[.int .i64 ph, .int .u64 pl], .int .i64 g, .bool false, undef, .agg #[.int .i64 a1, .int .i64 a2], .agg #[.int .i64 b1, .int .i64 b2], uD 0, .agg #[.int .i64 a1, .int .i64 a2], .agg #[.int .i64 c1, .int .i64 c2], uD 1, undef, undef, undef, undef, undef, undef, undef, undef, undef, undef, undef, undef, undef, undef, undef, undef, undef, undef, undef, undef, undef, undef, undef, undef, undef, undef, undef, undef], []⟩ ∧ (bD 1 = true → bD 0 = true) ∧ Mk w2 SpAbZ (SpAb eh el fh fl) bD eD pD RD AD uD vD wr := ⟨_, rfl⟩
    have HINV : Hid _ := hINV
    clear hINV
    refine phase INV ?stepma _ _ _ _ ?initma
    case initma => rw [HINV.out]; exact ⟨fun _ => false, fun _ => false, fun _ => 0, fun _ _ => True, fun _ _ => True, fun _ => undef, fun _ => undef, rfl, rfl, rfl, fun h => Bool.noConfusion h, Mk.start _ _ _ (Below.refl _ _).drew⟩
    intro f L act wr hinv
    rw [HINV.out] at hinv
    obtain ⟨bD, eD, pD, RD, AD, uD, vD, hf, rfl, rfl, ch0, hm⟩ := hinv
    by_cases hall : bD 1 = true ∧ eD 0 = true ∧ eD 1 = true
    · refine Or.inl ?_
      obtain ⟨hb1, he0, he1⟩ := hall
      have hb0 := ch0 hb1
      simp only [hb0, hb1, he0, he1, nb] at hf
      subst hf
      rw [hb0, hb1, he0, he1, hm.ptr 0 he0, hm.ptr 1 he1]
      obtain ⟨hu0, _, _⟩ : ValIs _ _ _ _ := hm.spec 0 hb0
      rw [hu0]
      obtain ⟨hu1, _, _⟩ : ValIs _ _ _ _ := hm.spec 1 hb1
      rw [hu1]
      have y_pma0 : Bx wr (pD 0) (.int .i64 0) (.int .u64 0) := bx_row (hm.blk 0 he0)
      have gpma0 := hm.old 0 he0
      have ltpma0 := hm.lt 0 he0
      have y_pma1 : Bx wr (pD 1) (.int .i64 0) (.int .u64 0) := bx_row (hm.blk 1 he1)
      have gpma1 := hm.old 1 he1
      have ltpma1 := hm.lt 1 he1
      have ne_0_1 : pD 0 ≠ pD 1 := hm.ne 0 1 he0 he1 (by decide)
      have BU := hm.bel
      replace x_a := x_a.on BU
      replace x_b := x_b.on BU
      replace x_c := x_c.on BU
      replace x_r := x_r.on BU
      replace x_s := x_s.on BU
      replace BB := also BB BU
      have hHeld : ((fun w' => w'.cell? ⟨w.heap.size, 0, none⟩ = some (.int .i64 a1) ∧ w'.cell? ⟨w.heap.size, 1, none⟩ = some (.int .i64 a2) ∧ w'.cell? ⟨w.heap.size + 1, 0, none⟩ = some (.int .i64 b1) ∧ w'.cell? ⟨w.heap.size + 1, 1, none⟩ = some (.int .i64 b2) ∧ w'.cell? ⟨w.heap.size + 1 + 1, 0, none⟩ = some (.int .i64 c1) ∧ w'.cell? ⟨w.heap.size + 1 + 1, 1, none⟩ = some (.int .i64 c2) ∧ Below w.heap.size w w')) wr := ⟨x_a.c0, x_a.c1, x_b.c0, x_b.c1, x_c.c0, x_c.c1, BB⟩
      clear hm HINV INV ch0
      generalize pD 0 = pma0 at *
      generalize pD 1 = pma1 at *
      dsimp only at hHeld
      have ⟨c_pma0_0, c_pma0_1, c_pma0_2, c_pma0_3⟩ : Bx wr pma0 (.int .i64 0) (.int .u64 0) := y_pma0
      refine take_call (i := 8) rfl (by kernel_rfl) (fun Kc hK => ?_)
      go_simp
      refine hK.out _ _ ⟨cell_put2 hHeld.1 (by omega) _ _, cell_put2 hHeld.2.1 (by omega) _ _, cell_put2 hHeld.2.2.1 (by omega) _ _, cell_put2 hHeld.2.2.2.1 (by omega) _ _, cell_put2 hHeld.2.2.2.2.1 (by omega) _ _, cell_put2 hHeld.2.2.2.2.2.1 (by omega) _ _, below_put2 hHeld.2.2.2.2.2.2 (by omega) _ _⟩ (fun hHeld => ?_)
      clear hK Kc
      have ⟨c_pma1_0, c_pma1_1, c_pma1_2, c_pma1_3⟩ : Bx ((wr.setCell ⟨pma0, 0, none⟩ (.int .i64 eh)).setCell ⟨pma0, 1, none⟩ (.int .u64 el)) pma1 (.int .i64 0) (.int .u64 0) := ((y_pma1.put ne_0_1).put ne_0_1)
      refine take_call (i := 9) rfl (by kernel_rfl) (fun Kc hK => ?_)
      go_simp
      refine hK.out _ _ ⟨cell_put2 hHeld.1 (by omega) _ _, cell_put2 hHeld.2.1 (by omega) _ _, cell_put2 hHeld.2.2.1 (by omega) _ _, cell_put2 hHeld.2.2.2.1 (by omega) _ _, cell_put2 hHeld.2.2.2.2.1 (by omega) _ _, cell_put2 hHeld.2.2.2.2.2.1 (by omega) _ _, below_put2 hHeld.2.2.2.2.2.2 (by omega) _ _⟩ (fun hHeld => ?_)
      clear hK Kc
      refine wpAnyH_done (by kernel_rfl) ?_ _
      rw [HQQ.out]
      exact ⟨rfl, pma0, pma1, rfl, ((((x_a.put (by omega)).put (by omega)).put (by omega)).put (by omega)), ((((x_b.put (by omega)).put (by omega)).put (by omega)).put (by omega)), ((((x_c.put (by omega)).put (by omega)).put (by omega)).put (by omega)), ((((x_r.put (by omega)).put (by omega)).put (by omega)).put (by omega)), ((((x_s.put (by omega)).put (by omega)).put (by omega)).put (by omega)), ((y_pma0.set.put (fun e => ne_0_1 e.symm)).put (fun e => ne_0_1 e.symm)), ((y_pma1.put ne_0_1).put ne_0_1).set, (below_put2 (below_put2 BB (by omega) _ _) (by omega) _ _), by have := BU.size; simp only [World.size_setCell]; omega, ⟨gpma0, by simp only [World.size_setCell]; omega⟩, ⟨gpma1, by simp only [World.size_setCell]; omega⟩⟩
    · refine Or.inr ⟨f - 1, by omega, ?nema, ?opsma⟩
      case nema =>
        cases he0 : eD 0
        · exact ready_ne (i := 6) (by decide) (by kernel_rfl)
        cases he1 : eD 1
        · exact ready_ne (i := 7) (by decide) (by kernel_rfl)
        cases hb0 : bD 0
        · exact ready_ne (i := 2) (by decide) (by kernel_rfl)
        cases hb1 : bD 1
        · exact ready_ne (i := 5) (by decide) (by kernel_rfl)
        exact absurd ⟨hb1, he0, he1⟩ hall
      case opsma =>
        intro i hi
        obtain ⟨hlt, hnot, hdep⟩ := ready_at hi
        replace hlt : i < 10 := hlt
        obtain rfl | rfl | rfl | rfl | rfl | rfl | rfl | rfl | rfl | rfl : i = 0 ∨ i = 1 ∨ i = 2 ∨ i = 3 ∨ i = 4 ∨ i = 5 ∨ i = 6 ∨ i = 7 ∨ i = 8 ∨ i = 9 := by omega
        · skip
          exact Bool.noConfusion (show true = false from hnot)
        · skip
          exact Bool.noConfusion (show true = false from hnot)
        · skip
          have hbj : bD 0 = false := hnot
          refine ⟨_, rfl, fun K' hK => ?_⟩
          go_simp
          (go_at_call 51; refine (pDist a1 a2 b1 b2 _ Ieh.out Iel.out).mono ?_; rintro e' X ⟨rfl, bX⟩)
          have hm' := hm.call (SpAb_good eh el fh fl) 0 bX (.agg #[.int .i64 eh, .int .u64 el]) (fun _ => True) (fun _ => True) ⟨rfl, rfl, rfl⟩ trivial (fun i hi => trivial)
          refine hK.out _ _ ⟨cell_on hm'.bel x_a.c0, cell_on hm'.bel x_a.c1, cell_on hm'.bel x_b.c0, cell_on hm'.bel x_b.c1, cell_on hm'.bel x_c.c0, cell_on hm'.bel x_c.c1, also BB hm'.bel⟩ ?_
          rw [HINV.out]
          exact ⟨upd bD 0 true, eD, pD, upd RD 0 (fun _ => True), upd AD 0 (fun _ => True), upd uD 0 (.agg #[.int .i64 eh, .int .u64 el]), vD, fuel_SpAb_b0 hf hbj, rfl, rfl, fun _ => rfl, hm'⟩
        · skip
          exact Bool.noConfusion (show true = false from hnot)
        · skip
          exact Bool.noConfusion (show true = false from hnot)
        · skip
          have hbj : bD 1 = false := hnot
          have hprev : bD 0 = true := hdep _ rfl 2 _ rfl rfl
          refine ⟨_, rfl, fun K' hK => ?_⟩
          go_simp
          (go_at_call 51; refine (pDist a1 a2 c1 c2 _ Ifh.out Ifl.out).mono ?_; rintro e' X ⟨rfl, bX⟩)
          have hm' := hm.call (SpAb_good eh el fh fl) 1 bX (.agg #[.int .i64 fh, .int .u64 fl]) (fun _ => True) (fun _ => True) ⟨rfl, rfl, rfl⟩ trivial (fun i hi => trivial)
          refine hK.out _ _ ⟨cell_on hm'.bel x_a.c0, cell_on hm'.bel x_a.c1, cell_on hm'.bel x_b.c0, cell_on hm'.bel x_b.c1, cell_on hm'.bel x_c.c0, cell_on hm'.bel x_c.c1, also BB hm'.bel⟩ ?_
          rw [HINV.out]
          exact ⟨upd bD 1 true, eD, pD, upd RD 1 (fun _ => True), upd AD 1 (fun _ => True), upd uD 1 (.agg #[.int .i64 fh, .int .u64 fl]), vD, fuel_SpAb_b1 hf hbj, rfl, rfl, fun _ => hprev, hm'⟩
        · skip
          have hei : eD 0 = false := hnot
          refine ⟨_, rfl, fun K' hK => ?_⟩
          go_simp
          have hm' := hm.alloc (SpAb_good eh el fh fl) 0 61 hei
          refine hK.out _ _ ⟨cell_on hm'.bel x_a.c0, cell_on hm'.bel x_a.c1, cell_on hm'.bel x_b.c0, cell_on hm'.bel x_b.c1, cell_on hm'.bel x_c.c0, cell_on hm'.bel x_c.c1, also BB hm'.bel⟩ ?_
          rw [HINV.out]
          exact ⟨bD, upd eD 0 true, upd pD 0 wr.heap.size, RD, AD, uD, upd vD 0 (.pointer (some ⟨wr.heap.size, 0, none⟩)), fuel_SpAb_e0 hf hei, rfl, rfl, ch0, hm'⟩
        · skip
          have hei : eD 1 = false := hnot
          refine ⟨_, rfl, fun K' hK => ?_⟩
          go_simp
          have hm' := hm.alloc (SpAb_good eh el fh fl) 1 61 hei
          refine hK.out _ _ ⟨cell_on hm'.bel x_a.c0, cell_on hm'.bel x_a.c1, cell_on hm'.bel x_b.c0, cell_on hm'.bel x_b.c1, cell_on hm'.bel x_c.c0, cell_on hm'.bel x_c.c1, also BB hm'.bel⟩ ?_
          rw [HINV.out]
          exact ⟨bD, upd eD 1 true, upd pD 1 wr.heap.size, RD, AD, uD, upd vD 1 (.pointer (some ⟨wr.heap.size, 0, none⟩)), fuel_SpAb_e1 hf hei, rfl, rfl, ch0, hm'⟩
        · skip
          exact absurd ⟨hdep _ rfl 2 _ rfl rfl, hdep _ rfl 0 _ rfl rfl, hdep _ rfl 10 _ rfl rfl⟩ hall
        · skip
          exact Bool.noConfusion (show false = true from hdep _ rfl 2 _ rfl rfl)
  rw [HQQ.out]
  rintro e act Y1 ⟨rfl, pma0, pma1, rfl, x_a, x_b, x_c, x_r, x_s, x_m, x_n, BB, z_Y1, z_Y1_pma0, z_Y1_pma1⟩
  clear HQQ QQ
  try dsimp only
  go_wp2
  have dd1 : Below Y1.heap.size Y1 Y1.drew := (Below.refl _ _).drew
  have zdd1 := dd1.size
  replace BB := also BB dd1
  replace x_a := x_a.on dd1
  replace x_b := x_b.on dd1
  replace x_c := x_c.on dd1
  replace x_r := x_r.on dd1
  replace x_s := x_s.on dd1
  replace x_m := x_m.on dd1
  replace x_n := x_n.on dd1
  refine wp_region_held_drew (S := (fun w' => w'.cell? ⟨w.heap.size, 0, none⟩ = some (.int .i64 a1) ∧ w'.cell? ⟨w.heap.size, 1, none⟩ = some (.int .i64 a2) ∧ w'.cell? ⟨w.heap.size + 1, 0, none⟩ = some (.int .i64 b1) ∧ w'.cell? ⟨w.heap.size + 1, 1, none⟩ = some (.int .i64 b2) ∧ w'.cell? ⟨w.heap.size + 1 + 1, 0, none⟩ = some (.int .i64 c1) ∧ w'.cell? ⟨w.heap.size + 1 + 1, 1, none⟩ = some (.int .i64 c2) ∧ w'.cell? ⟨w1.heap.size, 0, none⟩ = some (.int .i64 ph) ∧ w'.cell? ⟨w1.heap.size, 1, none⟩ = some (.int .u64 pl) ∧ w'.cell? ⟨pma0, 0, none⟩ = some (.int .i64 eh) ∧ w'.cell? ⟨pma0, 1, none⟩ = some (.int .u64 el) ∧ w'.cell? ⟨pma1, 0, none⟩ = some (.int .i64 fh) ∧ w'.cell? ⟨pma1, 1, none⟩ = some (.int .u64 fl) ∧ Below w.heap.size w w')) (by kernel_rfl) ?_ (fun hHeld => ?_)
  · exact ⟨x_a.c0, x_a.c1, x_b.c0, x_b.c1, x_c.c0, x_c.c1, x_s.c0, x_s.c1, x_m.c0, x_m.c1, x_n.c0, x_n.c1, BB⟩
  refine take_yes (i := 0) (v := ?vs0) rfl (by kernel_rfl) (by kernel_rfl) (by kernel_rfl) (fun _ _ _ h => h) (by rfl) (by assumption) ?hys0 ?rests0
  case hys0 => (intro w hSw; (try dsimp only at hSw); first | (go_simp; done) | (go_simp; with_reducible rfl))
  simp only [Act.put, List.setIfInBounds_toArray, List.set_cons_zero, List.set_cons_succ]
  refine take_yes (i := 1) (v := ?vs1) rfl (by kernel_rfl) (by kernel_rfl) (by kernel_rfl) (fun _ _ _ h => h) (by rfl) (by assumption) ?hys1 ?rests1
  case hys1 => (intro w hSw; (try dsimp only at hSw); first | (go_simp; done) | (go_simp; with_reducible rfl))
  simp only [Act.put, List.setIfInBounds_toArray, List.set_cons_zero, List.set_cons_succ]
  refine take_yes (i := 2) (v := ?vs2) rfl (by kernel_rfl) (by kernel_rfl) (by kernel_rfl) (fun _ _ _ h => h) (by rfl) (by assumption) ?hys2 ?rests2
  case hys2 => (intro w hSw; (try dsimp only at hSw); first | (go_simp; done) | (go_simp; with_reducible rfl))
  simp only [Act.put, List.setIfInBounds_toArray, List.set_cons_zero, List.set_cons_succ]
  refine take_yes (i := 3) (v := ?vs3) rfl (by kernel_rfl) (by kernel_rfl) (by kernel_rfl) (fun _ _ _ h => h) (by rfl) (by assumption) ?hys3 ?rests3
  case hys3 => (intro w hSw; (try dsimp only at hSw); first | (go_simp; done) | (go_simp; with_reducible rfl))
  simp only [Act.put, List.setIfInBounds_toArray, List.set_cons_zero, List.set_cons_succ]
  refine take_yes (i := 4) (v := ?vs4) rfl (by kernel_rfl) (by kernel_rfl) (by kernel_rfl) (fun _ _ _ h => h) (by rfl) (by assumption) ?hys4 ?rests4
  case hys4 => (intro w hSw; (try dsimp only at hSw); first | (go_simp; done) | (go_simp; with_reducible rfl))
  simp only [Act.put, List.setIfInBounds_toArray, List.set_cons_zero, List.set_cons_succ]
  refine take_yes (i := 5) (v := ?vs5) rfl (by kernel_rfl) (by kernel_rfl) (by kernel_rfl) (fun _ _ _ h => h) (by rfl) (by assumption) ?hys5 ?rests5
  case hys5 => (intro w hSw; (try dsimp only at hSw); first | (go_simp; done) | (go_simp; with_reducible rfl))
  simp only [Act.put, List.setIfInBounds_toArray, List.set_cons_zero, List.set_cons_succ]
  refine take_yes (i := 6) (v := ?vs6) rfl (by kernel_rfl) (by kernel_rfl) (by kernel_rfl) (fun _ _ _ h => h) (by rfl) (by assumption) ?hys6 ?rests6
  case hys6 => (intro w hSw; (try dsimp only at hSw); first | (go_simp; done) | (go_simp; with_reducible rfl))
  simp only [Act.put, List.setIfInBounds_toArray, List.set_cons_zero, List.set_cons_succ]
  refine take_yes (i := 7) (v := ?vs7) rfl (by kernel_rfl) (by kernel_rfl) (by kernel_rfl) (fun _ _ _ h => h) (by rfl) (by assumption) ?hys7 ?rests7
  case hys7 => (intro w hSw; (try dsimp only at hSw); first | (go_simp; done) | (go_simp; with_reducible rfl))
  simp only [Act.put, List.setIfInBounds_toArray, List.set_cons_zero, List.set_cons_succ]
  refine take_yes (i := 8) (v := ?vs8) rfl (by kernel_rfl) (by kernel_rfl) (by kernel_rfl) (fun _ _ _ h => h) (by rfl) (by assumption) ?hys8 ?rests8
  case hys8 => (intro w hSw; (try dsimp only at hSw); first | (go_simp; done) | (go_simp; with_reducible rfl))
  simp only [Act.put, List.setIfInBounds_toArray, List.set_cons_zero, List.set_cons_succ]
  refine take_yes (i := 9) (v := ?vs9) rfl (by kernel_rfl) (by kernel_rfl) (by kernel_rfl) (fun _ _ _ h => h) (by rfl) (by assumption) ?hys9 ?rests9
  case hys9 => (intro w hSw; (try dsimp only at hSw); first | (go_simp; done) | (go_simp; with_reducible rfl))
  simp only [Act.put, List.setIfInBounds_toArray, List.set_cons_zero, List.set_cons_succ]
  refine take_yes (i := 10) (v := ?vs10) rfl (by kernel_rfl) (by kernel_rfl) (by kernel_rfl) (fun _ _ _ h => h) (by rfl) (by assumption) ?hys10 ?rests10
  case hys10 => (intro w hSw; (try dsimp only at hSw); first | (go_simp; done) | (go_simp; with_reducible rfl))
  simp only [Act.put, List.setIfInBounds_toArray, List.set_cons_zero, List.set_cons_succ]
  refine take_yes (i := 11) (v := ?vs11) rfl (by kernel_rfl) (by kernel_rfl) (by kernel_rfl) (fun _ _ _ h => h) (by rfl) (by assumption) ?hys11 ?rests11
  case hys11 => (intro w hSw; (try dsimp only at hSw); first | (go_simp; done) | (go_simp; with_reducible rfl))
  simp only [Act.put, List.setIfInBounds_toArray, List.set_cons_zero, List.set_cons_succ]
  refine take_yes (i := 13) (v := ?vs13) rfl (by kernel_rfl) (by kernel_rfl) (by kernel_rfl) (fun _ _ _ h => h) (by rfl) (by assumption) ?hys13 ?rests13
  case hys13 => (intro w hSw; (try dsimp only at hSw); first | (go_simp; done) | (go_simp; with_reducible rfl))
  simp only [Act.put, List.setIfInBounds_toArray, List.set_cons_zero, List.set_cons_succ]
  refine take_yes (i := 14) (v := ?vs14) rfl (by kernel_rfl) (by kernel_rfl) (by kernel_rfl) (fun _ _ _ h => h) (by rfl) (by assumption) ?hys14 ?rests14
  case hys14 => (intro w hSw; (try dsimp only at hSw); first | (go_simp; done) | (go_simp; with_reducible rfl))
  simp only [Act.put, List.setIfInBounds_toArray, List.set_cons_zero, List.set_cons_succ]
  refine take_yes (i := 15) (v := ?vs15) rfl (by kernel_rfl) (by kernel_rfl) (by kernel_rfl) (fun _ _ _ h => h) (by rfl) (by assumption) ?hys15 ?rests15
  case hys15 => (intro w hSw; (try dsimp only at hSw); first | (go_simp; done) | (go_simp; with_reducible rfl))
  simp only [Act.put, List.setIfInBounds_toArray, List.set_cons_zero, List.set_cons_succ]
  refine take_yes (i := 16) (v := ?vs16) rfl (by kernel_rfl) (by kernel_rfl) (by kernel_rfl) (fun _ _ _ h => h) (by rfl) (by assumption) ?hys16 ?rests16
  case hys16 => (intro w hSw; (try dsimp only at hSw); first | (go_simp; done) | (go_simp; with_reducible rfl))
  simp only [Act.put, List.setIfInBounds_toArray, List.set_cons_zero, List.set_cons_succ]
  refine take_yes (i := 17) (v := ?vs17) rfl (by kernel_rfl) (by kernel_rfl) (by kernel_rfl) (fun _ _ _ h => h) (by rfl) (by assumption) ?hys17 ?rests17
  case hys17 => (intro w hSw; (try dsimp only at hSw); first | (go_simp; done) | (go_simp; with_reducible rfl))
  simp only [Act.put, List.setIfInBounds_toArray, List.set_cons_zero, List.set_cons_succ]
  refine take_yes (i := 18) (v := ?vs18) rfl (by kernel_rfl) (by kernel_rfl) (by kernel_rfl) (fun _ _ _ h => h) (by rfl) (by assumption) ?hys18 ?rests18
  case hys18 => (intro w hSw; (try dsimp only at hSw); first | (go_simp; done) | (go_simp; with_reducible rfl))
  simp only [Act.put, List.setIfInBounds_toArray, List.set_cons_zero, List.set_cons_succ]
  refine take_yes (i := 19) (v := ?vs19) rfl (by kernel_rfl) (by kernel_rfl) (by kernel_rfl) (fun _ _ _ h => h) (by rfl) (by assumption) ?hys19 ?rests19
  case hys19 => (intro w hSw; (try dsimp only at hSw); first | (go_simp; done) | (go_simp; with_reducible rfl))
  simp only [Act.put, List.setIfInBounds_toArray, List.set_cons_zero, List.set_cons_succ]
  refine take_yes (i := 20) (v := ?vs20) rfl (by kernel_rfl) (by kernel_rfl) (by kernel_rfl) (fun _ _ _ h => h) (by rfl) (by assumption) ?hys20 ?rests20
  case hys20 => (intro w hSw; (try dsimp only at hSw); first | (go_simp; done) | (go_simp; with_reducible rfl))
  simp only [Act.put, List.setIfInBounds_toArray, List.set_cons_zero, List.set_cons_succ]
  refine take_yes (i := 21) (v := ?vs21) rfl (by kernel_rfl) (by kernel_rfl) (by kernel_rfl) (fun _ _ _ h => h) (by rfl) (by assumption) ?hys21 ?rests21
  case hys21 => (intro w hSw; (try dsimp only at hSw); first | (go_simp; done) | (go_simp; with_reducible rfl))
  simp only [Act.put, List.setIfInBounds_toArray, List.set_cons_zero, List.set_cons_succ]
  refine take_yes (i := 22) (v := ?vs22) rfl (by kernel_rfl) (by kernel_rfl) (by kernel_rfl) (fun _ _ _ h => h) (by rfl) (by assumption) ?hys22 ?rests22
  case hys22 => (intro w hSw; (try dsimp only at hSw); first | (go_simp; done) | (go_simp; with_reducible rfl))
  simp only [Act.put, List.setIfInBounds_toArray, List.set_cons_zero, List.set_cons_succ]
  refine take_yes (i := 23) (v := ?vs23) rfl (by kernel_rfl) (by kernel_rfl) (by kernel_rfl) (fun _ _ _ h => h) (by rfl) (by assumption) ?hys23 ?rests23
  case hys23 => (intro w hSw; (try dsimp only at hSw); first | (go_simp; done) | (go_simp; with_reducible rfl))
  simp only [Act.put, List.setIfInBounds_toArray, List.set_cons_zero, List.set_cons_succ]
  refine take_yes (i := 24) (v := ?vs24) rfl (by kernel_rfl) (by kernel_rfl) (by kernel_rfl) (fun _ _ _ h => h) (by rfl) (by assumption) ?hys24 ?rests24
  case hys24 => (intro w hSw; (try dsimp only at hSw); first | (go_simp; done) | (go_simp; with_reducible rfl))
  simp only [Act.put, List.setIfInBounds_toArray, List.set_cons_zero, List.set_cons_succ]
  refine take_yes (i := 26) (v := ?vs26) rfl (by kernel_rfl) (by kernel_rfl) (by kernel_rfl) (fun _ _ _ h => h) (by rfl) (by assumption) ?hys26 ?rests26
  case hys26 => (intro w hSw; (try dsimp only at hSw); first | (go_simp; done) | (go_simp; with_reducible rfl))
  simp only [Act.put, List.setIfInBounds_toArray, List.set_cons_zero, List.set_cons_succ]
  refine take_call (i := 12) rfl (by kernel_rfl) (fun Kc hK => ?_)
  go_simp
  (go_at_call 52; refine (cCrossed E x F y Heh.out Hel.out Hfh.out Hfl.out Re R_x Rf R_y Rr Hrh.out Hrl.out _).mono ?_; rintro e w3 ⟨rfl, bw3⟩)
  refine hK.out _ _ ?_ (fun hHeld => ?_)
  · exact ⟨cell_on bw3 hHeld.1, cell_on bw3 hHeld.2.1, cell_on bw3 hHeld.2.2.1, cell_on bw3 hHeld.2.2.2.1, cell_on bw3 hHeld.2.2.2.2.1, cell_on bw3 hHeld.2.2.2.2.2.1, cell_on bw3 hHeld.2.2.2.2.2.2.1, cell_on bw3 hHeld.2.2.2.2.2.2.2.1, cell_on bw3 hHeld.2.2.2.2.2.2.2.2.1, cell_on bw3 hHeld.2.2.2.2.2.2.2.2.2.1, cell_on bw3 hHeld.2.2.2.2.2.2.2.2.2.2.1, cell_on bw3 hHeld.2.2.2.2.2.2.2.2.2.2.2.1, also hHeld.2.2.2.2.2.2.2.2.2.2.2.2 bw3⟩
  clear hK Kc
  have zbw3 := bw3.size
  replace BB := also BB bw3
  replace x_a := x_a.on bw3
  replace x_b := x_b.on bw3
  replace x_c := x_c.on bw3
  replace x_r := x_r.on bw3
  replace x_s := x_s.on bw3
  replace x_m := x_m.on bw3
  replace x_n := x_n.on bw3
  refine take_call (i := 25) rfl (by kernel_rfl) (fun Kc hK => ?_)
  go_simp
  (go_at_call 52; refine (cCrossed F z E t Hfh.out Hfl.out Heh.out Hel.out Rf R_z Re R_t Rs Hsh.out Hsl.out _).mono ?_; rintro e w4 ⟨rfl, bw4⟩)
  refine hK.out _ _ ?_ (fun hHeld => ?_)
  · exact ⟨cell_on bw4 hHeld.1, cell_on bw4 hHeld.2.1, cell_on bw4 hHeld.2.2.1, cell_on bw4 hHeld.2.2.2.1, cell_on bw4 hHeld.2.2.2.2.1, cell_on bw4 hHeld.2.2.2.2.2.1, cell_on bw4 hHeld.2.2.2.2.2.2.1, cell_on bw4 hHeld.2.2.2.2.2.2.2.1, cell_on bw4 hHeld.2.2.2.2.2.2.2.2.1, cell_on bw4 hHeld.2.2.2.2.2.2.2.2.2.1, cell_on bw4 hHeld.2.2.2.2.2.2.2.2.2.2.1, cell_on bw4 hHeld.2.2.2.2.2.2.2.2.2.2.2.1, also hHeld.2.2.2.2.2.2.2.2.2.2.2.2 bw4⟩
  clear hK Kc
  have zbw4 := bw4.size
  replace BB := also BB bw4
  replace x_a := x_a.on bw4
  replace x_b := x_b.on bw4
  replace x_c := x_c.on bw4
  replace x_r := x_r.on bw4
  replace x_s := x_s.on bw4
  replace x_m := x_m.on bw4
  replace x_n := x_n.on bw4
  refine take_yes (i := 27) (v := ?vs27) rfl (by kernel_rfl) (by kernel_rfl) (by kernel_rfl) (fun _ _ _ h => h) (by rfl) (by assumption) ?hys27 ?rests27
  case hys27 => (intro w hSw; (try dsimp only at hSw); first | (go_simp; done) | (go_simp; with_reducible rfl))
  simp only [Act.put, List.setIfInBounds_toArray, List.set_cons_zero, List.set_cons_succ]
  have ⟨x_r_0, x_r_1, x_r_2, x_r_3, x_r_4, x_r_5, x_r_6, x_r_7, x_r_8, x_r_9, x_r_10, x_r_11⟩ := x_r
  refine take_call (i := 28) rfl (by kernel_rfl) (fun Kc hK => ?_)
  go_simp
  refine hK.out _ _ ?_ (fun hHeld => ?_)
  · first | exact ⟨cell_put6 hHeld.1 (by omega) _ _ _ _ _ _, cell_put6 hHeld.2.1 (by omega) _ _ _ _ _ _, cell_put6 hHeld.2.2.1 (by omega) _ _ _ _ _ _, cell_put6 hHeld.2.2.2.1 (by omega) _ _ _ _ _ _, cell_put6 hHeld.2.2.2.2.1 (by omega) _ _ _ _ _ _, cell_put6 hHeld.2.2.2.2.2.1 (by omega) _ _ _ _ _ _, cell_put6 hHeld.2.2.2.2.2.2.1 (by omega) _ _ _ _ _ _, cell_put6 hHeld.2.2.2.2.2.2.2.1 (by omega) _ _ _ _ _ _, cell_put6 hHeld.2.2.2.2.2.2.2.2.1 (by omega) _ _ _ _ _ _, cell_put6 hHeld.2.2.2.2.2.2.2.2.2.1 (by omega) _ _ _ _ _ _, cell_put6 hHeld.2.2.2.2.2.2.2.2.2.2.1 (by omega) _ _ _ _ _ _, cell_put6 hHeld.2.2.2.2.2.2.2.2.2.2.2.1 (by omega) _ _ _ _ _ _, below_put6 hHeld.2.2.2.2.2.2.2.2.2.2.2.2 (by omega) _ _ _ _ _ _⟩ | exact ⟨x_a.c0, x_a.c1, x_b.c0, x_b.c1, x_c.c0, x_c.c1, x_s.c0, x_s.c1, x_m.c0, x_m.c1, x_n.c0, x_n.c1, BB⟩
  clear hK Kc
  refine take_yes (i := 29) (v := ?vs29) rfl (by kernel_rfl) (by kernel_rfl) (by kernel_rfl) (fun _ _ _ h => h) (by rfl) (by assumption) ?hys29 ?rests29
  case hys29 => (intro w hSw; (try dsimp only at hSw); first | (go_simp; done) | (go_simp; with_reducible rfl))
  simp only [Act.put, List.setIfInBounds_toArray, List.set_cons_zero, List.set_cons_succ]
  refine wpAnyH_done (by kernel_rfl) ?_ _
  go_wp2
  exact bodyPost_ret (v := .tuple #[.agg #[.int .i64 rh, .int .u64 rl, .int .i64 sh, .int .u64 sl, .int .i64 ph, .int .u64 pl], .bool true]) (by simp [results, Tryz.results22, go_sem, *]) rfl (⟨rfl, below_put6 BB (by omega) _ _ _ _ _ _⟩)
end Go.Proofs.YtcaihoomcdbfnaaGreat

namespace Go.Proofs.YtcaihoomcdbfnaaGreat
open Go.RowKit
set_option linter.unusedVariables false

set_option maxRecDepth 100000 in
set_option maxHeartbeats 1000000 in
theorem rqLow (s1 : Int) (d1 : Option Addr) (l1 c1 : Nat) (t1 : Int) (g1 : Option Addr) (h1 k1 : Nat) (N1 : Int) (D1 : Nat) (K : Nat) (w : World) (x : RQ w K s1 d1 l1 c1 t1 g1 h1 k1 N1 D1) (N : Int) (D : Nat) (hN : N = lowN N1 D1) (hD : D = lowD N1 D1) :
    Calls Tryz.prog 30 #[.agg #[.int .i64 s1, .slice d1 l1 c1, .int .i64 t1, .slice g1 h1 k1]] w (GotRQ w (fun _ => True) K N D) := by
  have kk := x.kk
  have d0 : 0 < D := by rw [hD]; exact lowD_pos x.dp
  have hS : N.natAbs < 4294967296 ^ K := by rw [hN]; exact Nat.lt_of_le_of_lt (lowN_le _ _) x.ns
  have hT : D < 4294967296 ^ K := by rw [hD]; exact Nat.lt_of_le_of_lt (lowD_le _ _) x.ds
  have hs := x.rn.sg
  by_cases h0 : N1 = 0
  · obtain rfl : s1 = 0 := by rw [hs, h0]; rfl
    have HN : Hid (N = 0) := by unfold Hid; rw [hN, h0]; simp [lowN]
    have HD : Hid ((D : Int) = 1) := by unfold Hid; rw [hD, h0]; simp [lowD, Nat.div_self x.dp]
    clear hN hD hs h0
    obtain ⟨W, hW, bW, x_a, x_z, sW⟩ := bs_44 w (.int .i64 0) (.slice d1 l1 c1) (.int .i64 t1) (.slice g1 h1 k1) (.int .i64 0) (.slice none 0 0) (.int .i64 0) (.slice none 0 0) 41 41
    have zbW := bW.size
    replace x := x.below bW
    have BB := bW
    go_enter Tryz.func30, Tryz.ntmps30
    go_wp2_with (go_at_call 37; fail)
    rw [← hW]
    clear hW
    refine (rwLong 1 W (by decide) (by decide)).mono ?_
    rintro e w2 ⟨s2, d2, l2, c2, rfl, h2, f2, bw2⟩
    have zbw2 := bw2.size
    replace x := x.below bw2
    replace BB := also BB bw2
    replace x_a := x_a.on bw2
    replace x_z := x_z.on bw2
    have ⟨x_z_0, x_z_1, x_z_2, x_z_3, x_z_4, x_z_5, x_z_6, x_z_7⟩ := x_z
    go_wp2
    exact bodyPost_ret (v := .agg #[.int .i64 0, .slice none 0 0, .int .i64 s2, .slice d2 l2 c2]) (by simp [results, Tryz.results30, go_sem, *]) rfl (endRQ _ (by omega) BB ⟨by rw [HN.out]; exact rn_zero _ 0, by rw [HD.out]; exact h2, d0, hS, hT, kk⟩ (Or.inl rfl) (f2 _ (by omega) trivial) (fun j hj _ => ⟨Or.inl rfl, f2 j (by omega) trivial⟩) _ _ _ _)
  · have hs0 : ¬ s1 = 0 := by rw [hs]; exact fun e => h0 (sign_nul.1 e)
    have hd1 : HD w d1 l1 c1 N1.natAbs := x.rn.hd
    have hd2 : HD w g1 h1 k1 D1 := by have := x.rd.hd; rwa [Int.natAbs_natCast] at this
    obtain ⟨G, hG⟩ : ∃ G, G = Nat.gcd N1.natAbs D1 := ⟨_, rfl⟩
    have g0 : 0 < G := by rw [hG]; exact Nat.gcd_pos_of_pos_right _ x.dp
    have gK : G < 4294967296 ^ K := by rw [hG]; exact Nat.lt_of_le_of_lt (Nat.le_of_dvd x.dp (Nat.gcd_dvd_right _ _)) x.ds
    have fG : hf.nlen G ≤ 1000000 := hfew gK (by omega)
    have fS : hf.nlen (N1.natAbs + D1) ≤ 1000000 := hfew (K := K + 1) (by have := x.ns; have := x.ds; rw [Nat.pow_succ]; omega) (by omega)
    have fD : hf.nlen D1 ≤ 1000000 := hfew x.ds (by omega)
    have fN := x.fn
    have HA : Hid (N.natAbs = N1.natAbs / G) := by unfold Hid; rw [hN, lowN_abs, hG]
    have HE : Hid (D = D1 / G) := by unfold Hid; rw [hD, hG]; rfl
    have HSg : Hid (s1 = N.sign) := by
      unfold Hid
      have hp : 0 < N1.natAbs / Nat.gcd N1.natAbs D1 := Nat.div_pos (Nat.le_of_dvd (by omega) (Nat.gcd_dvd_left _ _)) (Nat.gcd_pos_of_pos_right _ x.dp)
      rw [hs, hN]
      unfold lowN
      rw [Int.sign_mul, Int.sign_sign, Int.sign_natCast_of_ne_zero (by omega), Int.mul_one]
    clear hN hD hs h0
    obtain ⟨W, hW, bW, x_a, x_z, sW⟩ := bs_44 w (.int .i64 s1) (.slice d1 l1 c1) (.int .i64 t1) (.slice g1 h1 k1) (.int .i64 0) (.slice none 0 0) (.int .i64 0) (.slice none 0 0) 41 41
    have zbW := bW.size
    replace x := x.below bW
    replace hd1 := hd1.below bW
    replace hd2 := hd2.below bW
    have BB := bW
    go_enter Tryz.func30, Tryz.ntmps30
    go_wp2_with (go_at_call 65; fail)
    rw [← hW]
    clear hW
    refine (hGcd d1 g1 l1 h1 c1 k1 _ _ W hd1 hd2 fS).mono ?_
    rw [← hG]
    rintro e w3 ⟨a3, l3, c3, rfl, q3, bw3⟩
    have zbw3 := bw3.size
    replace x := x.below bw3
    replace hd1 := hd1.below bw3
    replace hd2 := hd2.below bw3
    replace BB := also BB bw3
    replace x_a := x_a.on bw3
    replace x_z := x_z.on bw3
    have ⟨x_a_0, x_a_1, x_a_2, x_a_3, x_a_4, x_a_5, x_a_6, x_a_7⟩ := x_a
    go_wp2_with (go_at_call 66; fail)
    refine (hfDiv d1 a3 l1 l3 c1 c3 _ G w3 hd1 q3 fN fG g0).mono ?_
    rintro e w4 ⟨a4, l4, c4, ar, lr, cr, rfl, q4, qr, f4, fr, bw4⟩
    clear x_a_0 x_a_1 x_a_2 x_a_3 x_a_4 x_a_5 x_a_6 x_a_7
    have zbw4 := bw4.size
    replace x := x.below bw4
    replace hd1 := hd1.below bw4
    replace hd2 := hd2.below bw4
    replace BB := also BB bw4
    replace x_a := x_a.on bw4
    replace x_z := x_z.on bw4
    replace q3 := q3.below bw4
    have ⟨x_a_0, x_a_1, x_a_2, x_a_3, x_a_4, x_a_5, x_a_6, x_a_7⟩ := x_a
    go_wp2_with (go_at_call 66; fail)
    refine (hfDiv g1 a3 h1 l3 k1 c3 _ G w4 hd2 q3 fD fG g0).mono ?_
    rintro e w5 ⟨a5, l5, c5, br, mr, dr, rfl, q5, qs, f5, fs, bw5⟩
    clear x_a_0 x_a_1 x_a_2 x_a_3 x_a_4 x_a_5 x_a_6 x_a_7
    have zbw5 := bw5.size
    replace x := x.below bw5
    replace hd1 := hd1.below bw5
    replace hd2 := hd2.below bw5
    replace BB := also BB bw5
    replace x_a := x_a.on bw5
    replace x_z := x_z.on bw5
    replace q3 := q3.below bw5
    replace q4 := q4.below bw5
    have ⟨x_a_0, x_a_1, x_a_2, x_a_3, x_a_4, x_a_5, x_a_6, x_a_7⟩ := x_a
    have ⟨x_z_0, x_z_1, x_z_2, x_z_3, x_z_4, x_z_5, x_z_6, x_z_7⟩ := x_z
    go_wp2
    exact bodyPost_ret (v := .agg #[.int .i64 s1, .slice a4 l4 c4, .int .i64 1, .slice a5 l5 c5]) (by simp [results, Tryz.results30, go_sem, *]) rfl (endRQ _ (by omega) BB ⟨⟨by rw [HA.out]; exact q4, HSg.out⟩, rn_nat (by rw [HE.out]; exact q5) d0, d0, hS, hT, kk⟩ (f4 _ (by omega)) (f5 _ (by omega)) (fun j hj _ => ⟨f4 j (by omega), f5 j (by omega)⟩) _ _ _ _)
end Go.Proofs.YtcaihoomcdbfnaaGreat

namespace Go.Proofs.YtcaihoomcdbfnaaGreat
open Go.RowKit
set_option linter.unusedVariables false

/-- A block of 8 cells. -/
structure B8 (w : World) (b : Nat) (x0 x1 x2 x3 x4 x5 x6 x7 : Value) : Prop where
  c0 : w.cell? ⟨b, 0, none⟩ = some x0
  c1 : w.cell? ⟨b, 1, none⟩ = some x1
  c2 : w.cell? ⟨b, 2, none⟩ = some x2
  c3 : w.cell? ⟨b, 3, none⟩ = some x3
  c4 : w.cell? ⟨b, 4, none⟩ = some x4
  c5 : w.cell? ⟨b, 5, none⟩ = some x5
  c6 : w.cell? ⟨b, 6, none⟩ = some x6
  c7 : w.cell? ⟨b, 7, none⟩ = some x7
  f0 : w.frozen? ⟨b, 0, none⟩ = false
  f1 : w.frozen? ⟨b, 1, none⟩ = false
  f2 : w.frozen? ⟨b, 2, none⟩ = false
  f3 : w.frozen? ⟨b, 3, none⟩ = false
  f4 : w.frozen? ⟨b, 4, none⟩ = false
  f5 : w.frozen? ⟨b, 5, none⟩ = false
  f6 : w.frozen? ⟨b, 6, none⟩ = false
  f7 : w.frozen? ⟨b, 7, none⟩ = false
theorem B8.on {w w' : World} {b : Nat} {x0 x1 x2 x3 x4 x5 x6 x7 : Value} (h : B8 w b x0 x1 x2 x3 x4 x5 x6 x7) (hb : Below w.heap.size w w') : B8 w' b x0 x1 x2 x3 x4 x5 x6 x7 := ⟨cell_on hb h.c0, cell_on hb h.c1, cell_on hb h.c2, cell_on hb h.c3, cell_on hb h.c4, cell_on hb h.c5, cell_on hb h.c6, cell_on hb h.c7, free_on hb h.c0 h.f0, free_on hb h.c1 h.f1, free_on hb h.c2 h.f2, free_on hb h.c3 h.f3, free_on hb h.c4 h.f4, free_on hb h.c5 h.f5, free_on hb h.c6 h.f6, free_on hb h.c7 h.f7⟩
theorem B8.put {w : World} {b k i : Nat} {x0 x1 x2 x3 x4 x5 x6 x7 v : Value} (h : B8 w b x0 x1 x2 x3 x4 x5 x6 x7) (hk : k ≠ b) : B8 (w.setCell ⟨k, i, none⟩ v) b x0 x1 x2 x3 x4 x5 x6 x7 := by
  refine ⟨?_, ?_, ?_, ?_, ?_, ?_, ?_, ?_, by rw [World.frozen?_setCell]; exact h.f0, by rw [World.frozen?_setCell]; exact h.f1, by rw [World.frozen?_setCell]; exact h.f2, by rw [World.frozen?_setCell]; exact h.f3, by rw [World.frozen?_setCell]; exact h.f4, by rw [World.frozen?_setCell]; exact h.f5, by rw [World.frozen?_setCell]; exact h.f6, by rw [World.frozen?_setCell]; exact h.f7⟩
  · rw [World.cell?_setCell_other _ _ _ _ (by intro q; simp only [Addr.mk.injEq] at q; omega)]; exact h.c0
  · rw [World.cell?_setCell_other _ _ _ _ (by intro q; simp only [Addr.mk.injEq] at q; omega)]; exact h.c1
  · rw [World.cell?_setCell_other _ _ _ _ (by intro q; simp only [Addr.mk.injEq] at q; omega)]; exact h.c2
  · rw [World.cell?_setCell_other _ _ _ _ (by intro q; simp only [Addr.mk.injEq] at q; omega)]; exact h.c3
  · rw [World.cell?_setCell_other _ _ _ _ (by intro q; simp only [Addr.mk.injEq] at q; omega)]; exact h.c4
  · rw [World.cell?_setCell_other _ _ _ _ (by intro q; simp only [Addr.mk.injEq] at q; omega)]; exact h.c5
  · rw [World.cell?_setCell_other _ _ _ _ (by intro q; simp only [Addr.mk.injEq] at q; omega)]; exact h.c6
  · rw [World.cell?_setCell_other _ _ _ _ (by intro q; simp only [Addr.mk.injEq] at q; omega)]; exact h.c7
theorem B8.set {w : World} {b : Nat} {x0 x1 x2 x3 x4 x5 x6 x7 u0 u1 u2 u3 u4 u5 u6 u7 : Value} (h : B8 w b x0 x1 x2 x3 x4 x5 x6 x7) : B8 ((((((((w.setCell ⟨b, 0, none⟩ u0).setCell ⟨b, 1, none⟩ u1).setCell ⟨b, 2, none⟩ u2).setCell ⟨b, 3, none⟩ u3).setCell ⟨b, 4, none⟩ u4).setCell ⟨b, 5, none⟩ u5).setCell ⟨b, 6, none⟩ u6).setCell ⟨b, 7, none⟩ u7) b u0 u1 u2 u3 u4 u5 u6 u7 := by
  refine ⟨?_, ?_, ?_, ?_, ?_, ?_, ?_, ?_, by simp only [World.frozen?_setCell]; exact h.f0, by simp only [World.frozen?_setCell]; exact h.f1, by simp only [World.frozen?_setCell]; exact h.f2, by simp only [World.frozen?_setCell]; exact h.f3, by simp only [World.frozen?_setCell]; exact h.f4, by simp only [World.frozen?_setCell]; exact h.f5, by simp only [World.frozen?_setCell]; exact h.f6, by simp only [World.frozen?_setCell]; exact h.f7⟩
  · rw [World.cell?_setCell_other _ _ _ _ (by intro q; simp only [Addr.mk.injEq] at q; omega)]; rw [World.cell?_setCell_other _ _ _ _ (by intro q; simp only [Addr.mk.injEq] at q; omega)]; rw [World.cell?_setCell_other _ _ _ _ (by intro q; simp only [Addr.mk.injEq] at q; omega)]; rw [World.cell?_setCell_other _ _ _ _ (by intro q; simp only [Addr.mk.injEq] at q; omega)]; rw [World.cell?_setCell_other _ _ _ _ (by intro q; simp only [Addr.mk.injEq] at q; omega)]; rw [World.cell?_setCell_other _ _ _ _ (by intro q; simp only [Addr.mk.injEq] at q; omega)]; rw [World.cell?_setCell_other _ _ _ _ (by intro q; simp only [Addr.mk.injEq] at q; omega)]; have hh : _ = some x0 := h.c0
    have h1 : w.cell? ⟨b, 0, none⟩ = some x0 := by
      exact hh
    exact World.cell?_setCell_same _ _ _ h1
  · rw [World.cell?_setCell_other _ _ _ _ (by intro q; simp only [Addr.mk.injEq] at q; omega)]; rw [World.cell?_setCell_other _ _ _ _ (by intro q; simp only [Addr.mk.injEq] at q; omega)]; rw [World.cell?_setCell_other _ _ _ _ (by intro q; simp only [Addr.mk.injEq] at q; omega)]; rw [World.cell?_setCell_other _ _ _ _ (by intro q; simp only [Addr.mk.injEq] at q; omega)]; rw [World.cell?_setCell_other _ _ _ _ (by intro q; simp only [Addr.mk.injEq] at q; omega)]; rw [World.cell?_setCell_other _ _ _ _ (by intro q; simp only [Addr.mk.injEq] at q; omega)]; have hh : _ = some x1 := h.c1
    have h1 : (w.setCell ⟨b, 0, none⟩ u0).cell? ⟨b, 1, none⟩ = some x1 := by
      rw [World.cell?_setCell_other _ _ _ _ (by intro q; simp only [Addr.mk.injEq] at q; omega)]; exact hh
    exact World.cell?_setCell_same _ _ _ h1
  · rw [World.cell?_setCell_other _ _ _ _ (by intro q; simp only [Addr.mk.injEq] at q; omega)]; rw [World.cell?_setCell_other _ _ _ _ (by intro q; simp only [Addr.mk.injEq] at q; omega)]; rw [World.cell?_setCell_other _ _ _ _ (by intro q; simp only [Addr.mk.injEq] at q; omega)]; rw [World.cell?_setCell_other _ _ _ _ (by intro q; simp only [Addr.mk.injEq] at q; omega)]; rw [World.cell?_setCell_other _ _ _ _ (by intro q; simp only [Addr.mk.injEq] at q; omega)]; have hh : _ = some x2 := h.c2
    have h1 : ((w.setCell ⟨b, 0, none⟩ u0).setCell ⟨b, 1, none⟩ u1).cell? ⟨b, 2, none⟩ = some x2 := by
      rw [World.cell?_setCell_other _ _ _ _ (by intro q; simp only [Addr.mk.injEq] at q; omega)]; rw [World.cell?_setCell_other _ _ _ _ (by intro q; simp only [Addr.mk.injEq] at q; omega)]; exact hh
    exact World.cell?_setCell_same _ _ _ h1
  · rw [World.cell?_setCell_other _ _ _ _ (by intro q; simp only [Addr.mk.injEq] at q; omega)]; rw [World.cell?_setCell_other _ _ _ _ (by intro q; simp only [Addr.mk.injEq] at q; omega)]; rw [World.cell?_setCell_other _ _ _ _ (by intro q; simp only [Addr.mk.injEq] at q; omega)]; rw [World.cell?_setCell_other _ _ _ _ (by intro q; simp only [Addr.mk.injEq] at q; omega)]; have hh : _ = some x3 := h.c3
    have h1 : (((w.setCell ⟨b, 0, none⟩ u0).setCell ⟨b, 1, none⟩ u1).setCell ⟨b, 2, none⟩ u2).cell? ⟨b, 3, none⟩ = some x3 := by
      rw [World.cell?_setCell_other _ _ _ _ (by intro q; simp only [Addr.mk.injEq] at q; omega)]; rw [World.cell?_setCell_other _ _ _ _ (by intro q; simp only [Addr.mk.injEq] at q; omega)]; rw [World.cell?_setCell_other _ _ _ _ (by intro q; simp only [Addr.mk.injEq] at q; omega)]; exact hh
    exact World.cell?_setCell_same _ _ _ h1
  · rw [World.cell?_setCell_other _ _ _ _ (by intro q; simp only [Addr.mk.injEq] at q; omega)]; rw [World.cell?_setCell_other _ _ _ _ (by intro q; simp only [Addr.mk.injEq] at q; omega)]; rw [World.cell?_setCell_other _ _ _ _ (by intro q; simp only [Addr.mk.injEq] at q; omega)]; have hh : _ = some x4 := h.c4
    have h1 : ((((w.setCell ⟨b, 0, none⟩ u0).setCell ⟨b, 1, none⟩ u1).setCell ⟨b, 2, none⟩ u2).setCell ⟨b, 3, none⟩ u3).cell? ⟨b, 4, none⟩ = some x4 := by
      rw [World.cell?_setCell_other _ _ _ _ (by intro q; simp only [Addr.mk.injEq] at q; omega)]; rw [World.cell?_setCell_other _ _ _ _ (by intro q; simp only [Addr.mk.injEq] at q; omega)]; rw [World.cell?_setCell_other _ _ _ _ (by intro q; simp only [Addr.mk.injEq] at q; omega)]; rw [World.cell?_setCell_other _ _ _ _ (by intro q; simp only [Addr.mk.injEq] at q; omega)]; exact hh
    exact World.cell?_setCell_same _ _ _ h1
  · rw [World.cell?_setCell_other _ _ _ _ (by intro q; simp only [Addr.mk.injEq] at q; omega)]; rw [World.cell?_setCell_other _ _ _ _ (by intro q; simp only [Addr.mk.injEq] at q; omega)]; have hh : _ = some x5 := h.c5
    have h1 : (((((w.setCell ⟨b, 0, none⟩ u0).setCell ⟨b, 1, none⟩ u1).setCell ⟨b, 2, none⟩ u2).setCell ⟨b, 3, none⟩ u3).setCell ⟨b, 4, none⟩ u4).cell? ⟨b, 5, none⟩ = some x5 := by
      rw [World.cell?_setCell_other _ _ _ _ (by intro q; simp only [Addr.mk.injEq] at q; omega)]; rw [World.cell?_setCell_other _ _ _ _ (by intro q; simp only [Addr.mk.injEq] at q; omega)]; rw [World.cell?_setCell_other _ _ _ _ (by intro q; simp only [Addr.mk.injEq] at q; omega)]; rw [World.cell?_setCell_other _ _ _ _ (by intro q; simp only [Addr.mk.injEq] at q; omega)]; rw [World.cell?_setCell_other _ _ _ _ (by intro q; simp only [Addr.mk.injEq] at q; omega)]; exact hh
    exact World.cell?_setCell_same _ _ _ h1
  · rw [World.cell?_setCell_other _ _ _ _ (by intro q; simp only [Addr.mk.injEq] at q; omega)]; have hh : _ = some x6 := h.c6
    have h1 : ((((((w.setCell ⟨b, 0, none⟩ u0).setCell ⟨b, 1, none⟩ u1).setCell ⟨b, 2, none⟩ u2).setCell ⟨b, 3, none⟩ u3).setCell ⟨b, 4, none⟩ u4).setCell ⟨b, 5, none⟩ u5).cell? ⟨b, 6, none⟩ = some x6 := by
      rw [World.cell?_setCell_other _ _ _ _ (by intro q; simp only [Addr.mk.injEq] at q; omega)]; rw [World.cell?_setCell_other _ _ _ _ (by intro q; simp only [Addr.mk.injEq] at q; omega)]; rw [World.cell?_setCell_other _ _ _ _ (by intro q; simp only [Addr.mk.injEq] at q; omega)]; rw [World.cell?_setCell_other _ _ _ _ (by intro q; simp only [Addr.mk.injEq] at q; omega)]; rw [World.cell?_setCell_other _ _ _ _ (by intro q; simp only [Addr.mk.injEq] at q; omega)]; rw [World.cell?_setCell_other _ _ _ _ (by intro q; simp only [Addr.mk.injEq] at q; omega)]; exact hh
    exact World.cell?_setCell_same _ _ _ h1
  · have hh : _ = some x7 := h.c7
    have h1 : (((((((w.setCell ⟨b, 0, none⟩ u0).setCell ⟨b, 1, none⟩ u1).setCell ⟨b, 2, none⟩ u2).setCell ⟨b, 3, none⟩ u3).setCell ⟨b, 4, none⟩ u4).setCell ⟨b, 5, none⟩ u5).setCell ⟨b, 6, none⟩ u6).cell? ⟨b, 7, none⟩ = some x7 := by
      rw [World.cell?_setCell_other _ _ _ _ (by intro q; simp only [Addr.mk.injEq] at q; omega)]; rw [World.cell?_setCell_other _ _ _ _ (by intro q; simp only [Addr.mk.injEq] at q; omega)]; rw [World.cell?_setCell_other _ _ _ _ (by intro q; simp only [Addr.mk.injEq] at q; omega)]; rw [World.cell?_setCell_other _ _ _ _ (by intro q; simp only [Addr.mk.injEq] at q; omega)]; rw [World.cell?_setCell_other _ _ _ _ (by intro q; simp only [Addr.mk.injEq] at q; omega)]; rw [World.cell?_setCell_other _ _ _ _ (by intro q; simp only [Addr.mk.injEq] at q; omega)]; rw [World.cell?_setCell_other _ _ _ _ (by intro q; simp only [Addr.mk.injEq] at q; omega)]; exact hh
    exact World.cell?_setCell_same _ _ _ h1
theorem B8.drew {w : World} {b : Nat} {x0 x1 x2 x3 x4 x5 x6 x7 : Value} (h : B8 w b x0 x1 x2 x3 x4 x5 x6 x7) : B8 w.drew b x0 x1 x2 x3 x4 x5 x6 x7 := ⟨h.c0, h.c1, h.c2, h.c3, h.c4, h.c5, h.c6, h.c7, h.f0, h.f1, h.f2, h.f3, h.f4, h.f5, h.f6, h.f7⟩
theorem B8.grown {w w' : World} {b g : Nat} {x0 x1 x2 x3 x4 x5 x6 x7 : Value} (h : B8 w b x0 x1 x2 x3 x4 x5 x6 x7) (hg : w.grownBy w' (some g)) (hne : b ≠ g) : B8 w' b x0 x1 x2 x3 x4 x5 x6 x7 := ⟨cell_far h.c0 hg hne, cell_far h.c1 hg hne, cell_far h.c2 hg hne, cell_far h.c3 hg hne, cell_far h.c4 hg hne, cell_far h.c5 hg hne, cell_far h.c6 hg hne, cell_far h.c7 hg hne, free_far h.c0 h.f0 hg hne, free_far h.c1 h.f1 hg hne, free_far h.c2 h.f2 hg hne, free_far h.c3 h.f3 hg hne, free_far h.c4 h.f4 hg hne, free_far h.c5 h.f5 hg hne, free_far h.c6 h.f6 hg hne, free_far h.c7 h.f7 hg hne⟩
end Go.Proofs.YtcaihoomcdbfnaaGreat

namespace Go.Proofs.YtcaihoomcdbfnaaGreat
set_option linter.unusedVariables false

/-- Two fractions of one value. -/
def fe (n : Int) (d : Nat) (n' : Int) (d' : Nat) : Prop := n * (d' : Int) = n' * (d : Int)
theorem fe_low {z : Int} {D : Nat} (h : 0 < D) : fe (lowN z D) (lowD z D) z D := low_same h
theorem fe_trans {n n' n'' : Int} {d d' d'' : Nat} (h : 0 < d') (h1 : fe n d n' d') (h2 : fe n' d' n'' d'') : fe n d n'' d'' := by
  unfold fe at *
  refine Int.eq_of_mul_eq_mul_right (show (d' : Int) ≠ 0 by omega) ?_
  grind
theorem fe_symm {n n' : Int} {d d' : Nat} (h : fe n d n' d') : fe n' d' n d := by unfold fe at *; exact h.symm
theorem low_uniq {z z' : Int} {D D' : Nat} (h0 : 0 < D) (h0' : 0 < D') (h : fe z D z' D') : lowN z D = lowN z' D' ∧ lowD z D = lowD z' D' :=
  low_one (fe_trans h0 (fe_low h0) (fe_trans h0' h (fe_symm (fe_low h0')))) (low_gcd h0) (low_gcd h0') (lowD_pos h0) (lowD_pos h0')
end Go.Proofs.YtcaihoomcdbfnaaGreat

namespace Go.Proofs.YtcaihoomcdbfnaaGreat
open Go.RowKit
set_option linter.unusedVariables false

theorem abs_sgn (x : Int) : (x.natAbs : Int) = x * x.sign := by
  rcases Int.lt_trichotomy x 0 with h | h | h
  · rw [Int.sign_eq_neg_one_of_neg h]; omega
  · subst h; rfl
  · rw [Int.sign_eq_one_of_pos h]; omega
/-- A fraction over a square, shortened. -/
theorem fe_short {T c : Int} (h : T ≠ 0) : fe (T * c) (T * T).natAbs (c * T.sign) T.natAbs := by
  unfold fe
  rw [Int.natAbs_mul, Int.natCast_mul, Int.natAbs_mul_self', abs_sgn T]
  grind
/-- The center's numbers, in lowest terms. -/
theorem cen_low {a1 a2 b1 b2 c1 c2 : Int} (h0 : areaP a1 a2 b1 b2 c1 c2 ≠ 0) :
    (lowN (meanN a1 b1 c1 (distP b1 b2 c1 c2) (distP c1 c2 a1 a2) (distP a1 a2 b1 b2)) (meanD (distP b1 b2 c1 c2) (distP c1 c2 a1 a2) (distP a1 a2 b1 b2)).natAbs = lowN (cenX a1 a2 b1 b2 c1 c2 * (2 * areaP a1 a2 b1 b2 c1 c2).sign) (2 * areaP a1 a2 b1 b2 c1 c2).natAbs ∧
     lowD (meanN a1 b1 c1 (distP b1 b2 c1 c2) (distP c1 c2 a1 a2) (distP a1 a2 b1 b2)) (meanD (distP b1 b2 c1 c2) (distP c1 c2 a1 a2) (distP a1 a2 b1 b2)).natAbs = lowD (cenX a1 a2 b1 b2 c1 c2 * (2 * areaP a1 a2 b1 b2 c1 c2).sign) (2 * areaP a1 a2 b1 b2 c1 c2).natAbs) ∧
    (lowN (meanN a2 b2 c2 (distP b1 b2 c1 c2) (distP c1 c2 a1 a2) (distP a1 a2 b1 b2)) (meanD (distP b1 b2 c1 c2) (distP c1 c2 a1 a2) (distP a1 a2 b1 b2)).natAbs = lowN (cenY a1 a2 b1 b2 c1 c2 * (2 * areaP a1 a2 b1 b2 c1 c2).sign) (2 * areaP a1 a2 b1 b2 c1 c2).natAbs ∧
     lowD (meanN a2 b2 c2 (distP b1 b2 c1 c2) (distP c1 c2 a1 a2) (distP a1 a2 b1 b2)) (meanD (distP b1 b2 c1 c2) (distP c1 c2 a1 a2) (distP a1 a2 b1 b2)).natAbs = lowD (cenY a1 a2 b1 b2 c1 c2 * (2 * areaP a1 a2 b1 b2 c1 c2).sign) (2 * areaP a1 a2 b1 b2 c1 c2).natAbs) := by
  rw [mean_x, mean_y, mean_d]
  have hT : 2 * areaP a1 a2 b1 b2 c1 c2 ≠ 0 := by omega
  generalize 2 * areaP a1 a2 b1 b2 c1 c2 = T at hT
  have hp : 0 < T.natAbs := by omega
  have hp2 : 0 < (T * T).natAbs := by rw [Int.natAbs_mul]; exact Nat.mul_pos hp hp
  exact ⟨low_uniq hp2 hp (fe_short hT), low_uniq hp2 hp (fe_short hT)⟩
end Go.Proofs.YtcaihoomcdbfnaaGreat

namespace Go.Proofs.YtcaihoomcdbfnaaGreat
open Go.RowKit
set_option linter.unusedVariables false

def GotRad (w : World) (ok : Bool) (A1 : Int) (B1 : Nat) (e : Ending) (w' : World) : Prop := ∃ (n1 : Bool) (a1 : Option Addr) (m1 e1 : Nat) (b1 : Option Addr) (o1 y1 : Nat), e = .returned (.tuple #[.agg #[.bool n1, .slice a1 m1 e1, .slice b1 o1 y1], .bool ok]) ∧ QN w' n1 a1 m1 e1 b1 o1 y1 A1 B1 ∧ Below w.heap.size w w'
/-- Whether a circle is small against a side. -/
def smP (a1 a2 b1 b2 c1 c2 sd : Int) : Bool := hasP a1 a2 b1 b2 c1 c2 && (decide (1 ≤ sd ∧ sd ≤ 17179869184) && decide (4 * rad2 a1 a2 b1 b2 c1 c2 < sd * sd * (areaP a1 a2 b1 b2 c1 c2 * areaP a1 a2 b1 b2 c1 c2)))
def RadSpec : Prop := ∀ (a1 a2 b1 b2 c1 c2 : Int) (w : World), Hid (R2 (a1, a2)) → Hid (R2 (b1, b2)) → Hid (R2 (c1, c2)) → (hasP a1 a2 b1 b2 c1 c2 = true → ∀ A B, A = lowN (rad2 a1 a2 b1 b2 c1 c2) ((2 * areaP a1 a2 b1 b2 c1 c2).natAbs * (2 * areaP a1 a2 b1 b2 c1 c2).natAbs) → B = lowD (rad2 a1 a2 b1 b2 c1 c2) ((2 * areaP a1 a2 b1 b2 c1 c2).natAbs * (2 * areaP a1 a2 b1 b2 c1 c2).natAbs) → Calls Tryz.prog 13 #[.agg #[.int .i64 a1, .int .i64 a2], .agg #[.int .i64 b1, .int .i64 b2], .agg #[.int .i64 c1, .int .i64 c2]] w (GotRad w true A B)) ∧ (hasP a1 a2 b1 b2 c1 c2 = false → Calls Tryz.prog 13 #[.agg #[.int .i64 a1, .int .i64 a2], .agg #[.int .i64 b1, .int .i64 b2], .agg #[.int .i64 c1, .int .i64 c2]] w (GotRad w false 0 1))
def SmlSpec : Prop := ∀ (a1 a2 b1 b2 c1 c2 sd : Int) (w : World), Hid (R2 (a1, a2)) → Hid (R2 (b1, b2)) → Hid (R2 (c1, c2)) → Hid (R64 sd) → ∀ r : Bool, r = smP a1 a2 b1 b2 c1 c2 sd → Calls Tryz.prog 18 #[.agg #[.int .i64 a1, .int .i64 a2], .agg #[.int .i64 b1, .int .i64 b2], .agg #[.int .i64 c1, .int .i64 c2], .int .i64 sd] w fun e w' => e = .returned (.bool r) ∧ Below w.heap.size w w'
end Go.Proofs.YtcaihoomcdbfnaaGreat

namespace Go.Proofs.YtcaihoomcdbfnaaGreat
open Go.RowKit
set_option linter.unusedVariables false

/-- A fraction's text, by its parts in lowest terms. -/
def qText (N : Int) (D : Nat) : ByteArray := if D = 1 then decZ N else (decZ N ++ ⟨#[47]⟩) ++ decS D
theorem decZ_size {z : Int} {K : Nat} (h : z.natAbs < 4294967296 ^ K) : (decZ z).size ≤ 10 * K + 2 := by
  have := dlen_le h
  unfold decZ
  split
  · rw [ByteArray.size_append, decS_size]; show 1 + _ ≤ _; omega
  · rw [decS_size]; omega
theorem decS_sz {u K : Nat} (h : u < 4294967296 ^ K) : (decS u).size ≤ 10 * K + 1 := by rw [decS_size]; exact dlen_le h
end Go.Proofs.YtcaihoomcdbfnaaGreat

namespace Go.Proofs.YtcaihoomcdbfnaaGreat
open Go.RowKit
set_option linter.unusedVariables false

/-- Whether a text begins with a minus, and what stands behind it. -/
def minus? (s : ByteArray) : Bool := if h : 0 < s.size then ((s[0].toNat : Int) == 45) else false
def behind (s : ByteArray) : ByteArray := if minus? s then s.extract 1 s.size else s
end Go.Proofs.YtcaihoomcdbfnaaGreat
