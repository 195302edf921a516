/-
  LiftOrders: the order of any two points, and that it stays when both are moved alike.
-/
import Derived.Test.YtnhoaopmnoilbaaChecked
import Derived.Test.YtnhoaopmnoilbaaRows
import Derived.Test.YtnhoaopmnoilbaaP3
import Derived.Test.YtnhoaopmnoilbaaP5
import Derived.Deep.RegionHeld3
import Derived.ProofKit
import Derived.OpenShut
import Derived.Lib.SmallJoins
namespace Go.Proofs.Ytnhoaopmnoilbaa
open Go.RowKit
set_option linter.unusedVariables false

namespace lorders
open Go.ChangeShapes Go.WideShapes Go.ChangeAt Go.Joins
set_option maxRecDepth 100000 in
set_option maxHeartbeats 8000000 in
theorem walk (x y : Int) (hx1 : -9223372036854775808 ≤ x) (hx2 : x ≤ 9223372036854775807) (hy1 : -9223372036854775808 ≤ y) (hy2 : y ≤ 9223372036854775807) (z t : Int) (hz1 : -9223372036854775808 ≤ z) (hz2 : z ≤ 9223372036854775807) (ht1 : -9223372036854775808 ≤ t) (ht2 : t ≤ 9223372036854775807) (p q : Int) (hp1 : -9223372036854775808 ≤ p) (hp2 : p ≤ 9223372036854775807) (hq1 : -9223372036854775808 ≤ q) (hq2 : q ≤ 9223372036854775807) (w : World) :
    Calls Try.prog 5 #[.agg #[.int .i64 x, .int .i64 y], .agg #[.int .i64 z, .int .i64 t], .agg #[.int .i64 p, .int .i64 q]] w fun e w' => e = .returned (.bool true) ∧ Below w.heap.size w w' := by
  have Bx : Hid (-9223372036854775808 ≤ x ∧ x ≤ 9223372036854775807) := ⟨hx1, hx2⟩
  have By : Hid (-9223372036854775808 ≤ y ∧ y ≤ 9223372036854775807) := ⟨hy1, hy2⟩
  have Bz : Hid (-9223372036854775808 ≤ z ∧ z ≤ 9223372036854775807) := ⟨hz1, hz2⟩
  have Bt : Hid (-9223372036854775808 ≤ t ∧ t ≤ 9223372036854775807) := ⟨ht1, ht2⟩
  have Bp : Hid (-9223372036854775808 ≤ p ∧ p ≤ 9223372036854775807) := ⟨hp1, hp2⟩
  have Bq : Hid (-9223372036854775808 ≤ q ∧ q ≤ 9223372036854775807) := ⟨hq1, hq2⟩
  clear hx1 hx2 hy1 hy2 hz1 hz2 ht1 ht2 hp1 hp2 hq1 hq2
  obtain ⟨g, hg⟩ : ∃ g, g = cmpP x y z t := ⟨_, rfl⟩
  have HT : Hid (-g = cmpP z t x y) := by unfold Hid; rw [hg, cmpP_turn x y z t]
  obtain ⟨s1, s2⟩ := cmpP_small x y z t
  rw [← hg] at s1 s2
  have hw : wrap64 (-g) = -g := wrap_in (by omega) (by omega)
  have HG : Hid _ := hg
  clear hg
  cases h0 : canC x y
  · skip
    obtain ⟨W, hW, bW, x_a, x_b, x_c, sW⟩ := bs_222 w (.int .i64 x) (.int .i64 y) (.int .i64 z) (.int .i64 t) (.int .i64 p) (.int .i64 q) 23 23 23
    have zbW := bW.size
    have BB := bW
    go_enter Try.func5, Try.ntmps5
    go_wp2_with (go_at_call 15; fail)
    rw [← hW]
    clear hW
    refine (lCmp x y z t W HG.out).mono ?_
    rintro e w1 ⟨rfl, bw1⟩
    have zbw1 := bw1.size
    replace BB := also BB bw1
    replace x_a := x_a.on bw1
    replace x_b := x_b.on bw1
    replace x_c := x_c.on bw1
    have ⟨x_a_0, x_a_1, x_a_2, x_a_3⟩ := x_a
    have ⟨x_b_0, x_b_1, x_b_2, x_b_3⟩ := x_b
    have ⟨x_c_0, x_c_1, x_c_2, x_c_3⟩ := x_c
    go_wp2_with (go_at_call 16; fail)
    refine (rlCmp x y z t w1 HG.out).mono ?_
    rintro e w2 ⟨rfl, bw2⟩
    clear x_a_0 x_a_1 x_a_2 x_a_3 x_b_0 x_b_1 x_b_2 x_b_3 x_c_0 x_c_1 x_c_2 x_c_3
    have zbw2 := bw2.size
    replace BB := also BB bw2
    replace x_a := x_a.on bw2
    replace x_b := x_b.on bw2
    replace x_c := x_c.on bw2
    have ⟨x_a_0, x_a_1, x_a_2, x_a_3⟩ := x_a
    have ⟨x_b_0, x_b_1, x_b_2, x_b_3⟩ := x_b
    have ⟨x_c_0, x_c_1, x_c_2, x_c_3⟩ := x_c
    go_wp2_with (go_at_call 15; fail)
    refine (lCmp z t x y w2 HT.out).mono ?_
    rintro e w3 ⟨rfl, bw3⟩
    clear x_a_0 x_a_1 x_a_2 x_a_3 x_b_0 x_b_1 x_b_2 x_b_3 x_c_0 x_c_1 x_c_2 x_c_3
    have zbw3 := bw3.size
    replace BB := also BB bw3
    replace x_a := x_a.on bw3
    replace x_b := x_b.on bw3
    replace x_c := x_c.on bw3
    have ⟨x_a_0, x_a_1, x_a_2, x_a_3⟩ := x_a
    have ⟨x_b_0, x_b_1, x_b_2, x_b_3⟩ := x_b
    have ⟨x_c_0, x_c_1, x_c_2, x_c_3⟩ := x_c
    go_wp2_with (go_at_call 11; fail)
    refine (rlCan x y w3 Bx.out By.out h0.symm).mono ?_
    rintro e w4 ⟨rfl, bw4⟩
    clear x_a_0 x_a_1 x_a_2 x_a_3 x_b_0 x_b_1 x_b_2 x_b_3 x_c_0 x_c_1 x_c_2 x_c_3
    have zbw4 := bw4.size
    replace BB := also BB bw4
    replace x_a := x_a.on bw4
    replace x_b := x_b.on bw4
    replace x_c := x_c.on bw4
    have ⟨x_a_0, x_a_1, x_a_2, x_a_3⟩ := x_a
    have ⟨x_b_0, x_b_1, x_b_2, x_b_3⟩ := x_b
    have ⟨x_c_0, x_c_1, x_c_2, x_c_3⟩ := x_c
    go_wp2_with (go_at_call 12; fail)
    refine (lives6_any w4).mono ?_
    rintro e w8 ⟨rfl, bw8⟩
    clear x_a_0 x_a_1 x_a_2 x_a_3 x_b_0 x_b_1 x_b_2 x_b_3 x_c_0 x_c_1 x_c_2 x_c_3
    have zbw8 := bw8.size
    replace BB := also BB bw8
    replace x_a := x_a.on bw8
    replace x_b := x_b.on bw8
    replace x_c := x_c.on bw8
    go_wp2
    go_ret
    exact ⟨rfl, BB⟩
  · skip
    cases h1 : canC z t
    · skip
      obtain ⟨W, hW, bW, x_a, x_b, x_c, sW⟩ := bs_222 w (.int .i64 x) (.int .i64 y) (.int .i64 z) (.int .i64 t) (.int .i64 p) (.int .i64 q) 23 23 23
      have zbW := bW.size
      have BB := bW
      go_enter Try.func5, Try.ntmps5
      go_wp2_with (go_at_call 15; fail)
      rw [← hW]
      clear hW
      refine (lCmp x y z t W HG.out).mono ?_
      rintro e w1 ⟨rfl, bw1⟩
      have zbw1 := bw1.size
      replace BB := also BB bw1
      replace x_a := x_a.on bw1
      replace x_b := x_b.on bw1
      replace x_c := x_c.on bw1
      have ⟨x_a_0, x_a_1, x_a_2, x_a_3⟩ := x_a
      have ⟨x_b_0, x_b_1, x_b_2, x_b_3⟩ := x_b
      have ⟨x_c_0, x_c_1, x_c_2, x_c_3⟩ := x_c
      go_wp2_with (go_at_call 16; fail)
      refine (rlCmp x y z t w1 HG.out).mono ?_
      rintro e w2 ⟨rfl, bw2⟩
      clear x_a_0 x_a_1 x_a_2 x_a_3 x_b_0 x_b_1 x_b_2 x_b_3 x_c_0 x_c_1 x_c_2 x_c_3
      have zbw2 := bw2.size
      replace BB := also BB bw2
      replace x_a := x_a.on bw2
      replace x_b := x_b.on bw2
      replace x_c := x_c.on bw2
      have ⟨x_a_0, x_a_1, x_a_2, x_a_3⟩ := x_a
      have ⟨x_b_0, x_b_1, x_b_2, x_b_3⟩ := x_b
      have ⟨x_c_0, x_c_1, x_c_2, x_c_3⟩ := x_c
      go_wp2_with (go_at_call 15; fail)
      refine (lCmp z t x y w2 HT.out).mono ?_
      rintro e w3 ⟨rfl, bw3⟩
      clear x_a_0 x_a_1 x_a_2 x_a_3 x_b_0 x_b_1 x_b_2 x_b_3 x_c_0 x_c_1 x_c_2 x_c_3
      have zbw3 := bw3.size
      replace BB := also BB bw3
      replace x_a := x_a.on bw3
      replace x_b := x_b.on bw3
      replace x_c := x_c.on bw3
      have ⟨x_a_0, x_a_1, x_a_2, x_a_3⟩ := x_a
      have ⟨x_b_0, x_b_1, x_b_2, x_b_3⟩ := x_b
      have ⟨x_c_0, x_c_1, x_c_2, x_c_3⟩ := x_c
      go_wp2_with (go_at_call 11; fail)
      refine (rlCan x y w3 Bx.out By.out h0.symm).mono ?_
      rintro e w4 ⟨rfl, bw4⟩
      clear x_a_0 x_a_1 x_a_2 x_a_3 x_b_0 x_b_1 x_b_2 x_b_3 x_c_0 x_c_1 x_c_2 x_c_3
      have zbw4 := bw4.size
      replace BB := also BB bw4
      replace x_a := x_a.on bw4
      replace x_b := x_b.on bw4
      replace x_c := x_c.on bw4
      have ⟨x_a_0, x_a_1, x_a_2, x_a_3⟩ := x_a
      have ⟨x_b_0, x_b_1, x_b_2, x_b_3⟩ := x_b
      have ⟨x_c_0, x_c_1, x_c_2, x_c_3⟩ := x_c
      go_wp2_with (go_at_call 11; fail)
      refine (rlCan z t w4 Bz.out Bt.out h1.symm).mono ?_
      rintro e w5 ⟨rfl, bw5⟩
      clear x_a_0 x_a_1 x_a_2 x_a_3 x_b_0 x_b_1 x_b_2 x_b_3 x_c_0 x_c_1 x_c_2 x_c_3
      have zbw5 := bw5.size
      replace BB := also BB bw5
      replace x_a := x_a.on bw5
      replace x_b := x_b.on bw5
      replace x_c := x_c.on bw5
      have ⟨x_a_0, x_a_1, x_a_2, x_a_3⟩ := x_a
      have ⟨x_b_0, x_b_1, x_b_2, x_b_3⟩ := x_b
      have ⟨x_c_0, x_c_1, x_c_2, x_c_3⟩ := x_c
      go_wp2_with (go_at_call 12; fail)
      refine (lives6_any w5).mono ?_
      rintro e w8 ⟨rfl, bw8⟩
      clear x_a_0 x_a_1 x_a_2 x_a_3 x_b_0 x_b_1 x_b_2 x_b_3 x_c_0 x_c_1 x_c_2 x_c_3
      have zbw8 := bw8.size
      replace BB := also BB bw8
      replace x_a := x_a.on bw8
      replace x_b := x_b.on bw8
      replace x_c := x_c.on bw8
      go_wp2
      go_ret
      exact ⟨rfl, BB⟩
    · skip
      cases h2 : canC p q
      · skip
        obtain ⟨W, hW, bW, x_a, x_b, x_c, sW⟩ := bs_222 w (.int .i64 x) (.int .i64 y) (.int .i64 z) (.int .i64 t) (.int .i64 p) (.int .i64 q) 23 23 23
        have zbW := bW.size
        have BB := bW
        go_enter Try.func5, Try.ntmps5
        go_wp2_with (go_at_call 15; fail)
        rw [← hW]
        clear hW
        refine (lCmp x y z t W HG.out).mono ?_
        rintro e w1 ⟨rfl, bw1⟩
        have zbw1 := bw1.size
        replace BB := also BB bw1
        replace x_a := x_a.on bw1
        replace x_b := x_b.on bw1
        replace x_c := x_c.on bw1
        have ⟨x_a_0, x_a_1, x_a_2, x_a_3⟩ := x_a
        have ⟨x_b_0, x_b_1, x_b_2, x_b_3⟩ := x_b
        have ⟨x_c_0, x_c_1, x_c_2, x_c_3⟩ := x_c
        go_wp2_with (go_at_call 16; fail)
        refine (rlCmp x y z t w1 HG.out).mono ?_
        rintro e w2 ⟨rfl, bw2⟩
        clear x_a_0 x_a_1 x_a_2 x_a_3 x_b_0 x_b_1 x_b_2 x_b_3 x_c_0 x_c_1 x_c_2 x_c_3
        have zbw2 := bw2.size
        replace BB := also BB bw2
        replace x_a := x_a.on bw2
        replace x_b := x_b.on bw2
        replace x_c := x_c.on bw2
        have ⟨x_a_0, x_a_1, x_a_2, x_a_3⟩ := x_a
        have ⟨x_b_0, x_b_1, x_b_2, x_b_3⟩ := x_b
        have ⟨x_c_0, x_c_1, x_c_2, x_c_3⟩ := x_c
        go_wp2_with (go_at_call 15; fail)
        refine (lCmp z t x y w2 HT.out).mono ?_
        rintro e w3 ⟨rfl, bw3⟩
        clear x_a_0 x_a_1 x_a_2 x_a_3 x_b_0 x_b_1 x_b_2 x_b_3 x_c_0 x_c_1 x_c_2 x_c_3
        have zbw3 := bw3.size
        replace BB := also BB bw3
        replace x_a := x_a.on bw3
        replace x_b := x_b.on bw3
        replace x_c := x_c.on bw3
        have ⟨x_a_0, x_a_1, x_a_2, x_a_3⟩ := x_a
        have ⟨x_b_0, x_b_1, x_b_2, x_b_3⟩ := x_b
        have ⟨x_c_0, x_c_1, x_c_2, x_c_3⟩ := x_c
        go_wp2_with (go_at_call 11; fail)
        refine (rlCan x y w3 Bx.out By.out h0.symm).mono ?_
        rintro e w4 ⟨rfl, bw4⟩
        clear x_a_0 x_a_1 x_a_2 x_a_3 x_b_0 x_b_1 x_b_2 x_b_3 x_c_0 x_c_1 x_c_2 x_c_3
        have zbw4 := bw4.size
        replace BB := also BB bw4
        replace x_a := x_a.on bw4
        replace x_b := x_b.on bw4
        replace x_c := x_c.on bw4
        have ⟨x_a_0, x_a_1, x_a_2, x_a_3⟩ := x_a
        have ⟨x_b_0, x_b_1, x_b_2, x_b_3⟩ := x_b
        have ⟨x_c_0, x_c_1, x_c_2, x_c_3⟩ := x_c
        go_wp2_with (go_at_call 11; fail)
        refine (rlCan z t w4 Bz.out Bt.out h1.symm).mono ?_
        rintro e w5 ⟨rfl, bw5⟩
        clear x_a_0 x_a_1 x_a_2 x_a_3 x_b_0 x_b_1 x_b_2 x_b_3 x_c_0 x_c_1 x_c_2 x_c_3
        have zbw5 := bw5.size
        replace BB := also BB bw5
        replace x_a := x_a.on bw5
        replace x_b := x_b.on bw5
        replace x_c := x_c.on bw5
        have ⟨x_a_0, x_a_1, x_a_2, x_a_3⟩ := x_a
        have ⟨x_b_0, x_b_1, x_b_2, x_b_3⟩ := x_b
        have ⟨x_c_0, x_c_1, x_c_2, x_c_3⟩ := x_c
        go_wp2_with (go_at_call 11; fail)
        refine (rlCan p q w5 Bp.out Bq.out h2.symm).mono ?_
        rintro e w6 ⟨rfl, bw6⟩
        clear x_a_0 x_a_1 x_a_2 x_a_3 x_b_0 x_b_1 x_b_2 x_b_3 x_c_0 x_c_1 x_c_2 x_c_3
        have zbw6 := bw6.size
        replace BB := also BB bw6
        replace x_a := x_a.on bw6
        replace x_b := x_b.on bw6
        replace x_c := x_c.on bw6
        have ⟨x_a_0, x_a_1, x_a_2, x_a_3⟩ := x_a
        have ⟨x_b_0, x_b_1, x_b_2, x_b_3⟩ := x_b
        have ⟨x_c_0, x_c_1, x_c_2, x_c_3⟩ := x_c
        go_wp2_with (go_at_call 12; fail)
        refine (lives6_any w6).mono ?_
        rintro e w8 ⟨rfl, bw8⟩
        clear x_a_0 x_a_1 x_a_2 x_a_3 x_b_0 x_b_1 x_b_2 x_b_3 x_c_0 x_c_1 x_c_2 x_c_3
        have zbw8 := bw8.size
        replace BB := also BB bw8
        replace x_a := x_a.on bw8
        replace x_b := x_b.on bw8
        replace x_c := x_c.on bw8
        go_wp2
        go_ret
        exact ⟨rfl, BB⟩
      · skip
        obtain ⟨A, hA⟩ : ∃ A, A = x + p := ⟨_, rfl⟩
        have hwA : wrap64 (x + p) = A := by rw [hA]; have := inC_true.1 (canC_true.1 h0).1; have := inC_true.1 (canC_true.1 h2).1; exact wrap_in (by omega) (by omega)
        obtain ⟨B, hB⟩ : ∃ B, B = y + q := ⟨_, rfl⟩
        have hwB : wrap64 (y + q) = B := by rw [hB]; have := inC_true.1 (canC_true.1 h0).2; have := inC_true.1 (canC_true.1 h2).2; exact wrap_in (by omega) (by omega)
        obtain ⟨C, hC⟩ : ∃ C, C = z + p := ⟨_, rfl⟩
        have hwC : wrap64 (z + p) = C := by rw [hC]; have := inC_true.1 (canC_true.1 h1).1; have := inC_true.1 (canC_true.1 h2).1; exact wrap_in (by omega) (by omega)
        obtain ⟨D, hD⟩ : ∃ D, D = t + q := ⟨_, rfl⟩
        have hwD : wrap64 (t + q) = D := by rw [hD]; have := inC_true.1 (canC_true.1 h1).2; have := inC_true.1 (canC_true.1 h2).2; exact wrap_in (by omega) (by omega)
        have HM : Hid (g = cmpP A B C D) := by unfold Hid; rw [hA, hB, hC, hD, cmpP_moved]; exact HG.out
        clear hA hB hC hD
        obtain ⟨W, hW, bW, x_a, x_b, x_c, sW⟩ := bs_222 w (.int .i64 x) (.int .i64 y) (.int .i64 z) (.int .i64 t) (.int .i64 p) (.int .i64 q) 23 23 23
        have zbW := bW.size
        have BB := bW
        go_enter Try.func5, Try.ntmps5
        go_wp2_with (go_at_call 15; fail)
        rw [← hW]
        clear hW
        refine (lCmp x y z t W HG.out).mono ?_
        rintro e w1 ⟨rfl, bw1⟩
        have zbw1 := bw1.size
        replace BB := also BB bw1
        replace x_a := x_a.on bw1
        replace x_b := x_b.on bw1
        replace x_c := x_c.on bw1
        have ⟨x_a_0, x_a_1, x_a_2, x_a_3⟩ := x_a
        have ⟨x_b_0, x_b_1, x_b_2, x_b_3⟩ := x_b
        have ⟨x_c_0, x_c_1, x_c_2, x_c_3⟩ := x_c
        go_wp2_with (go_at_call 16; fail)
        refine (rlCmp x y z t w1 HG.out).mono ?_
        rintro e w2 ⟨rfl, bw2⟩
        clear x_a_0 x_a_1 x_a_2 x_a_3 x_b_0 x_b_1 x_b_2 x_b_3 x_c_0 x_c_1 x_c_2 x_c_3
        have zbw2 := bw2.size
        replace BB := also BB bw2
        replace x_a := x_a.on bw2
        replace x_b := x_b.on bw2
        replace x_c := x_c.on bw2
        have ⟨x_a_0, x_a_1, x_a_2, x_a_3⟩ := x_a
        have ⟨x_b_0, x_b_1, x_b_2, x_b_3⟩ := x_b
        have ⟨x_c_0, x_c_1, x_c_2, x_c_3⟩ := x_c
        go_wp2_with (go_at_call 15; fail)
        refine (lCmp z t x y w2 HT.out).mono ?_
        rintro e w3 ⟨rfl, bw3⟩
        clear x_a_0 x_a_1 x_a_2 x_a_3 x_b_0 x_b_1 x_b_2 x_b_3 x_c_0 x_c_1 x_c_2 x_c_3
        have zbw3 := bw3.size
        replace BB := also BB bw3
        replace x_a := x_a.on bw3
        replace x_b := x_b.on bw3
        replace x_c := x_c.on bw3
        have ⟨x_a_0, x_a_1, x_a_2, x_a_3⟩ := x_a
        have ⟨x_b_0, x_b_1, x_b_2, x_b_3⟩ := x_b
        have ⟨x_c_0, x_c_1, x_c_2, x_c_3⟩ := x_c
        go_wp2_with (go_at_call 11; fail)
        refine (rlCan x y w3 Bx.out By.out h0.symm).mono ?_
        rintro e w4 ⟨rfl, bw4⟩
        clear x_a_0 x_a_1 x_a_2 x_a_3 x_b_0 x_b_1 x_b_2 x_b_3 x_c_0 x_c_1 x_c_2 x_c_3
        have zbw4 := bw4.size
        replace BB := also BB bw4
        replace x_a := x_a.on bw4
        replace x_b := x_b.on bw4
        replace x_c := x_c.on bw4
        have ⟨x_a_0, x_a_1, x_a_2, x_a_3⟩ := x_a
        have ⟨x_b_0, x_b_1, x_b_2, x_b_3⟩ := x_b
        have ⟨x_c_0, x_c_1, x_c_2, x_c_3⟩ := x_c
        go_wp2_with (go_at_call 11; fail)
        refine (rlCan z t w4 Bz.out Bt.out h1.symm).mono ?_
        rintro e w5 ⟨rfl, bw5⟩
        clear x_a_0 x_a_1 x_a_2 x_a_3 x_b_0 x_b_1 x_b_2 x_b_3 x_c_0 x_c_1 x_c_2 x_c_3
        have zbw5 := bw5.size
        replace BB := also BB bw5
        replace x_a := x_a.on bw5
        replace x_b := x_b.on bw5
        replace x_c := x_c.on bw5
        have ⟨x_a_0, x_a_1, x_a_2, x_a_3⟩ := x_a
        have ⟨x_b_0, x_b_1, x_b_2, x_b_3⟩ := x_b
        have ⟨x_c_0, x_c_1, x_c_2, x_c_3⟩ := x_c
        go_wp2_with (go_at_call 11; fail)
        refine (rlCan p q w5 Bp.out Bq.out h2.symm).mono ?_
        rintro e w6 ⟨rfl, bw6⟩
        clear x_a_0 x_a_1 x_a_2 x_a_3 x_b_0 x_b_1 x_b_2 x_b_3 x_c_0 x_c_1 x_c_2 x_c_3
        have zbw6 := bw6.size
        replace BB := also BB bw6
        replace x_a := x_a.on bw6
        replace x_b := x_b.on bw6
        replace x_c := x_c.on bw6
        have ⟨x_a_0, x_a_1, x_a_2, x_a_3⟩ := x_a
        have ⟨x_b_0, x_b_1, x_b_2, x_b_3⟩ := x_b
        have ⟨x_c_0, x_c_1, x_c_2, x_c_3⟩ := x_c
        go_wp2_with (go_at_call 15; fail)
        refine (lCmp A B C D w6 HM.out).mono ?_
        rintro e w7 ⟨rfl, bw7⟩
        clear x_a_0 x_a_1 x_a_2 x_a_3 x_b_0 x_b_1 x_b_2 x_b_3 x_c_0 x_c_1 x_c_2 x_c_3
        have zbw7 := bw7.size
        replace BB := also BB bw7
        replace x_a := x_a.on bw7
        replace x_b := x_b.on bw7
        replace x_c := x_c.on bw7
        have ⟨x_a_0, x_a_1, x_a_2, x_a_3⟩ := x_a
        have ⟨x_b_0, x_b_1, x_b_2, x_b_3⟩ := x_b
        have ⟨x_c_0, x_c_1, x_c_2, x_c_3⟩ := x_c
        go_wp2_with (go_at_call 12; fail)
        refine (lives6_any w7).mono ?_
        rintro e w8 ⟨rfl, bw8⟩
        clear x_a_0 x_a_1 x_a_2 x_a_3 x_b_0 x_b_1 x_b_2 x_b_3 x_c_0 x_c_1 x_c_2 x_c_3
        have zbw8 := bw8.size
        replace BB := also BB bw8
        replace x_a := x_a.on bw8
        replace x_b := x_b.on bw8
        replace x_c := x_c.on bw8
        go_wp2
        go_ret
        exact ⟨rfl, BB⟩
theorem own : ownKnob Try.prog.godebug = none := by kernel_rfl
theorem cells_pt : Try.prog.cellsOf 23 = 2 := by kernel_rfl
theorem reads_pt {H : Type} (enc : TypeId × Value → H) (W : World) (bs : Nat) (sp : Nat → Bool) (hd : Bool) {a b : Int} (wa : (Lit.int .i64 a).wf = true) (wb : (Lit.int .i64 b).wf = true) : DataW.Trod enc Try.prog W bs sp hd 23 (.agg #[.int .i64 a, .int .i64 b]) (.agg [.lit (.int .i64 a), .lit (.int .i64 b)]) [] :=
  shut_agg2 (y0 := (.lit (.int .i64 a), [])) (y1 := (.lit (.int .i64 b), [])) Try.underlying23 (by kernel_rfl) cells_pt ⟨1, by simp [DataW.trod, Try.underlying2, wa]⟩ ⟨1, by simp [DataW.trod, Try.underlying2, wb]⟩
set_option maxRecDepth 100000 in
theorem lifted (os : Os) (started : os.Started) (H : Type) (enc : TypeId × Value → H) :
    ReturnsInHanded {} Try.checked os 5 .any (Rows.liftOrdersSpec.pre6 enc Try.prog Try.f5 Rows.liftOrdersRow.domain false) (Rows.liftOrdersSpec.post enc Try.prog Try.f5 false true false false) := by
  refine returnsInHanded_of_change (C := Try.checked) own started (by kernel_rfl) Try.func5
    (ChangeSpec.witness6 (enc := enc) (C := Try.checked) false ⟨#[], #[.agg #[.int .i64 0, .int .i64 0], .agg #[.int .i64 0, .int .i64 0], .agg #[.int .i64 0, .int .i64 0]], []⟩ 8 (by kernel_rfl) (by kernel_rfl) (by kernel_rfl) (by kernel_rfl)) ?_
  intro W base args ds gs before hval0 hW hcnd _
  have hval : ∀ (j : Nat) t v, Try.f5.params[j]? = some t → args[j]? = some v → Value.okWide Try.prog W .any base t v := hval0
  have hW' := hW
  obtain ⟨p, q, hA0, hV, rfl, hfz, hnd⟩ := hW
  have hA : DataW.TrodAll enc Try.prog W 0 (fun _ => true) true Try.f5.params.toList args.toList ds p := hA0
  rw [Try.params5] at hA hval
  obtain ⟨v0, vs0, d0, ds0, p0, q0, hargs, rfl, rfl, h0, r0⟩ := trodAll_cons hA
  obtain ⟨v1, vs1, d1, ds1, p1, q1, rfl, rfl, rfl, h1, r1⟩ := trodAll_cons r0
  obtain ⟨v2, vs2, d2, ds2, p2, q2, rfl, rfl, rfl, h2, r2⟩ := trodAll_cons r1
  obtain ⟨rfl, rfl, rfl⟩ := trodAll_nil r2
  obtain rfl : args = #[v0, v1, v2] := by cases args; simp_all
  obtain ⟨rfl, rfl⟩ := trodVars_none hV
  obtain ⟨x0, y0, g0, k0, m0, rfl, rfl, rfl, hx0, hy0⟩ := open_agg2 Try.underlying23 (by kernel_rfl) cells_pt (hval 0 23 v0 rfl rfl) h0
  obtain ⟨a0, ex0, rfl, wa0⟩ := DataW.trod_int Try.underlying2 hx0
  obtain ⟨b0, ey0, rfl, wb0⟩ := DataW.trod_int Try.underlying2 hy0
  simp at ex0 ey0
  subst ex0 ey0
  obtain ⟨x1, y1, g1, k1, m1, rfl, rfl, rfl, hx1, hy1⟩ := open_agg2 Try.underlying23 (by kernel_rfl) cells_pt (hval 1 23 v1 rfl rfl) h1
  obtain ⟨a1, ex1, rfl, wa1⟩ := DataW.trod_int Try.underlying2 hx1
  obtain ⟨b1, ey1, rfl, wb1⟩ := DataW.trod_int Try.underlying2 hy1
  simp at ex1 ey1
  subst ex1 ey1
  obtain ⟨x2, y2, g2, k2, m2, rfl, rfl, rfl, hx2, hy2⟩ := open_agg2 Try.underlying23 (by kernel_rfl) cells_pt (hval 2 23 v2 rfl rfl) h2
  obtain ⟨a2, ex2, rfl, wa2⟩ := DataW.trod_int Try.underlying2 hx2
  obtain ⟨b2, ey2, rfl, wb2⟩ := DataW.trod_int Try.underlying2 hy2
  simp at ex2 ey2
  subst ex2 ey2
  clear hA0 hval0
  have hwalk := walk a0 b0 (bd_i64 wa0).1 (bd_i64 wa0).2 (bd_i64 wb0).1 (bd_i64 wb0).2 a1 b1 (bd_i64 wa1).1 (bd_i64 wa1).2 (bd_i64 wb1).1 (bd_i64 wb1).2 a2 b2 (bd_i64 wa2).1 (bd_i64 wa2).2 (bd_i64 wb2).1 (bd_i64 wb2).2 W
  refine hwalk.mono fun e W' ⟨he, bel⟩ => ?_
  subst he
  exact ⟨_, rfl, _, _, _, [], _, [], hW', trodAll_mk1 (shut_bool Try.underlying4 _), (trodAll_cons_mk (reads_pt enc _ _ _ _ wa0 wb0) (trodAll_cons_mk (reads_pt enc _ _ _ _ wa1 wb1) (trodAll_cons_mk (reads_pt enc _ _ _ _ wa2 wb2) trodAll_mk0))), rfl, bel.frame _, fun h => by cases h⟩

/-- The statement. -/
theorem proved : Rows.LiftOrdersSaid :=
  OpenClaim.holds_of_wide 5 Try.f5 rfl rfl rfl rfl rfl rfl rfl ⟨rfl, rfl, rfl, rfl, rfl⟩ rfl rfl rfl rfl rfl (by kernel_rfl) Try.func5 (by kernel_rfl)
    (of_decide_eq_true (by kernel_rfl)) (by unfold Func.isWrapper; first | (rw [if_pos (by decide +kernel)]; kernel_rfl) | (rw [if_neg (by decide +kernel)]; exact ⟨rfl, rfl⟩))
    (fun os started H enc _ => lifted os started H enc)
#print axioms proved
end lorders
end Go.Proofs.Ytnhoaopmnoilbaa
