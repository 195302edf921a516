/-
  Joined texts of this law, part 4:
  CircumCenters' walk, of what circum's functions answer.
  What package circum's Center and Radius2 answer.
-/
import Derived.Test.YtcaihoomcdbfnaaGreatQCCenters3
import Derived.Deep.RegionHeld3
namespace Go.Proofs.YtcaihoomcdbfnaaGreat
open Go.RowKit
set_option linter.unusedVariables false

set_option maxRecDepth 100000 in
set_option maxHeartbeats 8000000 in
theorem centers_of (HC : CenSpec) (HR : RadSpec) (HS : SmlSpec) (a1 a2 : Int) (ha1_1 : -9223372036854775808 ≤ a1) (ha1_2 : a1 ≤ 9223372036854775807) (ha2_1 : -9223372036854775808 ≤ a2) (ha2_2 : a2 ≤ 9223372036854775807) (b1 b2 : Int) (hb1_1 : -9223372036854775808 ≤ b1) (hb1_2 : b1 ≤ 9223372036854775807) (hb2_1 : -9223372036854775808 ≤ b2) (hb2_2 : b2 ≤ 9223372036854775807) (c1 c2 : Int) (hc1_1 : -9223372036854775808 ≤ c1) (hc1_2 : c1 ≤ 9223372036854775807) (hc2_1 : -9223372036854775808 ≤ c2) (hc2_2 : c2 ≤ 9223372036854775807) (w : World) :
    Calls Tryz.prog 3 #[.agg #[.int .i64 a1, .int .i64 a2], .agg #[.int .i64 b1, .int .i64 b2], .agg #[.int .i64 c1, .int .i64 c2]] w fun e w' => e = .returned (.bool true) ∧ Below w.heap.size w w' := by
  have Ra : Hid (R2 (a1, a2)) := ⟨⟨ha1_1, ha1_2⟩, ⟨ha2_1, ha2_2⟩⟩
  have Rb : Hid (R2 (b1, b2)) := ⟨⟨hb1_1, hb1_2⟩, ⟨hb2_1, hb2_2⟩⟩
  have Rc : Hid (R2 (c1, c2)) := ⟨⟨hc1_1, hc1_2⟩, ⟨hc2_1, hc2_2⟩⟩
  clear ha1_1 ha1_2 ha2_1 ha2_2 hb1_1 hb1_2 hb2_1 hb2_2 hc1_1 hc1_2 hc2_1 hc2_2
  have hC : Hid _ := HC
  have hL : Hid (∀ w, Calls Tryz.prog 11 #[] w fun e w' => e = .returned (.bool true) ∧ Below w.heap.size w w') := lives9_of HR HS
  clear HC HR HS
  cases hh : hasP a1 a2 b1 b2 c1 c2
  · skip
    obtain ⟨W, hW, bW, x_a, x_b, x_c, sW⟩ := bs_222 w (.int .i64 a1) (.int .i64 a2) (.int .i64 b1) (.int .i64 b2) (.int .i64 c1) (.int .i64 c2) 23 23 23
    have zbW := bW.size
    have BB := bW
    go_enter Tryz.func3, Tryz.ntmps3
    go_wp2_with (go_at_call 7; fail)
    rw [← hW]
    clear hW
    refine ((hC.out a1 a2 b1 b2 c1 c2 W Ra Rb Rc).2 hh).mono ?_
    rintro e w1 ⟨n41, a41, m41, e41, b41, o41, y41, n42, a42, m42, e42, b42, o42, y42, rfl, x1, x2, bw1⟩
    have zbw1 := bw1.size
    replace BB := also BB bw1
    replace x_a := x_a.on bw1
    replace x_b := x_b.on bw1
    replace x_c := x_c.on bw1
    obtain ⟨V1, hV1, bV1, x_s, sV1⟩ := bs_6 w1 (.bool n41) (.slice a41 m41 e41) (.slice b41 o41 y41) (.bool n42) (.slice a42 m42 e42) (.slice b42 o42 y42) 31
    have zbV1 := bV1.size
    replace BB := also BB bV1
    replace x_a := x_a.on bV1
    replace x_b := x_b.on bV1
    replace x_c := x_c.on bV1
    replace x1 := x1.below bV1
    replace x2 := x2.below bV1
    have st_a_0 : (w1.alloc (.cells #[.bool n41, .slice a41 m41 e41, .slice b41 o41 y41, .bool n42, .slice a42 m42 e42, .slice b42 o42 y42] 31)).cell? ⟨w.heap.size, 0, none⟩ = some (.int .i64 a1) := by rw [← hV1]; exact x_a.c0
    have st_a_1 : (w1.alloc (.cells #[.bool n41, .slice a41 m41 e41, .slice b41 o41 y41, .bool n42, .slice a42 m42 e42, .slice b42 o42 y42] 31)).cell? ⟨w.heap.size, 1, none⟩ = some (.int .i64 a2) := by rw [← hV1]; exact x_a.c1
    have sf_a_0 : (w1.alloc (.cells #[.bool n41, .slice a41 m41 e41, .slice b41 o41 y41, .bool n42, .slice a42 m42 e42, .slice b42 o42 y42] 31)).frozen? ⟨w.heap.size, 0, none⟩ = false := by rw [← hV1]; exact x_a.f0
    have sf_a_1 : (w1.alloc (.cells #[.bool n41, .slice a41 m41 e41, .slice b41 o41 y41, .bool n42, .slice a42 m42 e42, .slice b42 o42 y42] 31)).frozen? ⟨w.heap.size, 1, none⟩ = false := by rw [← hV1]; exact x_a.f1
    have st_b_0 : (w1.alloc (.cells #[.bool n41, .slice a41 m41 e41, .slice b41 o41 y41, .bool n42, .slice a42 m42 e42, .slice b42 o42 y42] 31)).cell? ⟨w.heap.size + 1, 0, none⟩ = some (.int .i64 b1) := by rw [← hV1]; exact x_b.c0
    have st_b_1 : (w1.alloc (.cells #[.bool n41, .slice a41 m41 e41, .slice b41 o41 y41, .bool n42, .slice a42 m42 e42, .slice b42 o42 y42] 31)).cell? ⟨w.heap.size + 1, 1, none⟩ = some (.int .i64 b2) := by rw [← hV1]; exact x_b.c1
    have sf_b_0 : (w1.alloc (.cells #[.bool n41, .slice a41 m41 e41, .slice b41 o41 y41, .bool n42, .slice a42 m42 e42, .slice b42 o42 y42] 31)).frozen? ⟨w.heap.size + 1, 0, none⟩ = false := by rw [← hV1]; exact x_b.f0
    have sf_b_1 : (w1.alloc (.cells #[.bool n41, .slice a41 m41 e41, .slice b41 o41 y41, .bool n42, .slice a42 m42 e42, .slice b42 o42 y42] 31)).frozen? ⟨w.heap.size + 1, 1, none⟩ = false := by rw [← hV1]; exact x_b.f1
    have st_c_0 : (w1.alloc (.cells #[.bool n41, .slice a41 m41 e41, .slice b41 o41 y41, .bool n42, .slice a42 m42 e42, .slice b42 o42 y42] 31)).cell? ⟨w.heap.size + 1 + 1, 0, none⟩ = some (.int .i64 c1) := by rw [← hV1]; exact x_c.c0
    have st_c_1 : (w1.alloc (.cells #[.bool n41, .slice a41 m41 e41, .slice b41 o41 y41, .bool n42, .slice a42 m42 e42, .slice b42 o42 y42] 31)).cell? ⟨w.heap.size + 1 + 1, 1, none⟩ = some (.int .i64 c2) := by rw [← hV1]; exact x_c.c1
    have sf_c_0 : (w1.alloc (.cells #[.bool n41, .slice a41 m41 e41, .slice b41 o41 y41, .bool n42, .slice a42 m42 e42, .slice b42 o42 y42] 31)).frozen? ⟨w.heap.size + 1 + 1, 0, none⟩ = false := by rw [← hV1]; exact x_c.f0
    have sf_c_1 : (w1.alloc (.cells #[.bool n41, .slice a41 m41 e41, .slice b41 o41 y41, .bool n42, .slice a42 m42 e42, .slice b42 o42 y42] 31)).frozen? ⟨w.heap.size + 1 + 1, 1, none⟩ = false := by rw [← hV1]; exact x_c.f1
    go_wp2_with (go_at_call 8; fail)
    rw [← hV1]
    clear hV1 st_a_0 st_a_1 sf_a_0 sf_a_1 st_b_0 st_b_1 sf_b_0 sf_b_1 st_c_0 st_c_1 sf_c_0 sf_c_1
    refine (rcHas a1 a2 b1 b2 c1 c2 V1 Ra Rb Rc hh.symm).mono ?_
    rintro e w2 ⟨rfl, bw2⟩
    have zbw2 := bw2.size
    replace BB := also BB bw2
    replace x_a := x_a.on bw2
    replace x_b := x_b.on bw2
    replace x_c := x_c.on bw2
    replace x1 := x1.below bw2
    replace x2 := x2.below bw2
    replace x_s := x_s.on bw2
    go_wp2
    have dd1 : Below w2.heap.size w2 w2.drew := (Below.refl _ _).drew
    have zdd1 := dd1.size
    replace BB := also BB dd1
    replace x_a := x_a.on dd1
    replace x_b := x_b.on dd1
    replace x_c := x_c.on dd1
    replace x1 := x1.below dd1
    replace x2 := x2.below dd1
    replace x_s := x_s.on dd1
    refine wp_region_held_drew (S := (fun w' => w'.cell? ⟨w1.heap.size, 0, none⟩ = some (.bool n41) ∧ w'.cell? ⟨w1.heap.size, 1, none⟩ = some (.slice a41 m41 e41) ∧ w'.cell? ⟨w1.heap.size, 2, none⟩ = some (.slice b41 o41 y41) ∧ w'.cell? ⟨w1.heap.size, 3, none⟩ = some (.bool n42) ∧ w'.cell? ⟨w1.heap.size, 4, none⟩ = some (.slice a42 m42 e42) ∧ w'.cell? ⟨w1.heap.size, 5, none⟩ = some (.slice b42 o42 y42) ∧ Below w.heap.size w w')) (by kernel_rfl) ?_ (fun hHeld => ?_)
    · exact ⟨x_s.c0, x_s.c1, x_s.c2, x_s.c3, x_s.c4, x_s.c5, BB⟩
    refine take_yes (i := 0) (v := ?vn0) rfl (by kernel_rfl) (by kernel_rfl) (by kernel_rfl) (fun _ _ _ h => h) (by rfl) (by assumption) ?hyn0 ?restn0
    case hyn0 => (intro w hSw; (try dsimp only at hSw); first | (go_simp; done) | (go_simp; with_reducible rfl))
    simp only [Act.put, List.setIfInBounds_toArray, List.set_cons_zero, List.set_cons_succ]
    refine take_call (i := 1) rfl (by kernel_rfl) (fun Kc hK => ?_)
    go_simp
    (go_at_call 10; refine (rcNought _).mono ?_; rintro e w3 ⟨s21, d21, l21, c21, t21, g21, h21, k21, s22, d22, l22, c22, t22, g22, h22, k22, rfl, q21, q22, f21, bw3⟩)
    refine hK.out _ _ ?_ (fun hHeld => ?_)
    · exact ⟨cell_on bw3 hHeld.1, cell_on bw3 hHeld.2.1, cell_on bw3 hHeld.2.2.1, cell_on bw3 hHeld.2.2.2.1, cell_on bw3 hHeld.2.2.2.2.1, cell_on bw3 hHeld.2.2.2.2.2.1, also hHeld.2.2.2.2.2.2 bw3⟩
    clear hK Kc
    have zbw3 := bw3.size
    replace BB := also BB bw3
    replace x_a := x_a.on bw3
    replace x_b := x_b.on bw3
    replace x_c := x_c.on bw3
    replace x1 := x1.below bw3
    replace x2 := x2.below bw3
    replace x_s := x_s.on bw3
    refine take_call (i := 2) rfl (by kernel_rfl) (fun Kc hK => ?_)
    go_simp
    (go_at_call 9; refine (rcSame n41 a41 m41 e41 b41 o41 y41 0 1 n42 a42 m42 e42 b42 o42 y42 0 1 s21 d21 l21 c21 t21 g21 h21 k21 0 1 s22 d22 l22 c22 t22 g22 h22 k22 0 1 2 _ x1 x2 q21 q22 (by decide) (by decide) (by decide) (by decide)).mono ?_; rintro e w4 ⟨rfl, bw4⟩)
    refine hK.out _ _ ?_ (fun hHeld => ?_)
    · exact ⟨cell_on bw4 hHeld.1, cell_on bw4 hHeld.2.1, cell_on bw4 hHeld.2.2.1, cell_on bw4 hHeld.2.2.2.1, cell_on bw4 hHeld.2.2.2.2.1, cell_on bw4 hHeld.2.2.2.2.2.1, also hHeld.2.2.2.2.2.2 bw4⟩
    clear hK Kc
    have zbw4 := bw4.size
    replace BB := also BB bw4
    replace x_a := x_a.on bw4
    replace x_b := x_b.on bw4
    replace x_c := x_c.on bw4
    replace x1 := x1.below bw4
    replace x2 := x2.below bw4
    replace x_s := x_s.on bw4
    replace q21 := q21.below bw4
    replace q22 := q22.below bw4
    refine take_yes (i := 3) (v := ?vn3) rfl (by kernel_rfl) (by kernel_rfl) (by kernel_rfl) (fun _ _ _ h => h) (by rfl) (by assumption) ?hyn3 ?restn3
    case hyn3 => (intro w hSw; (try dsimp only at hSw); first | (go_simp; done) | (go_simp; with_reducible rfl))
    simp only [Act.put, List.setIfInBounds_toArray, List.set_cons_zero, List.set_cons_succ]
    refine take_yes (i := 4) (v := ?vn4) rfl (by kernel_rfl) (by kernel_rfl) (by kernel_rfl) (fun _ _ _ h => h) (by rfl) (by assumption) ?hyn4 ?restn4
    case hyn4 => (intro w hSw; (try dsimp only at hSw); first | (go_simp; done) | (go_simp; with_reducible rfl))
    simp only [Act.put, List.setIfInBounds_toArray, List.set_cons_zero, List.set_cons_succ]
    refine take_yes (i := 5) (v := ?vn5) rfl (by kernel_rfl) (by kernel_rfl) (by kernel_rfl) (fun _ _ _ h => h) (by rfl) (by assumption) ?hyn5 ?restn5
    case hyn5 => (intro w hSw; (try dsimp only at hSw); first | (go_simp; done) | (go_simp; with_reducible rfl))
    simp only [Act.put, List.setIfInBounds_toArray, List.set_cons_zero, List.set_cons_succ]
    refine take_yes (i := 6) (v := ?vn6) rfl (by kernel_rfl) (by kernel_rfl) (by kernel_rfl) (fun _ _ _ h => h) (by rfl) (by assumption) ?hyn6 ?restn6
    case hyn6 => (intro w hSw; (try dsimp only at hSw); first | (go_simp; done) | (go_simp; with_reducible rfl))
    simp only [Act.put, List.setIfInBounds_toArray, List.set_cons_zero, List.set_cons_succ]
    refine take_yes (i := 7) (v := ?vn7) rfl (by kernel_rfl) (by kernel_rfl) (by kernel_rfl) (fun _ _ _ h => h) (by rfl) (by assumption) ?hyn7 ?restn7
    case hyn7 => (intro w hSw; (try dsimp only at hSw); first | (go_simp; done) | (go_simp; with_reducible rfl))
    simp only [Act.put, List.setIfInBounds_toArray, List.set_cons_zero, List.set_cons_succ]
    refine take_call (i := 8) rfl (by kernel_rfl) (fun Kc hK => ?_)
    go_simp
    (go_at_call 11; refine (hL.out _).mono ?_; rintro e w5 ⟨rfl, bw5⟩)
    refine hK.out _ _ ?_ (fun hHeld => ?_)
    · exact ⟨cell_on bw5 hHeld.1, cell_on bw5 hHeld.2.1, cell_on bw5 hHeld.2.2.1, cell_on bw5 hHeld.2.2.2.1, cell_on bw5 hHeld.2.2.2.2.1, cell_on bw5 hHeld.2.2.2.2.2.1, also hHeld.2.2.2.2.2.2 bw5⟩
    clear hK Kc
    have zbw5 := bw5.size
    replace BB := also BB bw5
    replace x_a := x_a.on bw5
    replace x_b := x_b.on bw5
    replace x_c := x_c.on bw5
    replace x1 := x1.below bw5
    replace x2 := x2.below bw5
    replace x_s := x_s.on bw5
    replace q21 := q21.below bw5
    replace q22 := q22.below bw5
    refine take_yes (i := 9) (v := ?vn9) rfl (by kernel_rfl) (by kernel_rfl) (by kernel_rfl) (fun _ _ _ h => h) (by rfl) (by assumption) ?hyn9 ?restn9
    case hyn9 => (intro w hSw; (try dsimp only at hSw); first | (go_simp; done) | (go_simp; with_reducible rfl))
    simp only [Act.put, List.setIfInBounds_toArray, List.set_cons_zero, List.set_cons_succ]
    refine take_yes (i := 10) (v := ?vn10) rfl (by kernel_rfl) (by kernel_rfl) (by kernel_rfl) (fun _ _ _ h => h) (by rfl) (by assumption) ?hyn10 ?restn10
    case hyn10 => (intro w hSw; (try dsimp only at hSw); first | (go_simp; done) | (go_simp; with_reducible rfl))
    simp only [Act.put, List.setIfInBounds_toArray, List.set_cons_zero, List.set_cons_succ]
    refine wpAnyH_done (by kernel_rfl) ?_ _
    go_wp2
    go_ret
    exact ⟨rfl, BB⟩
  · skip
    obtain ⟨ha, hb, hc, h0⟩ := has_yes.1 hh
    have hcl := cen_low h0
    have hmp : 0 < (meanD (distP b1 b2 c1 c2) (distP c1 c2 a1 a2) (distP a1 a2 b1 b2)).natAbs := by have := mean_pos h0; omega
    obtain ⟨N1, hN1⟩ : ∃ z : Int, z = lowN (meanN a1 b1 c1 (distP b1 b2 c1 c2) (distP c1 c2 a1 a2) (distP a1 a2 b1 b2)) (meanD (distP b1 b2 c1 c2) (distP c1 c2 a1 a2) (distP a1 a2 b1 b2)).natAbs := ⟨_, rfl⟩
    obtain ⟨D1, hD1⟩ : ∃ z : Nat, z = lowD (meanN a1 b1 c1 (distP b1 b2 c1 c2) (distP c1 c2 a1 a2) (distP a1 a2 b1 b2)) (meanD (distP b1 b2 c1 c2) (distP c1 c2 a1 a2) (distP a1 a2 b1 b2)).natAbs := ⟨_, rfl⟩
    have CN1 : Hid (N1 = lowN (cenX a1 a2 b1 b2 c1 c2 * (2 * areaP a1 a2 b1 b2 c1 c2).sign) (2 * areaP a1 a2 b1 b2 c1 c2).natAbs) := hN1.trans hcl.1.1
    have CD1 : Hid (D1 = lowD (cenX a1 a2 b1 b2 c1 c2 * (2 * areaP a1 a2 b1 b2 c1 c2).sign) (2 * areaP a1 a2 b1 b2 c1 c2).natAbs) := hD1.trans hcl.1.2
    have hI1 := low_idem (z := meanN a1 b1 c1 (distP b1 b2 c1 c2) (distP c1 c2 a1 a2) (distP a1 a2 b1 b2)) hmp
    rw [← hN1, ← hD1] at hI1
    have IN1 : Hid (N1 = lowN N1 D1) := hI1.1
    have ID1 : Hid (D1 = lowD N1 D1) := hI1.2
    have EN1 : Hid _ := hN1
    have ED1 : Hid _ := hD1
    clear hN1 hD1 hI1
    obtain ⟨N2, hN2⟩ : ∃ z : Int, z = lowN (meanN a2 b2 c2 (distP b1 b2 c1 c2) (distP c1 c2 a1 a2) (distP a1 a2 b1 b2)) (meanD (distP b1 b2 c1 c2) (distP c1 c2 a1 a2) (distP a1 a2 b1 b2)).natAbs := ⟨_, rfl⟩
    obtain ⟨D2, hD2⟩ : ∃ z : Nat, z = lowD (meanN a2 b2 c2 (distP b1 b2 c1 c2) (distP c1 c2 a1 a2) (distP a1 a2 b1 b2)) (meanD (distP b1 b2 c1 c2) (distP c1 c2 a1 a2) (distP a1 a2 b1 b2)).natAbs := ⟨_, rfl⟩
    have CN2 : Hid (N2 = lowN (cenY a1 a2 b1 b2 c1 c2 * (2 * areaP a1 a2 b1 b2 c1 c2).sign) (2 * areaP a1 a2 b1 b2 c1 c2).natAbs) := hN2.trans hcl.2.1
    have CD2 : Hid (D2 = lowD (cenY a1 a2 b1 b2 c1 c2 * (2 * areaP a1 a2 b1 b2 c1 c2).sign) (2 * areaP a1 a2 b1 b2 c1 c2).natAbs) := hD2.trans hcl.2.2
    have hI2 := low_idem (z := meanN a2 b2 c2 (distP b1 b2 c1 c2) (distP c1 c2 a1 a2) (distP a1 a2 b1 b2)) hmp
    rw [← hN2, ← hD2] at hI2
    have IN2 : Hid (N2 = lowN N2 D2) := hI2.1
    have ID2 : Hid (D2 = lowD N2 D2) := hI2.2
    have EN2 : Hid _ := hN2
    have ED2 : Hid _ := hD2
    clear hN2 hD2 hI2
    have H0 : Hid _ := h0
    clear hcl hmp h0
    obtain ⟨W, hW, bW, x_a, x_b, x_c, sW⟩ := bs_222 w (.int .i64 a1) (.int .i64 a2) (.int .i64 b1) (.int .i64 b2) (.int .i64 c1) (.int .i64 c2) 23 23 23
    have zbW := bW.size
    have BB := bW
    go_enter Tryz.func3, Tryz.ntmps3
    go_wp2_with (go_at_call 7; fail)
    rw [← hW]
    clear hW
    refine ((hC.out a1 a2 b1 b2 c1 c2 W Ra Rb Rc).1 hh _ _ _ _ CN1.out CD1.out CN2.out CD2.out).mono ?_
    rintro e w1 ⟨n41, a41, m41, e41, b41, o41, y41, n42, a42, m42, e42, b42, o42, y42, rfl, x1, x2, bw1⟩
    have zbw1 := bw1.size
    replace BB := also BB bw1
    replace x_a := x_a.on bw1
    replace x_b := x_b.on bw1
    replace x_c := x_c.on bw1
    obtain ⟨V1, hV1, bV1, x_s, sV1⟩ := bs_6 w1 (.bool n41) (.slice a41 m41 e41) (.slice b41 o41 y41) (.bool n42) (.slice a42 m42 e42) (.slice b42 o42 y42) 31
    have zbV1 := bV1.size
    replace BB := also BB bV1
    replace x_a := x_a.on bV1
    replace x_b := x_b.on bV1
    replace x_c := x_c.on bV1
    replace x1 := x1.below bV1
    replace x2 := x2.below bV1
    have st_a_0 : (w1.alloc (.cells #[.bool n41, .slice a41 m41 e41, .slice b41 o41 y41, .bool n42, .slice a42 m42 e42, .slice b42 o42 y42] 31)).cell? ⟨w.heap.size, 0, none⟩ = some (.int .i64 a1) := by rw [← hV1]; exact x_a.c0
    have st_a_1 : (w1.alloc (.cells #[.bool n41, .slice a41 m41 e41, .slice b41 o41 y41, .bool n42, .slice a42 m42 e42, .slice b42 o42 y42] 31)).cell? ⟨w.heap.size, 1, none⟩ = some (.int .i64 a2) := by rw [← hV1]; exact x_a.c1
    have sf_a_0 : (w1.alloc (.cells #[.bool n41, .slice a41 m41 e41, .slice b41 o41 y41, .bool n42, .slice a42 m42 e42, .slice b42 o42 y42] 31)).frozen? ⟨w.heap.size, 0, none⟩ = false := by rw [← hV1]; exact x_a.f0
    have sf_a_1 : (w1.alloc (.cells #[.bool n41, .slice a41 m41 e41, .slice b41 o41 y41, .bool n42, .slice a42 m42 e42, .slice b42 o42 y42] 31)).frozen? ⟨w.heap.size, 1, none⟩ = false := by rw [← hV1]; exact x_a.f1
    have st_b_0 : (w1.alloc (.cells #[.bool n41, .slice a41 m41 e41, .slice b41 o41 y41, .bool n42, .slice a42 m42 e42, .slice b42 o42 y42] 31)).cell? ⟨w.heap.size + 1, 0, none⟩ = some (.int .i64 b1) := by rw [← hV1]; exact x_b.c0
    have st_b_1 : (w1.alloc (.cells #[.bool n41, .slice a41 m41 e41, .slice b41 o41 y41, .bool n42, .slice a42 m42 e42, .slice b42 o42 y42] 31)).cell? ⟨w.heap.size + 1, 1, none⟩ = some (.int .i64 b2) := by rw [← hV1]; exact x_b.c1
    have sf_b_0 : (w1.alloc (.cells #[.bool n41, .slice a41 m41 e41, .slice b41 o41 y41, .bool n42, .slice a42 m42 e42, .slice b42 o42 y42] 31)).frozen? ⟨w.heap.size + 1, 0, none⟩ = false := by rw [← hV1]; exact x_b.f0
    have sf_b_1 : (w1.alloc (.cells #[.bool n41, .slice a41 m41 e41, .slice b41 o41 y41, .bool n42, .slice a42 m42 e42, .slice b42 o42 y42] 31)).frozen? ⟨w.heap.size + 1, 1, none⟩ = false := by rw [← hV1]; exact x_b.f1
    have st_c_0 : (w1.alloc (.cells #[.bool n41, .slice a41 m41 e41, .slice b41 o41 y41, .bool n42, .slice a42 m42 e42, .slice b42 o42 y42] 31)).cell? ⟨w.heap.size + 1 + 1, 0, none⟩ = some (.int .i64 c1) := by rw [← hV1]; exact x_c.c0
    have st_c_1 : (w1.alloc (.cells #[.bool n41, .slice a41 m41 e41, .slice b41 o41 y41, .bool n42, .slice a42 m42 e42, .slice b42 o42 y42] 31)).cell? ⟨w.heap.size + 1 + 1, 1, none⟩ = some (.int .i64 c2) := by rw [← hV1]; exact x_c.c1
    have sf_c_0 : (w1.alloc (.cells #[.bool n41, .slice a41 m41 e41, .slice b41 o41 y41, .bool n42, .slice a42 m42 e42, .slice b42 o42 y42] 31)).frozen? ⟨w.heap.size + 1 + 1, 0, none⟩ = false := by rw [← hV1]; exact x_c.f0
    have sf_c_1 : (w1.alloc (.cells #[.bool n41, .slice a41 m41 e41, .slice b41 o41 y41, .bool n42, .slice a42 m42 e42, .slice b42 o42 y42] 31)).frozen? ⟨w.heap.size + 1 + 1, 1, none⟩ = false := by rw [← hV1]; exact x_c.f1
    go_wp2_with (go_at_call 8; fail)
    rw [← hV1]
    clear hV1 st_a_0 st_a_1 sf_a_0 sf_a_1 st_b_0 st_b_1 sf_b_0 sf_b_1 st_c_0 st_c_1 sf_c_0 sf_c_1
    refine (rcHas a1 a2 b1 b2 c1 c2 V1 Ra Rb Rc hh.symm).mono ?_
    rintro e w2 ⟨rfl, bw2⟩
    have zbw2 := bw2.size
    replace BB := also BB bw2
    replace x_a := x_a.on bw2
    replace x_b := x_b.on bw2
    replace x_c := x_c.on bw2
    replace x1 := x1.below bw2
    replace x2 := x2.below bw2
    replace x_s := x_s.on bw2
    go_wp2
    have dd1 : Below w2.heap.size w2 w2.drew := (Below.refl _ _).drew
    have zdd1 := dd1.size
    replace BB := also BB dd1
    replace x_a := x_a.on dd1
    replace x_b := x_b.on dd1
    replace x_c := x_c.on dd1
    replace x1 := x1.below dd1
    replace x2 := x2.below dd1
    replace x_s := x_s.on dd1
    refine wp_region_held_drew (S := (fun w' => w'.cell? ⟨w1.heap.size, 0, none⟩ = some (.bool n41) ∧ w'.cell? ⟨w1.heap.size, 1, none⟩ = some (.slice a41 m41 e41) ∧ w'.cell? ⟨w1.heap.size, 2, none⟩ = some (.slice b41 o41 y41) ∧ w'.cell? ⟨w1.heap.size, 3, none⟩ = some (.bool n42) ∧ w'.cell? ⟨w1.heap.size, 4, none⟩ = some (.slice a42 m42 e42) ∧ w'.cell? ⟨w1.heap.size, 5, none⟩ = some (.slice b42 o42 y42) ∧ w'.cell? ⟨w.heap.size, 0, none⟩ = some (.int .i64 a1) ∧ w'.cell? ⟨w.heap.size, 1, none⟩ = some (.int .i64 a2) ∧ w'.cell? ⟨w.heap.size + 1, 0, none⟩ = some (.int .i64 b1) ∧ w'.cell? ⟨w.heap.size + 1, 1, none⟩ = some (.int .i64 b2) ∧ w'.cell? ⟨w.heap.size + 1 + 1, 0, none⟩ = some (.int .i64 c1) ∧ w'.cell? ⟨w.heap.size + 1 + 1, 1, none⟩ = some (.int .i64 c2) ∧ Below w.heap.size w w')) (by kernel_rfl) ?_ (fun hHeld => ?_)
    · exact ⟨x_s.c0, x_s.c1, x_s.c2, x_s.c3, x_s.c4, x_s.c5, x_a.c0, x_a.c1, x_b.c0, x_b.c1, x_c.c0, x_c.c1, BB⟩
    refine take_yes (i := 0) (v := ?vy0) rfl (by kernel_rfl) (by kernel_rfl) (by kernel_rfl) (fun _ _ _ h => h) (by rfl) (by assumption) ?hyy0 ?resty0
    case hyy0 => (intro w hSw; (try dsimp only at hSw); first | (go_simp; done) | (go_simp; with_reducible rfl))
    simp only [Act.put, List.setIfInBounds_toArray, List.set_cons_zero, List.set_cons_succ]
    refine take_yes (i := 1) (v := ?vy1) rfl (by kernel_rfl) (by kernel_rfl) (by kernel_rfl) (fun _ _ _ h => h) (by rfl) (by assumption) ?hyy1 ?resty1
    case hyy1 => (intro w hSw; (try dsimp only at hSw); first | (go_simp; done) | (go_simp; with_reducible rfl))
    simp only [Act.put, List.setIfInBounds_toArray, List.set_cons_zero, List.set_cons_succ]
    refine take_yes (i := 2) (v := ?vy2) rfl (by kernel_rfl) (by kernel_rfl) (by kernel_rfl) (fun _ _ _ h => h) (by rfl) (by assumption) ?hyy2 ?resty2
    case hyy2 => (intro w hSw; (try dsimp only at hSw); first | (go_simp; done) | (go_simp; with_reducible rfl))
    simp only [Act.put, List.setIfInBounds_toArray, List.set_cons_zero, List.set_cons_succ]
    refine take_yes (i := 3) (v := ?vy3) rfl (by kernel_rfl) (by kernel_rfl) (by kernel_rfl) (fun _ _ _ h => h) (by rfl) (by assumption) ?hyy3 ?resty3
    case hyy3 => (intro w hSw; (try dsimp only at hSw); first | (go_simp; done) | (go_simp; with_reducible rfl))
    simp only [Act.put, List.setIfInBounds_toArray, List.set_cons_zero, List.set_cons_succ]
    refine take_call (i := 4) rfl (by kernel_rfl) (fun Kc hK => ?_)
    go_simp
    (go_at_call 12; refine (rcCenter a1 a2 b1 b2 c1 c2 _ ha hb hc H0.out EN1.out ED1.out EN2.out ED2.out).mono ?_; rintro e w3 ⟨s21, d21, l21, c21, t21, g21, h21, k21, s22, d22, l22, c22, t22, g22, h22, k22, rfl, q21, q22, f21, bw3⟩)
    refine hK.out _ _ ?_ (fun hHeld => ?_)
    · exact ⟨cell_on bw3 hHeld.1, cell_on bw3 hHeld.2.1, cell_on bw3 hHeld.2.2.1, cell_on bw3 hHeld.2.2.2.1, cell_on bw3 hHeld.2.2.2.2.1, cell_on bw3 hHeld.2.2.2.2.2.1, cell_on bw3 hHeld.2.2.2.2.2.2.1, cell_on bw3 hHeld.2.2.2.2.2.2.2.1, cell_on bw3 hHeld.2.2.2.2.2.2.2.2.1, cell_on bw3 hHeld.2.2.2.2.2.2.2.2.2.1, cell_on bw3 hHeld.2.2.2.2.2.2.2.2.2.2.1, cell_on bw3 hHeld.2.2.2.2.2.2.2.2.2.2.2.1, also hHeld.2.2.2.2.2.2.2.2.2.2.2.2 bw3⟩
    clear hK Kc
    have zbw3 := bw3.size
    replace BB := also BB bw3
    replace x_a := x_a.on bw3
    replace x_b := x_b.on bw3
    replace x_c := x_c.on bw3
    replace x1 := x1.below bw3
    replace x2 := x2.below bw3
    replace x_s := x_s.on bw3
    refine take_call (i := 5) rfl (by kernel_rfl) (fun Kc hK => ?_)
    go_simp
    (go_at_call 9; refine (rcSame n41 a41 m41 e41 b41 o41 y41 N1 D1 n42 a42 m42 e42 b42 o42 y42 N2 D2 s21 d21 l21 c21 t21 g21 h21 k21 N1 D1 s22 d22 l22 c22 t22 g22 h22 k22 N2 D2 10 _ x1 x2 q21 q22 IN1.out ID1.out IN2.out ID2.out).mono ?_; rintro e w4 ⟨rfl, bw4⟩)
    refine hK.out _ _ ?_ (fun hHeld => ?_)
    · exact ⟨cell_on bw4 hHeld.1, cell_on bw4 hHeld.2.1, cell_on bw4 hHeld.2.2.1, cell_on bw4 hHeld.2.2.2.1, cell_on bw4 hHeld.2.2.2.2.1, cell_on bw4 hHeld.2.2.2.2.2.1, cell_on bw4 hHeld.2.2.2.2.2.2.1, cell_on bw4 hHeld.2.2.2.2.2.2.2.1, cell_on bw4 hHeld.2.2.2.2.2.2.2.2.1, cell_on bw4 hHeld.2.2.2.2.2.2.2.2.2.1, cell_on bw4 hHeld.2.2.2.2.2.2.2.2.2.2.1, cell_on bw4 hHeld.2.2.2.2.2.2.2.2.2.2.2.1, also hHeld.2.2.2.2.2.2.2.2.2.2.2.2 bw4⟩
    clear hK Kc
    have zbw4 := bw4.size
    replace BB := also BB bw4
    replace x_a := x_a.on bw4
    replace x_b := x_b.on bw4
    replace x_c := x_c.on bw4
    replace x1 := x1.below bw4
    replace x2 := x2.below bw4
    replace x_s := x_s.on bw4
    replace q21 := q21.below bw4
    replace q22 := q22.below bw4
    refine take_yes (i := 6) (v := ?vy6) rfl (by kernel_rfl) (by kernel_rfl) (by kernel_rfl) (fun _ _ _ h => h) (by rfl) (by assumption) ?hyy6 ?resty6
    case hyy6 => (intro w hSw; (try dsimp only at hSw); first | (go_simp; done) | (go_simp; with_reducible rfl))
    simp only [Act.put, List.setIfInBounds_toArray, List.set_cons_zero, List.set_cons_succ]
    refine take_yes (i := 7) (v := ?vy7) rfl (by kernel_rfl) (by kernel_rfl) (by kernel_rfl) (fun _ _ _ h => h) (by rfl) (by assumption) ?hyy7 ?resty7
    case hyy7 => (intro w hSw; (try dsimp only at hSw); first | (go_simp; done) | (go_simp; with_reducible rfl))
    simp only [Act.put, List.setIfInBounds_toArray, List.set_cons_zero, List.set_cons_succ]
    refine take_yes (i := 8) (v := ?vy8) rfl (by kernel_rfl) (by kernel_rfl) (by kernel_rfl) (fun _ _ _ h => h) (by rfl) (by assumption) ?hyy8 ?resty8
    case hyy8 => (intro w hSw; (try dsimp only at hSw); first | (go_simp; done) | (go_simp; with_reducible rfl))
    simp only [Act.put, List.setIfInBounds_toArray, List.set_cons_zero, List.set_cons_succ]
    refine take_yes (i := 9) (v := ?vy9) rfl (by kernel_rfl) (by kernel_rfl) (by kernel_rfl) (fun _ _ _ h => h) (by rfl) (by assumption) ?hyy9 ?resty9
    case hyy9 => (intro w hSw; (try dsimp only at hSw); first | (go_simp; done) | (go_simp; with_reducible rfl))
    simp only [Act.put, List.setIfInBounds_toArray, List.set_cons_zero, List.set_cons_succ]
    refine take_call (i := 10) rfl (by kernel_rfl) (fun Kc hK => ?_)
    go_simp
    (go_at_call 11; refine (hL.out _).mono ?_; rintro e w5 ⟨rfl, bw5⟩)
    refine hK.out _ _ ?_ (fun hHeld => ?_)
    · exact ⟨cell_on bw5 hHeld.1, cell_on bw5 hHeld.2.1, cell_on bw5 hHeld.2.2.1, cell_on bw5 hHeld.2.2.2.1, cell_on bw5 hHeld.2.2.2.2.1, cell_on bw5 hHeld.2.2.2.2.2.1, cell_on bw5 hHeld.2.2.2.2.2.2.1, cell_on bw5 hHeld.2.2.2.2.2.2.2.1, cell_on bw5 hHeld.2.2.2.2.2.2.2.2.1, cell_on bw5 hHeld.2.2.2.2.2.2.2.2.2.1, cell_on bw5 hHeld.2.2.2.2.2.2.2.2.2.2.1, cell_on bw5 hHeld.2.2.2.2.2.2.2.2.2.2.2.1, also hHeld.2.2.2.2.2.2.2.2.2.2.2.2 bw5⟩
    clear hK Kc
    have zbw5 := bw5.size
    replace BB := also BB bw5
    replace x_a := x_a.on bw5
    replace x_b := x_b.on bw5
    replace x_c := x_c.on bw5
    replace x1 := x1.below bw5
    replace x2 := x2.below bw5
    replace x_s := x_s.on bw5
    replace q21 := q21.below bw5
    replace q22 := q22.below bw5
    refine take_yes (i := 11) (v := ?vy11) rfl (by kernel_rfl) (by kernel_rfl) (by kernel_rfl) (fun _ _ _ h => h) (by rfl) (by assumption) ?hyy11 ?resty11
    case hyy11 => (intro w hSw; (try dsimp only at hSw); first | (go_simp; done) | (go_simp; with_reducible rfl))
    simp only [Act.put, List.setIfInBounds_toArray, List.set_cons_zero, List.set_cons_succ]
    refine take_yes (i := 12) (v := ?vy12) rfl (by kernel_rfl) (by kernel_rfl) (by kernel_rfl) (fun _ _ _ h => h) (by rfl) (by assumption) ?hyy12 ?resty12
    case hyy12 => (intro w hSw; (try dsimp only at hSw); first | (go_simp; done) | (go_simp; with_reducible rfl))
    simp only [Act.put, List.setIfInBounds_toArray, List.set_cons_zero, List.set_cons_succ]
    refine wpAnyH_done (by kernel_rfl) ?_ _
    go_wp2
    go_ret
    exact ⟨rfl, BB⟩
end Go.Proofs.YtcaihoomcdbfnaaGreat

namespace Go.Proofs.YtcaihoomcdbfnaaGreat
open Go.RowKit
set_option linter.unusedVariables false

theorem QN.put6 {w : World} {n3 : Bool} {a3 : Option Addr} {l3 c3 : Nat} {d3 : Option Addr} {m3 k3 : Nat} {z : Int} {D b : Nat} (h : QN w n3 a3 l3 c3 d3 m3 k3 z D) (n1 : NA b a3 l3) (n2 : NA b d3 m3) (u0 u1 u2 u3 u4 u5 : Value) : QN ((((((w.setCell ⟨b, 0, none⟩ u0).setCell ⟨b, 1, none⟩ u1).setCell ⟨b, 2, none⟩ u2).setCell ⟨b, 3, none⟩ u3).setCell ⟨b, 4, none⟩ u4).setCell ⟨b, 5, none⟩ u5) n3 a3 l3 c3 d3 m3 k3 z D := ((((((h.put n1 n2 0 u0).put n1 n2 1 u1).put n1 n2 2 u2).put n1 n2 3 u3).put n1 n2 4 u4).put n1 n2 5 u5)
theorem endCen {w w2 : World} {n3 : Bool} {a3 : Option Addr} {l3 c3 : Nat} {d3 : Option Addr} {m3 k3 : Nat} {n4 : Bool} {a4 : Option Addr} {l4 c4 : Nat} {d4 : Option Addr} {m4 k4 : Nat} {A1 : Int} {B1 : Nat} {A2 : Int} {B2 : Nat} {ok : Bool} (b : Nat) (hb : w.heap.size ≤ b) (B : Below w.heap.size w w2) (h3 : QN w2 n3 a3 l3 c3 d3 m3 k3 A1 B1) (h4 : QN w2 n4 a4 l4 c4 d4 m4 k4 A2 B2) (f3 : NA b a3 l3) (g3 : NA b d3 m3) (f4 : NA b a4 l4) (g4 : NA b d4 m4) (u0 u1 u2 u3 u4 u5 : Value) :
    GotCen w ok A1 B1 A2 B2 (.returned (.tuple #[.agg #[.bool n3, .slice a3 l3 c3, .slice d3 m3 k3, .bool n4, .slice a4 l4 c4, .slice d4 m4 k4], .bool ok])) ((((((w2.setCell ⟨b, 0, none⟩ u0).setCell ⟨b, 1, none⟩ u1).setCell ⟨b, 2, none⟩ u2).setCell ⟨b, 3, none⟩ u3).setCell ⟨b, 4, none⟩ u4).setCell ⟨b, 5, none⟩ u5) :=
  ⟨n3, a3, l3, c3, d3, m3, k3, n4, a4, l4, c4, d4, m4, k4, rfl, h3.put6 f3 g3 u0 u1 u2 u3 u4 u5, h4.put6 f4 g4 u0 u1 u2 u3 u4 u5, below_put6 B hb u0 u1 u2 u3 u4 u5⟩
set_option maxRecDepth 100000 in
set_option maxHeartbeats 8000000 in
theorem cCenter0 (a1 a2 b1 b2 c1 c2 : Int) (w : World) (Ra : Hid (R2 (a1, a2))) (Rb : Hid (R2 (b1, b2))) (Rc : Hid (R2 (c1, c2))) (hh : hasP a1 a2 b1 b2 c1 c2 = false) :
    Calls Tryz.prog 7 #[.agg #[.int .i64 a1, .int .i64 a2], .agg #[.int .i64 b1, .int .i64 b2], .agg #[.int .i64 c1, .int .i64 c2]] w (GotCen w false 0 1 0 1) := by
  obtain ⟨W, hW, bW, x_a, x_b, x_c, x_r, sW⟩ := bs_2226 w (.int .i64 a1) (.int .i64 a2) (.int .i64 b1) (.int .i64 b2) (.int .i64 c1) (.int .i64 c2) (.bool false) (.slice none 0 0) (.slice none 0 0) (.bool false) (.slice none 0 0) (.slice none 0 0) 23 23 23 31
  have zbW := bW.size
  have BB := bW
  go_enter Tryz.func7, Tryz.ntmps7
  go_wp2_with (go_at_call 22; fail)
  rw [← hW]
  clear hW
  refine (cAbout0 a1 a2 b1 b2 c1 c2 hh W).mono ?_
  rintro e w1 ⟨rfl, bw1⟩
  have zbw1 := bw1.size
  replace BB := also BB bw1
  replace x_a := x_a.on bw1
  replace x_b := x_b.on bw1
  replace x_c := x_c.on bw1
  replace x_r := x_r.on bw1
  obtain ⟨V, hV, bV, x_s, sV⟩ := bs_6 w1 (.int .i64 0) (.int .u64 0) (.int .i64 0) (.int .u64 0) (.int .i64 0) (.int .u64 0) 63
  have zbV := bV.size
  replace BB := also BB bV
  replace x_a := x_a.on bV
  replace x_b := x_b.on bV
  replace x_c := x_c.on bV
  replace x_r := x_r.on bV
  go_wp2_with (go_at_call 23; fail)
  rw [← hV]
  clear hV
  refine (qOf 0 V (by decide) (by decide)).mono ?_
  rintro e w2 ⟨n3, a3, l3, c3, d3, m3, k3, rfl, h3, f3, g3, bw2⟩
  have zbw2 := bw2.size
  replace BB := also BB bw2
  replace x_a := x_a.on bw2
  replace x_b := x_b.on bw2
  replace x_c := x_c.on bw2
  replace x_r := x_r.on bw2
  replace x_s := x_s.on bw2
  go_wp2_with (go_at_call 23; fail)
  refine (qOf 0 w2 (by decide) (by decide)).mono ?_
  rintro e w3 ⟨n4, a4, l4, c4, d4, m4, k4, rfl, h4, f4, g4, bw3⟩
  have zbw3 := bw3.size
  replace BB := also BB bw3
  replace x_a := x_a.on bw3
  replace x_b := x_b.on bw3
  replace x_c := x_c.on bw3
  replace x_r := x_r.on bw3
  replace x_s := x_s.on bw3
  replace h3 := h3.below bw3
  have ⟨x_r_0, x_r_1, x_r_2, x_r_3, x_r_4, x_r_5, x_r_6, x_r_7, x_r_8, x_r_9, x_r_10, x_r_11⟩ := x_r
  go_wp2
  exact bodyPost_ret (v := .tuple #[.agg #[.bool n3, .slice a3 l3 c3, .slice d3 m3 k3, .bool n4, .slice a4 l4 c4, .slice d4 m4 k4], .bool false]) (by simp [results, Tryz.results7, go_sem, *]) rfl (endCen _ (by omega) BB h3 h4 (f3 _ (by omega)) (g3 _ (by omega)) (f4 _ (by omega)) (g4 _ (by omega)) _ _ _ _ _ _)
set_option maxRecDepth 100000 in
set_option maxHeartbeats 8000000 in
theorem cCenter (a1 a2 b1 b2 c1 c2 : Int) (w : World) (Ra : Hid (R2 (a1, a2))) (Rb : Hid (R2 (b1, b2))) (Rc : Hid (R2 (c1, c2))) (hh : hasP a1 a2 b1 b2 c1 c2 = true) (A1 : Int) (B1 : Nat) (A2 : Int) (B2 : Nat) (hA1 : A1 = lowN (cenX a1 a2 b1 b2 c1 c2 * (2 * areaP a1 a2 b1 b2 c1 c2).sign) (2 * areaP a1 a2 b1 b2 c1 c2).natAbs) (hB1 : B1 = lowD (cenX a1 a2 b1 b2 c1 c2 * (2 * areaP a1 a2 b1 b2 c1 c2).sign) (2 * areaP a1 a2 b1 b2 c1 c2).natAbs) (hA2 : A2 = lowN (cenY a1 a2 b1 b2 c1 c2 * (2 * areaP a1 a2 b1 b2 c1 c2).sign) (2 * areaP a1 a2 b1 b2 c1 c2).natAbs) (hB2 : B2 = lowD (cenY a1 a2 b1 b2 c1 c2 * (2 * areaP a1 a2 b1 b2 c1 c2).sign) (2 * areaP a1 a2 b1 b2 c1 c2).natAbs) :
    Calls Tryz.prog 7 #[.agg #[.int .i64 a1, .int .i64 a2], .agg #[.int .i64 b1, .int .i64 b2], .agg #[.int .i64 c1, .int .i64 c2]] w (GotCen w true A1 B1 A2 B2) := by
  obtain ⟨ha, hb, hc, h0⟩ := has_yes.1 hh
  have ko := off_small ha hb hc
  have ks := off_sum a1 a2 b1 b2 c1 c2
  have kr := rad_small ha hb hc
  have kw := area_wide ha hb hc
  obtain ⟨X, hX⟩ : ∃ z, z = offX (b1 - a1) (b2 - a2) (c1 - a1) (c2 - a2) := ⟨_, rfl⟩
  obtain ⟨Y, hY⟩ : ∃ z, z = offY (b1 - a1) (b2 - a2) (c1 - a1) (c2 - a2) := ⟨_, rfl⟩
  obtain ⟨G, hG⟩ : ∃ z, z = areaP a1 a2 b1 b2 c1 c2 := ⟨_, rfl⟩
  rw [← hX, ← hY] at ko ks
  rw [← hG] at h0 kw
  obtain ⟨rh, erh⟩ : ∃ z, z = lw.hi X := ⟨_, rfl⟩
  obtain ⟨rl, erl⟩ : ∃ z, z = lw.lo X := ⟨_, rfl⟩
  have Jrh : Hid (rh = lw.hi (offX (b1 - a1) (b2 - a2) (c1 - a1) (c2 - a2))) := by unfold Hid; rw [← hX]; exact erh
  have Hrh : Hid _ := erh
  clear erh
  have Jrl : Hid (rl = lw.lo (offX (b1 - a1) (b2 - a2) (c1 - a1) (c2 - a2))) := by unfold Hid; rw [← hX]; exact erl
  have Hrl : Hid _ := erl
  clear erl
  obtain ⟨sh, esh⟩ : ∃ z, z = lw.hi Y := ⟨_, rfl⟩
  obtain ⟨sl, esl⟩ : ∃ z, z = lw.lo Y := ⟨_, rfl⟩
  have Jsh : Hid (sh = lw.hi (offY (b1 - a1) (b2 - a2) (c1 - a1) (c2 - a2))) := by unfold Hid; rw [← hY]; exact esh
  have Hsh : Hid _ := esh
  clear esh
  have Jsl : Hid (sl = lw.lo (offY (b1 - a1) (b2 - a2) (c1 - a1) (c2 - a2))) := by unfold Hid; rw [← hY]; exact esl
  have Hsl : Hid _ := esl
  clear esl
  obtain ⟨ph, eph⟩ : ∃ z, z = lw.hi G := ⟨_, rfl⟩
  obtain ⟨pl, epl⟩ : ∃ z, z = lw.lo G := ⟨_, rfl⟩
  have Jph : Hid (ph = lw.hi (areaP a1 a2 b1 b2 c1 c2)) := by unfold Hid; rw [← hG]; exact eph
  have Hph : Hid _ := eph
  clear eph
  have Jpl : Hid (pl = lw.lo (areaP a1 a2 b1 b2 c1 c2)) := by unfold Hid; rw [← hG]; exact epl
  have Hpl : Hid _ := epl
  clear epl
  have RX : Hid (W128 X) := w128_abs (by omega)
  have RY : Hid (W128 Y) := w128_abs (by omega)
  have RG : Hid (W128 G) := ⟨by omega, by omega⟩
  have RT : Hid (W128 (G + G)) := ⟨by omega, by omega⟩
  have T0 : Hid (G + G ≠ 0) := by unfold Hid; omega
  obtain ⟨th, hth⟩ : ∃ z, z = lw.hi (G + G) := ⟨_, rfl⟩
  obtain ⟨tl, htl⟩ : ∃ z, z = lw.lo (G + G) := ⟨_, rfl⟩
  have Hth : Hid _ := hth
  have Htl : Hid _ := htl
  clear hth htl
  have e2 : 2 * areaP a1 a2 b1 b2 c1 c2 = G + G := by rw [← hG]; omega
  have j1 : cenX a1 a2 b1 b2 c1 c2 = a1 * (G + G) + X := by unfold cenX; rw [e2, ← hX, Int.mul_comm]
  rw [e2, j1] at hA1 hB1
  have L1 : Hid (R64 a1) := in_64 (canC_true.1 ha).1
  have M1 : Hid (W256 (a1 * (G + G) + X)) := by
    have k1 : a1.natAbs ≤ 10000000000000000000 := by have := L1.out; unfold R64 at this; omega
    have k2 : (G + G).natAbs ≤ 20000000000000000000000000 := by omega
    have k3 := prod_abs k1 k2
    unfold Hid W256
    omega
  have j2 : cenY a1 a2 b1 b2 c1 c2 = a2 * (G + G) + Y := by unfold cenY; rw [e2, ← hY, Int.mul_comm]
  rw [e2, j2] at hA2 hB2
  have L2 : Hid (R64 a2) := in_64 (canC_true.1 ha).2
  have M2 : Hid (W256 (a2 * (G + G) + Y)) := by
    have k1 : a2.natAbs ≤ 10000000000000000000 := by have := L2.out; unfold R64 at this; omega
    have k2 : (G + G).natAbs ≤ 20000000000000000000000000 := by omega
    have k3 := prod_abs k1 k2
    unfold Hid W256
    omega
  have HA1 : Hid _ := hA1
  have HB1 : Hid _ := hB1
  have HA2 : Hid _ := hA2
  have HB2 : Hid _ := hB2
  clear hA1 hB1 hA2 hB2
  clear e2 j1 j2 ko ks kr kw h0 hX hY hG ha hb hc
  obtain ⟨W, hW, bW, x_a, x_b, x_c, x_r, sW⟩ := bs_2226 w (.int .i64 a1) (.int .i64 a2) (.int .i64 b1) (.int .i64 b2) (.int .i64 c1) (.int .i64 c2) (.bool false) (.slice none 0 0) (.slice none 0 0) (.bool false) (.slice none 0 0) (.slice none 0 0) 23 23 23 31
  have zbW := bW.size
  have BB := bW
  go_enter Tryz.func7, Tryz.ntmps7
  go_wp2_with (go_at_call 22; fail)
  rw [← hW]
  clear hW
  refine (cAbout a1 a2 b1 b2 c1 c2 hh Jrh.out Jrl.out Jsh.out Jsl.out Jph.out Jpl.out W).mono ?_
  rintro e w1 ⟨rfl, bw1⟩
  have zbw1 := bw1.size
  replace BB := also BB bw1
  replace x_a := x_a.on bw1
  replace x_b := x_b.on bw1
  replace x_c := x_c.on bw1
  replace x_r := x_r.on bw1
  obtain ⟨V, hV, bV, x_s, sV⟩ := bs_6 w1 (.int .i64 rh) (.int .u64 rl) (.int .i64 sh) (.int .u64 sl) (.int .i64 ph) (.int .u64 pl) 63
  have zbV := bV.size
  replace BB := also BB bV
  replace x_a := x_a.on bV
  replace x_b := x_b.on bV
  replace x_c := x_c.on bV
  replace x_r := x_r.on bV
  go_wp2_with (go_at_call 24; fail)
  rw [← hV]
  clear hV
  refine (xAdd G G Hph.out Hpl.out Hph.out Hpl.out Hth.out Htl.out V).mono ?_
  rintro e w2 ⟨rfl, bw2⟩
  have zbw2 := bw2.size
  replace BB := also BB bw2
  replace x_a := x_a.on bw2
  replace x_b := x_b.on bw2
  replace x_c := x_c.on bw2
  replace x_r := x_r.on bw2
  replace x_s := x_s.on bw2
  obtain ⟨X1, hX1, bX1, x_t, sX1⟩ := bs_2 w2 (.int .i64 th) (.int .u64 tl) 61
  have zbX1 := bX1.size
  replace BB := also BB bX1
  replace x_a := x_a.on bX1
  replace x_b := x_b.on bX1
  replace x_c := x_c.on bX1
  replace x_r := x_r.on bX1
  replace x_s := x_s.on bX1
  go_wp2
  rw [← hX1]
  clear hX1
  have dd1 : Below X1.heap.size X1 X1.drew := (Below.refl _ _).drew
  have zdd1 := dd1.size
  replace BB := also BB dd1
  replace x_a := x_a.on dd1
  replace x_b := x_b.on dd1
  replace x_c := x_c.on dd1
  replace x_r := x_r.on dd1
  replace x_s := x_s.on dd1
  replace x_t := x_t.on dd1
  refine wp_region_held_drew (S := (fun w' => w'.cell? ⟨w.heap.size, 0, none⟩ = some (.int .i64 a1) ∧ w'.cell? ⟨w.heap.size, 1, none⟩ = some (.int .i64 a2) ∧ w'.cell? ⟨w1.heap.size, 0, none⟩ = some (.int .i64 rh) ∧ w'.cell? ⟨w1.heap.size, 1, none⟩ = some (.int .u64 rl) ∧ w'.cell? ⟨w1.heap.size, 2, none⟩ = some (.int .i64 sh) ∧ w'.cell? ⟨w1.heap.size, 3, none⟩ = some (.int .u64 sl) ∧ w'.cell? ⟨w1.heap.size, 4, none⟩ = some (.int .i64 ph) ∧ w'.cell? ⟨w1.heap.size, 5, none⟩ = some (.int .u64 pl) ∧ w'.cell? ⟨w2.heap.size, 0, none⟩ = some (.int .i64 th) ∧ w'.cell? ⟨w2.heap.size, 1, none⟩ = some (.int .u64 tl) ∧ Below w.heap.size w w')) (by kernel_rfl) ?_ (fun hHeld => ?_)
  · exact ⟨x_a.c0, x_a.c1, x_s.c0, x_s.c1, x_s.c2, x_s.c3, x_s.c4, x_s.c5, x_t.c0, x_t.c1, BB⟩
  refine take_yes (i := 0) (v := ?vs0) rfl (by kernel_rfl) (by kernel_rfl) (by kernel_rfl) (fun _ _ _ h => h) (by rfl) (by assumption) ?hys0 ?rests0
  case hys0 => (intro w hSw; (try dsimp only at hSw); first | (go_simp; done) | (go_simp; with_reducible rfl))
  simp only [Act.put, List.setIfInBounds_toArray, List.set_cons_zero, List.set_cons_succ]
  refine take_yes (i := 1) (v := ?vs1) rfl (by kernel_rfl) (by kernel_rfl) (by kernel_rfl) (fun _ _ _ h => h) (by rfl) (by assumption) ?hys1 ?rests1
  case hys1 => (intro w hSw; (try dsimp only at hSw); first | (go_simp; done) | (go_simp; with_reducible rfl))
  simp only [Act.put, List.setIfInBounds_toArray, List.set_cons_zero, List.set_cons_succ]
  refine take_yes (i := 2) (v := ?vs2) rfl (by kernel_rfl) (by kernel_rfl) (by kernel_rfl) (fun _ _ _ h => h) (by rfl) (by assumption) ?hys2 ?rests2
  case hys2 => (intro w hSw; (try dsimp only at hSw); first | (go_simp; done) | (go_simp; with_reducible rfl))
  simp only [Act.put, List.setIfInBounds_toArray, List.set_cons_zero, List.set_cons_succ]
  refine take_yes (i := 3) (v := ?vs3) rfl (by kernel_rfl) (by kernel_rfl) (by kernel_rfl) (fun _ _ _ h => h) (by rfl) (by assumption) ?hys3 ?rests3
  case hys3 => (intro w hSw; (try dsimp only at hSw); first | (go_simp; done) | (go_simp; with_reducible rfl))
  simp only [Act.put, List.setIfInBounds_toArray, List.set_cons_zero, List.set_cons_succ]
  refine take_yes (i := 4) (v := ?vs4) rfl (by kernel_rfl) (by kernel_rfl) (by kernel_rfl) (fun _ _ _ h => h) (by rfl) (by assumption) ?hys4 ?rests4
  case hys4 => (intro w hSw; (try dsimp only at hSw); first | (go_simp; done) | (go_simp; with_reducible rfl))
  simp only [Act.put, List.setIfInBounds_toArray, List.set_cons_zero, List.set_cons_succ]
  refine take_yes (i := 6) (v := ?vs6) rfl (by kernel_rfl) (by kernel_rfl) (by kernel_rfl) (fun _ _ _ h => h) (by rfl) (by assumption) ?hys6 ?rests6
  case hys6 => (intro w hSw; (try dsimp only at hSw); first | (go_simp; done) | (go_simp; with_reducible rfl))
  simp only [Act.put, List.setIfInBounds_toArray, List.set_cons_zero, List.set_cons_succ]
  refine take_yes (i := 7) (v := ?vs7) rfl (by kernel_rfl) (by kernel_rfl) (by kernel_rfl) (fun _ _ _ h => h) (by rfl) (by assumption) ?hys7 ?rests7
  case hys7 => (intro w hSw; (try dsimp only at hSw); first | (go_simp; done) | (go_simp; with_reducible rfl))
  simp only [Act.put, List.setIfInBounds_toArray, List.set_cons_zero, List.set_cons_succ]
  refine take_yes (i := 8) (v := ?vs8) rfl (by kernel_rfl) (by kernel_rfl) (by kernel_rfl) (fun _ _ _ h => h) (by rfl) (by assumption) ?hys8 ?rests8
  case hys8 => (intro w hSw; (try dsimp only at hSw); first | (go_simp; done) | (go_simp; with_reducible rfl))
  simp only [Act.put, List.setIfInBounds_toArray, List.set_cons_zero, List.set_cons_succ]
  refine take_yes (i := 9) (v := ?vs9) rfl (by kernel_rfl) (by kernel_rfl) (by kernel_rfl) (fun _ _ _ h => h) (by rfl) (by assumption) ?hys9 ?rests9
  case hys9 => (intro w hSw; (try dsimp only at hSw); first | (go_simp; done) | (go_simp; with_reducible rfl))
  simp only [Act.put, List.setIfInBounds_toArray, List.set_cons_zero, List.set_cons_succ]
  refine take_yes (i := 10) (v := ?vs10) rfl (by kernel_rfl) (by kernel_rfl) (by kernel_rfl) (fun _ _ _ h => h) (by rfl) (by assumption) ?hys10 ?rests10
  case hys10 => (intro w hSw; (try dsimp only at hSw); first | (go_simp; done) | (go_simp; with_reducible rfl))
  simp only [Act.put, List.setIfInBounds_toArray, List.set_cons_zero, List.set_cons_succ]
  refine take_call (i := 5) rfl (by kernel_rfl) (fun Kc hK => ?_)
  go_simp
  (go_at_call 25; refine (cHalf a1 X (G + G) Hrh.out Hrl.out Hth.out Htl.out L1 RX RT T0 M1 HA1.out HB1.out _).mono ?_; rintro e w3 ⟨n3, a3, l3, c3, d3, m3, k3, rfl, h3, f3, g3, bw3⟩)
  refine hK.out _ _ ?_ (fun hHeld => ?_)
  · exact ⟨cell_on bw3 hHeld.1, cell_on bw3 hHeld.2.1, cell_on bw3 hHeld.2.2.1, cell_on bw3 hHeld.2.2.2.1, cell_on bw3 hHeld.2.2.2.2.1, cell_on bw3 hHeld.2.2.2.2.2.1, cell_on bw3 hHeld.2.2.2.2.2.2.1, cell_on bw3 hHeld.2.2.2.2.2.2.2.1, cell_on bw3 hHeld.2.2.2.2.2.2.2.2.1, cell_on bw3 hHeld.2.2.2.2.2.2.2.2.2.1, also hHeld.2.2.2.2.2.2.2.2.2.2 bw3⟩
  clear hK Kc
  have zbw3 := bw3.size
  replace BB := also BB bw3
  replace x_a := x_a.on bw3
  replace x_b := x_b.on bw3
  replace x_c := x_c.on bw3
  replace x_r := x_r.on bw3
  replace x_s := x_s.on bw3
  replace x_t := x_t.on bw3
  refine take_call (i := 11) rfl (by kernel_rfl) (fun Kc hK => ?_)
  go_simp
  (go_at_call 25; refine (cHalf a2 Y (G + G) Hsh.out Hsl.out Hth.out Htl.out L2 RY RT T0 M2 HA2.out HB2.out _).mono ?_; rintro e w4 ⟨n4, a4, l4, c4, d4, m4, k4, rfl, h4, f4, g4, bw4⟩)
  refine hK.out _ _ ?_ (fun hHeld => ?_)
  · exact ⟨cell_on bw4 hHeld.1, cell_on bw4 hHeld.2.1, cell_on bw4 hHeld.2.2.1, cell_on bw4 hHeld.2.2.2.1, cell_on bw4 hHeld.2.2.2.2.1, cell_on bw4 hHeld.2.2.2.2.2.1, cell_on bw4 hHeld.2.2.2.2.2.2.1, cell_on bw4 hHeld.2.2.2.2.2.2.2.1, cell_on bw4 hHeld.2.2.2.2.2.2.2.2.1, cell_on bw4 hHeld.2.2.2.2.2.2.2.2.2.1, also hHeld.2.2.2.2.2.2.2.2.2.2 bw4⟩
  clear hK Kc
  have zbw4 := bw4.size
  replace BB := also BB bw4
  replace x_a := x_a.on bw4
  replace x_b := x_b.on bw4
  replace x_c := x_c.on bw4
  replace x_r := x_r.on bw4
  replace x_s := x_s.on bw4
  replace x_t := x_t.on bw4
  replace h3 := h3.below bw4
  refine take_yes (i := 12) (v := ?vs12) rfl (by kernel_rfl) (by kernel_rfl) (by kernel_rfl) (fun _ _ _ h => h) (by rfl) (by assumption) ?hys12 ?rests12
  case hys12 => (intro w hSw; (try dsimp only at hSw); first | (go_simp; done) | (go_simp; with_reducible rfl))
  simp only [Act.put, List.setIfInBounds_toArray, List.set_cons_zero, List.set_cons_succ]
  have ⟨x_r_0, x_r_1, x_r_2, x_r_3, x_r_4, x_r_5, x_r_6, x_r_7, x_r_8, x_r_9, x_r_10, x_r_11⟩ := x_r
  refine take_call (i := 13) rfl (by kernel_rfl) (fun Kc hK => ?_)
  go_simp
  refine hK.out _ _ ?_ (fun hHeld => ?_)
  · first | exact ⟨cell_put6 hHeld.1 (by omega) _ _ _ _ _ _, cell_put6 hHeld.2.1 (by omega) _ _ _ _ _ _, cell_put6 hHeld.2.2.1 (by omega) _ _ _ _ _ _, cell_put6 hHeld.2.2.2.1 (by omega) _ _ _ _ _ _, cell_put6 hHeld.2.2.2.2.1 (by omega) _ _ _ _ _ _, cell_put6 hHeld.2.2.2.2.2.1 (by omega) _ _ _ _ _ _, cell_put6 hHeld.2.2.2.2.2.2.1 (by omega) _ _ _ _ _ _, cell_put6 hHeld.2.2.2.2.2.2.2.1 (by omega) _ _ _ _ _ _, cell_put6 hHeld.2.2.2.2.2.2.2.2.1 (by omega) _ _ _ _ _ _, cell_put6 hHeld.2.2.2.2.2.2.2.2.2.1 (by omega) _ _ _ _ _ _, below_put6 hHeld.2.2.2.2.2.2.2.2.2.2 (by omega) _ _ _ _ _ _⟩ | exact ⟨x_a.c0, x_a.c1, x_s.c0, x_s.c1, x_s.c2, x_s.c3, x_s.c4, x_s.c5, x_t.c0, x_t.c1, BB⟩
  clear hK Kc
  refine take_yes (i := 14) (v := ?vs14) rfl (by kernel_rfl) (by kernel_rfl) (by kernel_rfl) (fun _ _ _ h => h) (by rfl) (by assumption) ?hys14 ?rests14
  case hys14 => (intro w hSw; (try dsimp only at hSw); first | (go_simp; done) | (go_simp; with_reducible rfl))
  simp only [Act.put, List.setIfInBounds_toArray, List.set_cons_zero, List.set_cons_succ]
  refine wpAnyH_done (by kernel_rfl) ?_ _
  go_wp2
  exact bodyPost_ret (v := .tuple #[.agg #[.bool n3, .slice a3 l3 c3, .slice d3 m3 k3, .bool n4, .slice a4 l4 c4, .slice d4 m4 k4], .bool true]) (by simp [results, Tryz.results7, go_sem, *]) rfl (endCen _ (by omega) BB h3 h4 (f3 _ (by omega)) (g3 _ (by omega)) (f4 _ (by omega)) (g4 _ (by omega)) _ _ _ _ _ _)
theorem cen : CenSpec := fun a1 a2 b1 b2 c1 c2 w Ra Rb Rc => ⟨fun hh A1 B1 A2 B2 h1 h2 h3 h4 => cCenter a1 a2 b1 b2 c1 c2 w Ra Rb Rc hh A1 B1 A2 B2 h1 h2 h3 h4, fun hh => cCenter0 a1 a2 b1 b2 c1 c2 w Ra Rb Rc hh⟩
end Go.Proofs.YtcaihoomcdbfnaaGreat
