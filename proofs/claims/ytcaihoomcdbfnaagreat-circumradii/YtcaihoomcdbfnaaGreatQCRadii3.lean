/-
  Joined texts of this law, part 3:
  CircumRadii's walk, of what circum's functions answer.
-/
import Derived.Test.YtcaihoomcdbfnaaGreatQCRadii2
import Derived.Deep.RegionHeld3
namespace Go.Proofs.YtcaihoomcdbfnaaGreat
open Go.RowKit
set_option linter.unusedVariables false

theorem mean_abs {x y z X Y Z : Int} (hx : x.natAbs ≤ 10000000000000) (hy : y.natAbs ≤ 10000000000000) (hz : z.natAbs ≤ 10000000000000) (hX : X.natAbs ≤ 1000000000000000000000000000000) (hY : Y.natAbs ≤ 1000000000000000000000000000000) (hZ : Z.natAbs ≤ 1000000000000000000000000000000) : (meanN x y z X Y Z).natAbs ≤ 90000000000000000000000000000000000000000000000000000000000000000000000000 ∧ (meanD X Y Z).natAbs ≤ 9000000000000000000000000000000000000000000000000000000000000 := by
  have kX : (Y + Z - X).natAbs ≤ 3000000000000000000000000000000 := by omega
  have kY : (Z + X - Y).natAbs ≤ 3000000000000000000000000000000 := by omega
  have kZ : (X + Y - Z).natAbs ≤ 3000000000000000000000000000000 := by omega
  have wX := prod_abs hX kX
  have wY := prod_abs hY kY
  have wZ := prod_abs hZ kZ
  have pX := prod_abs hx wX
  have pY := prod_abs hy wY
  have pZ := prod_abs hz wZ
  unfold meanN meanD wgt
  generalize X * (Y + Z - X) = U at *
  generalize Y * (Z + X - Y) = V at *
  generalize Z * (X + Y - Z) = T at *
  generalize x * U = p at *
  generalize y * V = q at *
  generalize z * T = r at *
  omega
theorem cen_size {a1 a2 b1 b2 c1 c2 : Int} (ha : canC a1 a2 = true) (hb : canC b1 b2 = true) (hc : canC c1 c2 = true) : (meanN a1 b1 c1 (distP b1 b2 c1 c2) (distP c1 c2 a1 a2) (distP a1 a2 b1 b2)).natAbs < 4294967296 ^ 10 ∧ (meanN a2 b2 c2 (distP b1 b2 c1 c2) (distP c1 c2 a1 a2) (distP a1 a2 b1 b2)).natAbs < 4294967296 ^ 10 ∧ (meanD (distP b1 b2 c1 c2) (distP c1 c2 a1 a2) (distP a1 a2 b1 b2)).natAbs < 4294967296 ^ 10 := by
  have w1 := dist_wide hb hc
  have w2 := dist_wide hc ha
  have w3 := dist_wide ha hb
  have i1 := inC_true.1 (canC_true.1 ha).1
  have i2 := inC_true.1 (canC_true.1 ha).2
  have i3 := inC_true.1 (canC_true.1 hb).1
  have i4 := inC_true.1 (canC_true.1 hb).2
  have i5 := inC_true.1 (canC_true.1 hc).1
  have i6 := inC_true.1 (canC_true.1 hc).2
  have m1 := mean_abs (x := a1) (y := b1) (z := c1) (X := distP b1 b2 c1 c2) (Y := distP c1 c2 a1 a2) (Z := distP a1 a2 b1 b2) (by omega) (by omega) (by omega) (by omega) (by omega) (by omega)
  have m2 := mean_abs (x := a2) (y := b2) (z := c2) (X := distP b1 b2 c1 c2) (Y := distP c1 c2 a1 a2) (Z := distP a1 a2 b1 b2) (by omega) (by omega) (by omega) (by omega) (by omega) (by omega)
  exact ⟨Nat.lt_of_le_of_lt m1.1 (by decide), Nat.lt_of_le_of_lt m2.1 (by decide), Nat.lt_of_le_of_lt m1.2 (by decide)⟩
theorem rqOfP (n : Bool) (a : Option Addr) (la ca : Nat) (d : Option Addr) (ld cd : Nat) (za : Int) (Da K : Nat) (w : World) (ha : QI w K n a la ca d ld cd za Da) (h : 0 < Da) : Calls Tryz.prog 16 #[.agg #[.bool n, .slice a la ca, .slice d ld cd]] w (GotRQ w (fun _ => True) K za Da) := by
  have := rqOf n a la ca d ld cd za Da K w ha
  rw [pN_pos h, pD_eq h] at this
  exact this
set_option maxRecDepth 100000 in
set_option maxHeartbeats 8000000 in
theorem radii_of (HC : CenSpec) (HR : RadSpec) (HS : SmlSpec) (a1 a2 : Int) (ha1_1 : -9223372036854775808 ≤ a1) (ha1_2 : a1 ≤ 9223372036854775807) (ha2_1 : -9223372036854775808 ≤ a2) (ha2_2 : a2 ≤ 9223372036854775807) (b1 b2 : Int) (hb1_1 : -9223372036854775808 ≤ b1) (hb1_2 : b1 ≤ 9223372036854775807) (hb2_1 : -9223372036854775808 ≤ b2) (hb2_2 : b2 ≤ 9223372036854775807) (c1 c2 : Int) (hc1_1 : -9223372036854775808 ≤ c1) (hc1_2 : c1 ≤ 9223372036854775807) (hc2_1 : -9223372036854775808 ≤ c2) (hc2_2 : c2 ≤ 9223372036854775807) (w : World) :
    Calls Tryz.prog 4 #[.agg #[.int .i64 a1, .int .i64 a2], .agg #[.int .i64 b1, .int .i64 b2], .agg #[.int .i64 c1, .int .i64 c2]] w fun e w' => e = .returned (.bool true) ∧ Below w.heap.size w w' := by
  have Ra : Hid (R2 (a1, a2)) := ⟨⟨ha1_1, ha1_2⟩, ⟨ha2_1, ha2_2⟩⟩
  have Rb : Hid (R2 (b1, b2)) := ⟨⟨hb1_1, hb1_2⟩, ⟨hb2_1, hb2_2⟩⟩
  have Rc : Hid (R2 (c1, c2)) := ⟨⟨hc1_1, hc1_2⟩, ⟨hc2_1, hc2_2⟩⟩
  clear ha1_1 ha1_2 ha2_1 ha2_2 hb1_1 hb1_2 hb2_1 hb2_2 hc1_1 hc1_2 hc2_1 hc2_2
  have hC : Hid _ := HC
  have hL : Hid (∀ w, Calls Tryz.prog 11 #[] w fun e w' => e = .returned (.bool true) ∧ Below w.heap.size w w') := lives9_of HR HS
  have hR : Hid _ := HR
  clear HC HR HS
  cases hh : hasP a1 a2 b1 b2 c1 c2
  · skip
    obtain ⟨W, hW, bW, x_a, x_b, x_c, sW⟩ := bs_222 w (.int .i64 a1) (.int .i64 a2) (.int .i64 b1) (.int .i64 b2) (.int .i64 c1) (.int .i64 c2) 23 23 23
    have zbW := bW.size
    have BB := bW
    go_enter Tryz.func4, Tryz.ntmps4
    go_wp2_with (go_at_call 13; fail)
    rw [← hW]
    clear hW
    refine ((hR.out a1 a2 b1 b2 c1 c2 W Ra Rb Rc).2 hh).mono ?_
    rintro e w1 ⟨n41, a41, m41, e41, b41, o41, y41, rfl, x1, bw1⟩
    have zbw1 := bw1.size
    replace BB := also BB bw1
    replace x_a := x_a.on bw1
    replace x_b := x_b.on bw1
    replace x_c := x_c.on bw1
    obtain ⟨V1, hV1, bV1, x_r, sV1⟩ := bs_3 w1 (.bool n41) (.slice a41 m41 e41) (.slice b41 o41 y41) 29
    have zbV1 := bV1.size
    replace BB := also BB bV1
    replace x_a := x_a.on bV1
    replace x_b := x_b.on bV1
    replace x_c := x_c.on bV1
    replace x1 := x1.below bV1
    have st_a_0 : (w1.alloc (.cells #[.bool n41, .slice a41 m41 e41, .slice b41 o41 y41] 29)).cell? ⟨w.heap.size, 0, none⟩ = some (.int .i64 a1) := by rw [← hV1]; exact x_a.c0
    have st_a_1 : (w1.alloc (.cells #[.bool n41, .slice a41 m41 e41, .slice b41 o41 y41] 29)).cell? ⟨w.heap.size, 1, none⟩ = some (.int .i64 a2) := by rw [← hV1]; exact x_a.c1
    have sf_a_0 : (w1.alloc (.cells #[.bool n41, .slice a41 m41 e41, .slice b41 o41 y41] 29)).frozen? ⟨w.heap.size, 0, none⟩ = false := by rw [← hV1]; exact x_a.f0
    have sf_a_1 : (w1.alloc (.cells #[.bool n41, .slice a41 m41 e41, .slice b41 o41 y41] 29)).frozen? ⟨w.heap.size, 1, none⟩ = false := by rw [← hV1]; exact x_a.f1
    have st_b_0 : (w1.alloc (.cells #[.bool n41, .slice a41 m41 e41, .slice b41 o41 y41] 29)).cell? ⟨w.heap.size + 1, 0, none⟩ = some (.int .i64 b1) := by rw [← hV1]; exact x_b.c0
    have st_b_1 : (w1.alloc (.cells #[.bool n41, .slice a41 m41 e41, .slice b41 o41 y41] 29)).cell? ⟨w.heap.size + 1, 1, none⟩ = some (.int .i64 b2) := by rw [← hV1]; exact x_b.c1
    have sf_b_0 : (w1.alloc (.cells #[.bool n41, .slice a41 m41 e41, .slice b41 o41 y41] 29)).frozen? ⟨w.heap.size + 1, 0, none⟩ = false := by rw [← hV1]; exact x_b.f0
    have sf_b_1 : (w1.alloc (.cells #[.bool n41, .slice a41 m41 e41, .slice b41 o41 y41] 29)).frozen? ⟨w.heap.size + 1, 1, none⟩ = false := by rw [← hV1]; exact x_b.f1
    have st_c_0 : (w1.alloc (.cells #[.bool n41, .slice a41 m41 e41, .slice b41 o41 y41] 29)).cell? ⟨w.heap.size + 1 + 1, 0, none⟩ = some (.int .i64 c1) := by rw [← hV1]; exact x_c.c0
    have st_c_1 : (w1.alloc (.cells #[.bool n41, .slice a41 m41 e41, .slice b41 o41 y41] 29)).cell? ⟨w.heap.size + 1 + 1, 1, none⟩ = some (.int .i64 c2) := by rw [← hV1]; exact x_c.c1
    have sf_c_0 : (w1.alloc (.cells #[.bool n41, .slice a41 m41 e41, .slice b41 o41 y41] 29)).frozen? ⟨w.heap.size + 1 + 1, 0, none⟩ = false := by rw [← hV1]; exact x_c.f0
    have sf_c_1 : (w1.alloc (.cells #[.bool n41, .slice a41 m41 e41, .slice b41 o41 y41] 29)).frozen? ⟨w.heap.size + 1 + 1, 1, none⟩ = false := by rw [← hV1]; exact x_c.f1
    go_wp2_with (go_at_call 8; fail)
    rw [← hV1]
    clear hV1 st_a_0 st_a_1 sf_a_0 sf_a_1 st_b_0 st_b_1 sf_b_0 sf_b_1 st_c_0 st_c_1 sf_c_0 sf_c_1
    refine (rcHas a1 a2 b1 b2 c1 c2 V1 Ra Rb Rc hh.symm).mono ?_
    rintro e w2 ⟨rfl, bw2⟩
    have zbw2 := bw2.size
    replace BB := also BB bw2
    replace x_a := x_a.on bw2
    replace x_b := x_b.on bw2
    replace x_c := x_c.on bw2
    replace x1 := x1.below bw2
    replace x_r := x_r.on bw2
    go_wp2
    have dd1 : Below w2.heap.size w2 w2.drew := (Below.refl _ _).drew
    have zdd1 := dd1.size
    replace BB := also BB dd1
    replace x_a := x_a.on dd1
    replace x_b := x_b.on dd1
    replace x_c := x_c.on dd1
    replace x1 := x1.below dd1
    replace x_r := x_r.on dd1
    refine wp_region_held_drew (S := (fun w' => w'.cell? ⟨w1.heap.size, 0, none⟩ = some (.bool n41) ∧ w'.cell? ⟨w1.heap.size, 1, none⟩ = some (.slice a41 m41 e41) ∧ w'.cell? ⟨w1.heap.size, 2, none⟩ = some (.slice b41 o41 y41) ∧ Below w.heap.size w w')) (by kernel_rfl) ?_ (fun hHeld => ?_)
    · exact ⟨x_r.c0, x_r.c1, x_r.c2, BB⟩
    refine take_yes (i := 0) (v := ?vn0) rfl (by kernel_rfl) (by kernel_rfl) (by kernel_rfl) (fun _ _ _ h => h) (by rfl) (by assumption) ?hyn0 ?restn0
    case hyn0 => (intro w hSw; (try dsimp only at hSw); first | (go_simp; done) | (go_simp; with_reducible rfl))
    simp only [Act.put, List.setIfInBounds_toArray, List.set_cons_zero, List.set_cons_succ]
    refine take_call (i := 1) rfl (by kernel_rfl) (fun Kc hK => ?_)
    go_simp
    (go_at_call 15; refine (rqLong 0 _ (by decide) (by decide)).mono ?_; rintro e w3 ⟨s21, d21, l21, c21, t21, g21, h21, k21, rfl, q21, f21, bw3⟩)
    refine hK.out _ _ ?_ (fun hHeld => ?_)
    · exact ⟨cell_on bw3 hHeld.1, cell_on bw3 hHeld.2.1, cell_on bw3 hHeld.2.2.1, also hHeld.2.2.2 bw3⟩
    clear hK Kc
    have zbw3 := bw3.size
    replace BB := also BB bw3
    replace x_a := x_a.on bw3
    replace x_b := x_b.on bw3
    replace x_c := x_c.on bw3
    replace x1 := x1.below bw3
    replace x_r := x_r.on bw3
    refine take_call (i := 2) rfl (by kernel_rfl) (fun Kc hK => ?_)
    go_simp
    (go_at_call 14; refine (rqSame n41 a41 m41 e41 b41 o41 y41 0 1 s21 d21 l21 c21 t21 g21 h21 k21 0 1 2 _ x1 q21 (by decide) (by decide)).mono ?_; rintro e w4 ⟨rfl, bw4⟩)
    refine hK.out _ _ ?_ (fun hHeld => ?_)
    · exact ⟨cell_on bw4 hHeld.1, cell_on bw4 hHeld.2.1, cell_on bw4 hHeld.2.2.1, also hHeld.2.2.2 bw4⟩
    clear hK Kc
    have zbw4 := bw4.size
    replace BB := also BB bw4
    replace x_a := x_a.on bw4
    replace x_b := x_b.on bw4
    replace x_c := x_c.on bw4
    replace x1 := x1.below bw4
    replace x_r := x_r.on bw4
    replace q21 := q21.below bw4
    refine take_yes (i := 3) (v := ?vn3) rfl (by kernel_rfl) (by kernel_rfl) (by kernel_rfl) (fun _ _ _ h => h) (by rfl) (by assumption) ?hyn3 ?restn3
    case hyn3 => (intro w hSw; (try dsimp only at hSw); first | (go_simp; done) | (go_simp; with_reducible rfl))
    simp only [Act.put, List.setIfInBounds_toArray, List.set_cons_zero, List.set_cons_succ]
    refine take_yes (i := 4) (v := ?vn4) rfl (by kernel_rfl) (by kernel_rfl) (by kernel_rfl) (fun _ _ _ h => h) (by rfl) (by assumption) ?hyn4 ?restn4
    case hyn4 => (intro w hSw; (try dsimp only at hSw); first | (go_simp; done) | (go_simp; with_reducible rfl))
    simp only [Act.put, List.setIfInBounds_toArray, List.set_cons_zero, List.set_cons_succ]
    refine take_yes (i := 5) (v := ?vn5) rfl (by kernel_rfl) (by kernel_rfl) (by kernel_rfl) (fun _ _ _ h => h) (by rfl) (by assumption) ?hyn5 ?restn5
    case hyn5 => (intro w hSw; (try dsimp only at hSw); first | (go_simp; done) | (go_simp; with_reducible rfl))
    simp only [Act.put, List.setIfInBounds_toArray, List.set_cons_zero, List.set_cons_succ]
    refine take_yes (i := 6) (v := ?vn6) rfl (by kernel_rfl) (by kernel_rfl) (by kernel_rfl) (fun _ _ _ h => h) (by rfl) (by assumption) ?hyn6 ?restn6
    case hyn6 => (intro w hSw; (try dsimp only at hSw); first | (go_simp; done) | (go_simp; with_reducible rfl))
    simp only [Act.put, List.setIfInBounds_toArray, List.set_cons_zero, List.set_cons_succ]
    refine take_yes (i := 7) (v := ?vn7) rfl (by kernel_rfl) (by kernel_rfl) (by kernel_rfl) (fun _ _ _ h => h) (by rfl) (by assumption) ?hyn7 ?restn7
    case hyn7 => (intro w hSw; (try dsimp only at hSw); first | (go_simp; done) | (go_simp; with_reducible rfl))
    simp only [Act.put, List.setIfInBounds_toArray, List.set_cons_zero, List.set_cons_succ]
    refine take_call (i := 8) rfl (by kernel_rfl) (fun Kc hK => ?_)
    go_simp
    (go_at_call 11; refine (hL.out _).mono ?_; rintro e w5 ⟨rfl, bw5⟩)
    refine hK.out _ _ ?_ (fun hHeld => ?_)
    · exact ⟨cell_on bw5 hHeld.1, cell_on bw5 hHeld.2.1, cell_on bw5 hHeld.2.2.1, also hHeld.2.2.2 bw5⟩
    clear hK Kc
    have zbw5 := bw5.size
    replace BB := also BB bw5
    replace x_a := x_a.on bw5
    replace x_b := x_b.on bw5
    replace x_c := x_c.on bw5
    replace x1 := x1.below bw5
    replace x_r := x_r.on bw5
    replace q21 := q21.below bw5
    refine take_yes (i := 9) (v := ?vn9) rfl (by kernel_rfl) (by kernel_rfl) (by kernel_rfl) (fun _ _ _ h => h) (by rfl) (by assumption) ?hyn9 ?restn9
    case hyn9 => (intro w hSw; (try dsimp only at hSw); first | (go_simp; done) | (go_simp; with_reducible rfl))
    simp only [Act.put, List.setIfInBounds_toArray, List.set_cons_zero, List.set_cons_succ]
    refine take_yes (i := 10) (v := ?vn10) rfl (by kernel_rfl) (by kernel_rfl) (by kernel_rfl) (fun _ _ _ h => h) (by rfl) (by assumption) ?hyn10 ?restn10
    case hyn10 => (intro w hSw; (try dsimp only at hSw); first | (go_simp; done) | (go_simp; with_reducible rfl))
    simp only [Act.put, List.setIfInBounds_toArray, List.set_cons_zero, List.set_cons_succ]
    refine wpAnyH_done (by kernel_rfl) ?_ _
    go_wp2
    go_ret
    exact ⟨rfl, BB⟩
  · skip
    obtain ⟨ha, hb, hc, h0⟩ := has_yes.1 hh
    have hcl := cen_low h0
    have hmp : 0 < (meanD (distP b1 b2 c1 c2) (distP c1 c2 a1 a2) (distP a1 a2 b1 b2)).natAbs := by have := mean_pos h0; omega
    obtain ⟨N1, hN1⟩ : ∃ z : Int, z = lowN (meanN a1 b1 c1 (distP b1 b2 c1 c2) (distP c1 c2 a1 a2) (distP a1 a2 b1 b2)) (meanD (distP b1 b2 c1 c2) (distP c1 c2 a1 a2) (distP a1 a2 b1 b2)).natAbs := ⟨_, rfl⟩
    obtain ⟨D1, hD1⟩ : ∃ z : Nat, z = lowD (meanN a1 b1 c1 (distP b1 b2 c1 c2) (distP c1 c2 a1 a2) (distP a1 a2 b1 b2)) (meanD (distP b1 b2 c1 c2) (distP c1 c2 a1 a2) (distP a1 a2 b1 b2)).natAbs := ⟨_, rfl⟩
    have CN1 : Hid (N1 = lowN (cenX a1 a2 b1 b2 c1 c2 * (2 * areaP a1 a2 b1 b2 c1 c2).sign) (2 * areaP a1 a2 b1 b2 c1 c2).natAbs) := hN1.trans hcl.1.1
    have CD1 : Hid (D1 = lowD (cenX a1 a2 b1 b2 c1 c2 * (2 * areaP a1 a2 b1 b2 c1 c2).sign) (2 * areaP a1 a2 b1 b2 c1 c2).natAbs) := hD1.trans hcl.1.2
    have hI1 := low_idem (z := meanN a1 b1 c1 (distP b1 b2 c1 c2) (distP c1 c2 a1 a2) (distP a1 a2 b1 b2)) hmp
    rw [← hN1, ← hD1] at hI1
    have IN1 : Hid (N1 = lowN N1 D1) := hI1.1
    have ID1 : Hid (D1 = lowD N1 D1) := hI1.2
    have EN1 : Hid _ := hN1
    have ED1 : Hid _ := hD1
    clear hN1 hD1 hI1
    obtain ⟨N2, hN2⟩ : ∃ z : Int, z = lowN (meanN a2 b2 c2 (distP b1 b2 c1 c2) (distP c1 c2 a1 a2) (distP a1 a2 b1 b2)) (meanD (distP b1 b2 c1 c2) (distP c1 c2 a1 a2) (distP a1 a2 b1 b2)).natAbs := ⟨_, rfl⟩
    obtain ⟨D2, hD2⟩ : ∃ z : Nat, z = lowD (meanN a2 b2 c2 (distP b1 b2 c1 c2) (distP c1 c2 a1 a2) (distP a1 a2 b1 b2)) (meanD (distP b1 b2 c1 c2) (distP c1 c2 a1 a2) (distP a1 a2 b1 b2)).natAbs := ⟨_, rfl⟩
    have CN2 : Hid (N2 = lowN (cenY a1 a2 b1 b2 c1 c2 * (2 * areaP a1 a2 b1 b2 c1 c2).sign) (2 * areaP a1 a2 b1 b2 c1 c2).natAbs) := hN2.trans hcl.2.1
    have CD2 : Hid (D2 = lowD (cenY a1 a2 b1 b2 c1 c2 * (2 * areaP a1 a2 b1 b2 c1 c2).sign) (2 * areaP a1 a2 b1 b2 c1 c2).natAbs) := hD2.trans hcl.2.2
    have hI2 := low_idem (z := meanN a2 b2 c2 (distP b1 b2 c1 c2) (distP c1 c2 a1 a2) (distP a1 a2 b1 b2)) hmp
    rw [← hN2, ← hD2] at hI2
    have IN2 : Hid (N2 = lowN N2 D2) := hI2.1
    have ID2 : Hid (D2 = lowD N2 D2) := hI2.2
    have EN2 : Hid _ := hN2
    have ED2 : Hid _ := hD2
    clear hN2 hD2 hI2
    have H0 : Hid _ := h0
    clear hcl hmp h0
    have hsz := cen_size ha hb hc
    have hd1 : 0 < D1 := by rw [ED1.out]; exact lowD_pos (by have := mean_pos H0.out; omega)
    have hd2 : 0 < D2 := by rw [ED2.out]; exact lowD_pos (by have := mean_pos H0.out; omega)
    have ZN1 : Hid (N1.natAbs < 4294967296 ^ 10) := by unfold Hid; rw [EN1.out]; exact Nat.lt_of_le_of_lt (lowN_le _ _) hsz.1
    have ZD1 : Hid (D1 < 4294967296 ^ 10) := by unfold Hid; rw [ED1.out]; exact Nat.lt_of_le_of_lt (lowD_le _ _) hsz.2.2
    have ZN2 : Hid (N2.natAbs < 4294967296 ^ 10) := by unfold Hid; rw [EN2.out]; exact Nat.lt_of_le_of_lt (lowN_le _ _) hsz.2.1
    have ZD2 : Hid (D2 < 4294967296 ^ 10) := by unfold Hid; rw [ED2.out]; exact Nat.lt_of_le_of_lt (lowD_le _ _) hsz.2.2
    have ht2 : 0 < (2 * areaP a1 a2 b1 b2 c1 c2).natAbs := Int.natAbs_pos.2 (fun k => H0.out (by omega))
    obtain ⟨A, hA⟩ : ∃ z : Int, z = lowN (rad2 a1 a2 b1 b2 c1 c2) ((2 * areaP a1 a2 b1 b2 c1 c2).natAbs * (2 * areaP a1 a2 b1 b2 c1 c2).natAbs) := ⟨_, rfl⟩
    obtain ⟨B, hB⟩ : ∃ z : Nat, z = lowD (rad2 a1 a2 b1 b2 c1 c2) ((2 * areaP a1 a2 b1 b2 c1 c2).natAbs * (2 * areaP a1 a2 b1 b2 c1 c2).natAbs) := ⟨_, rfl⟩
    have hI := low_idem (z := rad2 a1 a2 b1 b2 c1 c2) (Nat.mul_pos ht2 ht2)
    rw [← hA, ← hB] at hI
    have IA : Hid (A = lowN A B) := hI.1
    have IB : Hid (B = lowD A B) := hI.2
    obtain ⟨ex, hex⟩ : ∃ z : Nat, z = D1 * 1 := ⟨_, rfl⟩
    obtain ⟨ey, hey⟩ : ∃ z : Nat, z = D2 * 1 := ⟨_, rfl⟩
    obtain ⟨ua, hua⟩ : ∃ z : Int, z = N1 * ((1 : Nat) : Int) + -a1 * (D1 : Int) := ⟨_, rfl⟩
    obtain ⟨va, hva⟩ : ∃ z : Int, z = N2 * ((1 : Nat) : Int) + -a2 * (D2 : Int) := ⟨_, rfl⟩
    have hfa := far_low H0.out (p1 := a1) (p2 := a2) (Or.inl ⟨rfl, rfl⟩) CN1.out CD1.out CN2.out CD2.out hua hex hva hey (by omega) (by omega)
    rw [← hA, ← hB] at hfa
    have FNa : Hid (A = lowN (ua * ua * ((ey * ey : Nat) : Int) + va * va * ((ex * ex : Nat) : Int)) (ex * ex * (ey * ey))) := hfa.1.symm
    have FDa : Hid (B = lowD (ua * ua * ((ey * ey : Nat) : Int) + va * va * ((ex * ex : Nat) : Int)) (ex * ex * (ey * ey))) := hfa.2.symm
    have Eua : Hid _ := hua
    clear hua
    have Eva : Hid _ := hva
    clear hva
    clear hfa
    obtain ⟨ub, hub⟩ : ∃ z : Int, z = N1 * ((1 : Nat) : Int) + -b1 * (D1 : Int) := ⟨_, rfl⟩
    obtain ⟨vb, hvb⟩ : ∃ z : Int, z = N2 * ((1 : Nat) : Int) + -b2 * (D2 : Int) := ⟨_, rfl⟩
    have hfb := far_low H0.out (p1 := b1) (p2 := b2) (Or.inr (Or.inl ⟨rfl, rfl⟩)) CN1.out CD1.out CN2.out CD2.out hub hex hvb hey (by omega) (by omega)
    rw [← hA, ← hB] at hfb
    have FNb : Hid (A = lowN (ub * ub * ((ey * ey : Nat) : Int) + vb * vb * ((ex * ex : Nat) : Int)) (ex * ex * (ey * ey))) := hfb.1.symm
    have FDb : Hid (B = lowD (ub * ub * ((ey * ey : Nat) : Int) + vb * vb * ((ex * ex : Nat) : Int)) (ex * ex * (ey * ey))) := hfb.2.symm
    have Eub : Hid _ := hub
    clear hub
    have Evb : Hid _ := hvb
    clear hvb
    clear hfb
    obtain ⟨uc, huc⟩ : ∃ z : Int, z = N1 * ((1 : Nat) : Int) + -c1 * (D1 : Int) := ⟨_, rfl⟩
    obtain ⟨vc, hvc⟩ : ∃ z : Int, z = N2 * ((1 : Nat) : Int) + -c2 * (D2 : Int) := ⟨_, rfl⟩
    have hfc := far_low H0.out (p1 := c1) (p2 := c2) (Or.inr (Or.inr ⟨rfl, rfl⟩)) CN1.out CD1.out CN2.out CD2.out huc hex hvc hey (by omega) (by omega)
    rw [← hA, ← hB] at hfc
    have FNc : Hid (A = lowN (uc * uc * ((ey * ey : Nat) : Int) + vc * vc * ((ex * ex : Nat) : Int)) (ex * ex * (ey * ey))) := hfc.1.symm
    have FDc : Hid (B = lowD (uc * uc * ((ey * ey : Nat) : Int) + vc * vc * ((ex * ex : Nat) : Int)) (ex * ex * (ey * ey))) := hfc.2.symm
    have Euc : Hid _ := huc
    clear huc
    have Evc : Hid _ := hvc
    clear hvc
    clear hfc
    have Eex : Hid _ := hex
    have Eey : Hid _ := hey
    have CA : Hid _ := hA
    have CB : Hid _ := hB
    have Hd1 : Hid _ := hd1
    have Hd2 : Hid _ := hd2
    clear hex hey hA hB hI ht2 hsz hd1 hd2
    obtain ⟨W, hW, bW, x_a, x_b, x_c, sW⟩ := bs_222 w (.int .i64 a1) (.int .i64 a2) (.int .i64 b1) (.int .i64 b2) (.int .i64 c1) (.int .i64 c2) 23 23 23
    have zbW := bW.size
    have BB := bW
    go_enter Tryz.func4, Tryz.ntmps4
    go_wp2_with (go_at_call 13; fail)
    rw [← hW]
    clear hW
    refine ((hR.out a1 a2 b1 b2 c1 c2 W Ra Rb Rc).1 hh _ _ CA.out CB.out).mono ?_
    rintro e w1 ⟨n41, a41, m41, e41, b41, o41, y41, rfl, x1, bw1⟩
    have zbw1 := bw1.size
    replace BB := also BB bw1
    replace x_a := x_a.on bw1
    replace x_b := x_b.on bw1
    replace x_c := x_c.on bw1
    obtain ⟨V1, hV1, bV1, x_r, sV1⟩ := bs_3 w1 (.bool n41) (.slice a41 m41 e41) (.slice b41 o41 y41) 29
    have zbV1 := bV1.size
    replace BB := also BB bV1
    replace x_a := x_a.on bV1
    replace x_b := x_b.on bV1
    replace x_c := x_c.on bV1
    replace x1 := x1.below bV1
    have st_a_0 : (w1.alloc (.cells #[.bool n41, .slice a41 m41 e41, .slice b41 o41 y41] 29)).cell? ⟨w.heap.size, 0, none⟩ = some (.int .i64 a1) := by rw [← hV1]; exact x_a.c0
    have st_a_1 : (w1.alloc (.cells #[.bool n41, .slice a41 m41 e41, .slice b41 o41 y41] 29)).cell? ⟨w.heap.size, 1, none⟩ = some (.int .i64 a2) := by rw [← hV1]; exact x_a.c1
    have sf_a_0 : (w1.alloc (.cells #[.bool n41, .slice a41 m41 e41, .slice b41 o41 y41] 29)).frozen? ⟨w.heap.size, 0, none⟩ = false := by rw [← hV1]; exact x_a.f0
    have sf_a_1 : (w1.alloc (.cells #[.bool n41, .slice a41 m41 e41, .slice b41 o41 y41] 29)).frozen? ⟨w.heap.size, 1, none⟩ = false := by rw [← hV1]; exact x_a.f1
    have st_b_0 : (w1.alloc (.cells #[.bool n41, .slice a41 m41 e41, .slice b41 o41 y41] 29)).cell? ⟨w.heap.size + 1, 0, none⟩ = some (.int .i64 b1) := by rw [← hV1]; exact x_b.c0
    have st_b_1 : (w1.alloc (.cells #[.bool n41, .slice a41 m41 e41, .slice b41 o41 y41] 29)).cell? ⟨w.heap.size + 1, 1, none⟩ = some (.int .i64 b2) := by rw [← hV1]; exact x_b.c1
    have sf_b_0 : (w1.alloc (.cells #[.bool n41, .slice a41 m41 e41, .slice b41 o41 y41] 29)).frozen? ⟨w.heap.size + 1, 0, none⟩ = false := by rw [← hV1]; exact x_b.f0
    have sf_b_1 : (w1.alloc (.cells #[.bool n41, .slice a41 m41 e41, .slice b41 o41 y41] 29)).frozen? ⟨w.heap.size + 1, 1, none⟩ = false := by rw [← hV1]; exact x_b.f1
    have st_c_0 : (w1.alloc (.cells #[.bool n41, .slice a41 m41 e41, .slice b41 o41 y41] 29)).cell? ⟨w.heap.size + 1 + 1, 0, none⟩ = some (.int .i64 c1) := by rw [← hV1]; exact x_c.c0
    have st_c_1 : (w1.alloc (.cells #[.bool n41, .slice a41 m41 e41, .slice b41 o41 y41] 29)).cell? ⟨w.heap.size + 1 + 1, 1, none⟩ = some (.int .i64 c2) := by rw [← hV1]; exact x_c.c1
    have sf_c_0 : (w1.alloc (.cells #[.bool n41, .slice a41 m41 e41, .slice b41 o41 y41] 29)).frozen? ⟨w.heap.size + 1 + 1, 0, none⟩ = false := by rw [← hV1]; exact x_c.f0
    have sf_c_1 : (w1.alloc (.cells #[.bool n41, .slice a41 m41 e41, .slice b41 o41 y41] 29)).frozen? ⟨w.heap.size + 1 + 1, 1, none⟩ = false := by rw [← hV1]; exact x_c.f1
    go_wp2_with (go_at_call 8; fail)
    rw [← hV1]
    clear hV1 st_a_0 st_a_1 sf_a_0 sf_a_1 st_b_0 st_b_1 sf_b_0 sf_b_1 st_c_0 st_c_1 sf_c_0 sf_c_1
    refine (rcHas a1 a2 b1 b2 c1 c2 V1 Ra Rb Rc hh.symm).mono ?_
    rintro e w2 ⟨rfl, bw2⟩
    have zbw2 := bw2.size
    replace BB := also BB bw2
    replace x_a := x_a.on bw2
    replace x_b := x_b.on bw2
    replace x_c := x_c.on bw2
    replace x1 := x1.below bw2
    replace x_r := x_r.on bw2
    have ⟨x_a_0, x_a_1, x_a_2, x_a_3⟩ := x_a
    have ⟨x_b_0, x_b_1, x_b_2, x_b_3⟩ := x_b
    have ⟨x_c_0, x_c_1, x_c_2, x_c_3⟩ := x_c
    go_wp2_with (go_at_call 7; fail)
    refine ((hC.out a1 a2 b1 b2 c1 c2 w2 Ra Rb Rc).1 hh _ _ _ _ CN1.out CD1.out CN2.out CD2.out).mono ?_
    rintro e w3 ⟨n42, a42, m42, e42, b42, o42, y42, n43, a43, m43, e43, b43, o43, y43, rfl, x2, x3, bw3⟩
    clear x_a_0 x_a_1 x_a_2 x_a_3 x_b_0 x_b_1 x_b_2 x_b_3 x_c_0 x_c_1 x_c_2 x_c_3
    have zbw3 := bw3.size
    replace BB := also BB bw3
    replace x_a := x_a.on bw3
    replace x_b := x_b.on bw3
    replace x_c := x_c.on bw3
    replace x1 := x1.below bw3
    replace x_r := x_r.on bw3
    replace x2 := x2.qi 10 (by decide) (by decide) ZN1.out ZD1.out
    replace x3 := x3.qi 10 (by decide) (by decide) ZN2.out ZD2.out
    obtain ⟨V2, hV2, bV2, x_s, sV2⟩ := bs_6 w3 (.bool n42) (.slice a42 m42 e42) (.slice b42 o42 y42) (.bool n43) (.slice a43 m43 e43) (.slice b43 o43 y43) 31
    have zbV2 := bV2.size
    replace BB := also BB bV2
    replace x_a := x_a.on bV2
    replace x_b := x_b.on bV2
    replace x_c := x_c.on bV2
    replace x1 := x1.below bV2
    replace x_r := x_r.on bV2
    replace x2 := x2.below bV2
    replace x3 := x3.below bV2
    go_wp2
    rw [← hV2]
    clear hV2
    obtain ⟨QQ, hQQ⟩ : ∃ QQ : Exit → Act → World → Prop, QQ = fun e act wr => e = .normal ∧ ∃ (px : Nat) (s11 : Int) (d11 : Option Addr) (l11 c11 : Nat) (t11 : Int) (g11 : Option Addr) (h11 k11 : Nat) (s12 : Int) (d12 : Option Addr) (l12 c12 : Nat) (t12 : Int) (g12 : Option Addr) (h12 k12 : Nat), act = ⟨#[.agg #[.int .i64 a1, .int .i64 a2], .agg #[.int .i64 b1, .int .i64 b2], .agg #[.int .i64 c1, .int .i64 c2], .pointer (some ⟨w.heap.size, 0, none⟩), .pointer (some ⟨w.heap.size + 1, 0, none⟩), .pointer (some ⟨w.heap.size + 1 + 1, 0, none⟩), .bool false, .pointer (some ⟨w1.heap.size, 0, none⟩), .bool true, .pointer (some ⟨w3.heap.size, 0, none⟩), .bool true, .pointer (some ⟨px, 0, none⟩), .tuple #[.agg #[.bool n41, .slice a41 m41 e41, .slice b41 o41 y41], .bool true], .agg #[.int .i64 a1, .int .i64 a2], .agg #[.int .i64 b1, .int .i64 b2], .agg #[.int .i64 c1, .int .i64 c2], .tuple #[.agg #[.bool n41, .slice a41 m41 e41, .slice b41 o41 y41], .bool true], .agg #[.bool n41, .slice a41 m41 e41, .slice b41 o41 y41], .bool true, .agg #[.int .i64 a1, .int .i64 a2], .agg #[.int .i64 b1, .int .i64 b2], .agg #[.int .i64 c1, .int .i64 c2], .bool true, .bool false, undef, undef, undef, undef, undef, undef, undef, undef, undef, undef, .tuple #[.agg #[.bool n42, .slice a42 m42 e42, .slice b42 o42 y42, .bool n43, .slice a43 m43 e43, .slice b43 o43 y43], .bool true], .agg #[.int .i64 a1, .int .i64 a2], .agg #[.int .i64 b1, .int .i64 b2], .agg #[.int .i64 c1, .int .i64 c2], .tuple #[.agg #[.bool n42, .slice a42 m42 e42, .slice b42 o42 y42, .bool n43, .slice a43 m43 e43, .slice b43 o43 y43], .bool true], .agg #[.bool n42, .slice a42 m42 e42, .slice b42 o42 y42, .bool n43, .slice a43 m43 e43, .slice b43 o43 y43], .bool true, .pointer (some ⟨w3.heap.size, 0, none⟩), .agg #[.bool n42, .slice a42 m42 e42, .slice b42 o42 y42], .agg #[.int .i64 s11, .slice d11 l11 c11, .int .i64 t11, .slice g11 h11 k11], .pointer (some ⟨w3.heap.size, 3, none⟩), .agg #[.bool n43, .slice a43 m43 e43, .slice b43 o43 y43], .agg #[.int .i64 s12, .slice d12 l12 c12, .int .i64 t12, .slice g12 h12 k12], .agg #[.int .i64 s11, .slice d11 l11 c11, .int .i64 t11, .slice g11 h11 k11, .int .i64 s12, .slice d12 l12 c12, .int .i64 t12, .slice g12 h12 k12], undef, undef, undef, undef, undef, undef, undef, undef, undef, undef, undef, undef, undef, undef, undef, undef, undef, undef, undef, undef, undef, undef, undef, undef, undef], []⟩ ∧ QN wr n41 a41 m41 e41 b41 o41 y41 A B ∧ QI wr 10 n42 a42 m42 e42 b42 o42 y42 N1 D1 ∧ QI wr 10 n43 a43 m43 e43 b43 o43 y43 N2 D2 ∧ RQ wr 10 s11 d11 l11 c11 t11 g11 h11 k11 N1 D1 ∧ RQ wr 10 s12 d12 l12 c12 t12 g12 h12 k12 N2 D2 ∧ Bx wr (w.heap.size) (.int .i64 a1) (.int .i64 a2) ∧ Bx wr (w.heap.size + 1) (.int .i64 b1) (.int .i64 b2) ∧ Bx wr (w.heap.size + 1 + 1) (.int .i64 c1) (.int .i64 c2) ∧ B3 wr (w1.heap.size) (.bool n41) (.slice a41 m41 e41) (.slice b41 o41 y41) ∧ B6 wr (w3.heap.size) (.bool n42) (.slice a42 m42 e42) (.slice b42 o42 y42) (.bool n43) (.slice a43 m43 e43) (.slice b43 o43 y43) ∧ B8 wr px (.int .i64 s11) (.slice d11 l11 c11) (.int .i64 t11) (.slice g11 h11 k11) (.int .i64 s12) (.slice d12 l12 c12) (.int .i64 t12) (.slice g12 h12 k12) ∧ Below w.heap.size w wr ∧ V2.heap.size ≤ wr.heap.size ∧ (V2.heap.size ≤ px ∧ px < wr.heap.size) := ⟨_, rfl⟩
    have HQQ : Hid _ := hQQ
    clear hQQ
    refine wp_mono (Q := QQ) ?_ ?_
    · refine wp_region_held_drew (S := (fun w' => w'.cell? ⟨w3.heap.size, 0, none⟩ = some (.bool n42) ∧ w'.cell? ⟨w3.heap.size, 1, none⟩ = some (.slice a42 m42 e42) ∧ w'.cell? ⟨w3.heap.size, 2, none⟩ = some (.slice b42 o42 y42) ∧ w'.cell? ⟨w3.heap.size, 3, none⟩ = some (.bool n43) ∧ w'.cell? ⟨w3.heap.size, 4, none⟩ = some (.slice a43 m43 e43) ∧ w'.cell? ⟨w3.heap.size, 5, none⟩ = some (.slice b43 o43 y43) ∧ Below w.heap.size w w')) (by kernel_rfl) ?_ (fun hHeld => ?_)
      · exact ⟨x_s.c0, x_s.c1, x_s.c2, x_s.c3, x_s.c4, x_s.c5, BB.drew⟩
      refine take_yes (i := 0) (v := ?vm0x1) rfl (by kernel_rfl) (by kernel_rfl) (by kernel_rfl) (fun _ _ _ h => by rw [HQQ.out] at h; exact Exit.noConfusion h.1) (by rfl) (by assumption) ?hym0x1 ?restm0x1
      case hym0x1 => (intro w hSw; (try dsimp only at hSw); first | (go_simp; done) | (go_simp; with_reducible rfl))
      simp only [Act.put, List.setIfInBounds_toArray, List.set_cons_zero, List.set_cons_succ]
      refine take_yes (i := 1) (v := ?vm1x2) rfl (by kernel_rfl) (by kernel_rfl) (by kernel_rfl) (fun _ _ _ h => by rw [HQQ.out] at h; exact Exit.noConfusion h.1) (by rfl) (by assumption) ?hym1x2 ?restm1x2
      case hym1x2 => (intro w hSw; (try dsimp only at hSw); first | (go_simp; done) | (go_simp; with_reducible rfl))
      simp only [Act.put, List.setIfInBounds_toArray, List.set_cons_zero, List.set_cons_succ]
      refine take_yes (i := 3) (v := ?vm3x3) rfl (by kernel_rfl) (by kernel_rfl) (by kernel_rfl) (fun _ _ _ h => by rw [HQQ.out] at h; exact Exit.noConfusion h.1) (by rfl) (by assumption) ?hym3x3 ?restm3x3
      case hym3x3 => (intro w hSw; (try dsimp only at hSw); first | (go_simp; done) | (go_simp; with_reducible rfl))
      simp only [Act.put, List.setIfInBounds_toArray, List.set_cons_zero, List.set_cons_succ]
      refine take_yes (i := 4) (v := ?vm4x4) rfl (by kernel_rfl) (by kernel_rfl) (by kernel_rfl) (fun _ _ _ h => by rw [HQQ.out] at h; exact Exit.noConfusion h.1) (by rfl) (by assumption) ?hym4x4 ?restm4x4
      case hym4x4 => (intro w hSw; (try dsimp only at hSw); first | (go_simp; done) | (go_simp; with_reducible rfl))
      simp only [Act.put, List.setIfInBounds_toArray, List.set_cons_zero, List.set_cons_succ]
      have b0 : Below V2.heap.size V2 V2.drew := (Below.refl _ _).drew
      have BU := b0
      generalize V2.drew = X0 at b0 BU hHeld ⊢
      replace x1 := x1.below b0
      replace x2 := x2.below b0
      replace x3 := x3.below b0
      replace x_a := x_a.on b0
      replace x_b := x_b.on b0
      replace x_c := x_c.on b0
      replace x_r := x_r.on b0
      replace x_s := x_s.on b0
      replace BB := also BB b0
      refine wpAnyH_ready (rs := [2, 7]) (by kernel_rfl) (by simp) (AllReadyH.cons (i := 2) rfl (fun Kc hK => ?_) (AllReadyH.cons (i := 7) rfl (fun Kc hK => ?_) AllReadyH.nil))
      · skip
        go_simp
        (go_at_call 16; refine (rqOfP n42 a42 m42 e42 b42 o42 y42 N1 D1 10 _ x2 Hd1.out).mono ?_; rintro e X1 ⟨s11, d11, l11, c11, t11, g11, h11, k11, rfl, q11, f11, e1⟩)
        refine hK.out _ _ ⟨cell_on e1 hHeld.1, cell_on e1 hHeld.2.1, cell_on e1 hHeld.2.2.1, cell_on e1 hHeld.2.2.2.1, cell_on e1 hHeld.2.2.2.2.1, cell_on e1 hHeld.2.2.2.2.2.1, also hHeld.2.2.2.2.2.2 e1⟩ (fun hHeld => ?_)
        clear hK Kc
        replace x1 := x1.below e1
        replace x2 := x2.below e1
        replace x3 := x3.below e1
        replace x_a := x_a.on e1
        replace x_b := x_b.on e1
        replace x_c := x_c.on e1
        replace x_r := x_r.on e1
        replace x_s := x_s.on e1
        replace BB := also BB e1
        replace BU := also BU e1
        refine wpAnyH_ready (rs := [5, 7]) (by kernel_rfl) (by simp) (AllReadyH.cons (i := 5) rfl (fun Kc hK => ?_) (AllReadyH.cons (i := 7) rfl (fun Kc hK => ?_) AllReadyH.nil))
        · skip
          go_simp
          (go_at_call 16; refine (rqOfP n43 a43 m43 e43 b43 o43 y43 N2 D2 10 _ x3 Hd2.out).mono ?_; rintro e X2 ⟨s12, d12, l12, c12, t12, g12, h12, k12, rfl, q12, f12, e2⟩)
          refine hK.out _ _ ⟨cell_on e2 hHeld.1, cell_on e2 hHeld.2.1, cell_on e2 hHeld.2.2.1, cell_on e2 hHeld.2.2.2.1, cell_on e2 hHeld.2.2.2.2.1, cell_on e2 hHeld.2.2.2.2.2.1, also hHeld.2.2.2.2.2.2 e2⟩ (fun hHeld => ?_)
          clear hK Kc
          replace x1 := x1.below e2
          replace x2 := x2.below e2
          replace x3 := x3.below e2
          replace q11 := q11.below e2
          replace x_a := x_a.on e2
          replace x_b := x_b.on e2
          replace x_c := x_c.on e2
          replace x_r := x_r.on e2
          replace x_s := x_s.on e2
          replace BB := also BB e2
          replace BU := also BU e2
          refine take_yes (i := 6) (v := ?vm6x5) rfl (by kernel_rfl) (by kernel_rfl) (by kernel_rfl) (fun _ _ _ h => by rw [HQQ.out] at h; exact Exit.noConfusion h.1) (by rfl) (by assumption) ?hym6x5 ?restm6x5
          case hym6x5 => (intro w hSw; (try dsimp only at hSw); first | (go_simp; done) | (go_simp; with_reducible rfl))
          simp only [Act.put, List.setIfInBounds_toArray, List.set_cons_zero, List.set_cons_succ]
          refine take_call (i := 7) rfl (by kernel_rfl) (fun Kc hK => ?_)
          go_simp
          refine hK.out _ _ ⟨cell_on ((Below.refl _ _).alloc (Nat.le_refl _) _) hHeld.1, cell_on ((Below.refl _ _).alloc (Nat.le_refl _) _) hHeld.2.1, cell_on ((Below.refl _ _).alloc (Nat.le_refl _) _) hHeld.2.2.1, cell_on ((Below.refl _ _).alloc (Nat.le_refl _) _) hHeld.2.2.2.1, cell_on ((Below.refl _ _).alloc (Nat.le_refl _) _) hHeld.2.2.2.2.1, cell_on ((Below.refl _ _).alloc (Nat.le_refl _) _) hHeld.2.2.2.2.2.1, also hHeld.2.2.2.2.2.2 ((Below.refl _ _).alloc (Nat.le_refl _) _)⟩ (fun hHeld => ?_)
          clear hK Kc
          have y_px := b8_new X2 (.int .i64 0) (.slice none 0 0) (.int .i64 0) (.slice none 0 0) (.int .i64 0) (.slice none 0 0) (.int .i64 0) (.slice none 0 0) 43
          have e3 : Below X2.heap.size X2 (X2.alloc (.cells #[.int .i64 0, .slice none 0 0, .int .i64 0, .slice none 0 0, .int .i64 0, .slice none 0 0, .int .i64 0, .slice none 0 0] 43)) := (Below.refl _ _).alloc (Nat.le_refl _) _
          have lpx : X2.heap.size < (X2.alloc (.cells #[.int .i64 0, .slice none 0 0, .int .i64 0, .slice none 0 0, .int .i64 0, .slice none 0 0, .int .i64 0, .slice none 0 0] 43)).heap.size := by simp
          have gpx : V2.heap.size ≤ X2.heap.size := BU.size
          have n_x1_0_px : NA X2.heap.size a41 m41 := x1.wn.nd.sl.na (Nat.le_refl _)
          have n_x1_1_px : NA X2.heap.size b41 o41 := x1.nd.sl.na (Nat.le_refl _)
          have n_x2_0_px : NA X2.heap.size a42 m42 := x2.wi.ni.sl.na (Nat.le_refl _)
          have n_x2_1_px : NA X2.heap.size b42 o42 := x2.ni.sl.na (Nat.le_refl _)
          have n_x3_0_px : NA X2.heap.size a43 m43 := x3.wi.ni.sl.na (Nat.le_refl _)
          have n_x3_1_px : NA X2.heap.size b43 o43 := x3.ni.sl.na (Nat.le_refl _)
          have n_q11_0_px : NA X2.heap.size d11 l11 := q11.rn.hd.sl.na (Nat.le_refl _)
          have n_q11_1_px : NA X2.heap.size g11 h11 := q11.rd.hd.sl.na (Nat.le_refl _)
          have n_q12_0_px : NA X2.heap.size d12 l12 := q12.rn.hd.sl.na (Nat.le_refl _)
          have n_q12_1_px : NA X2.heap.size g12 h12 := q12.rd.hd.sl.na (Nat.le_refl _)
          generalize X2.alloc (.cells #[.int .i64 0, .slice none 0 0, .int .i64 0, .slice none 0 0, .int .i64 0, .slice none 0 0, .int .i64 0, .slice none 0 0] 43) = X3 at y_px e3 lpx hHeld ⊢
          replace x1 := x1.below e3
          replace x2 := x2.below e3
          replace x3 := x3.below e3
          replace q11 := q11.below e3
          replace q12 := q12.below e3
          replace x_a := x_a.on e3
          replace x_b := x_b.on e3
          replace x_c := x_c.on e3
          replace x_r := x_r.on e3
          replace x_s := x_s.on e3
          replace BB := also BB e3
          replace BU := also BU e3
          generalize X2.heap.size = px at y_px lpx gpx n_x1_0_px n_x1_1_px n_x2_0_px n_x2_1_px n_x3_0_px n_x3_1_px n_q11_0_px n_q11_1_px n_q12_0_px n_q12_1_px ⊢
          have ⟨c_px_0, c_px_1, c_px_2, c_px_3, c_px_4, c_px_5, c_px_6, c_px_7, c_px_8, c_px_9, c_px_10, c_px_11, c_px_12, c_px_13, c_px_14, c_px_15⟩ : B8 X3 px (.int .i64 0) (.slice none 0 0) (.int .i64 0) (.slice none 0 0) (.int .i64 0) (.slice none 0 0) (.int .i64 0) (.slice none 0 0) := y_px
          refine take_call (i := 8) rfl (by kernel_rfl) (fun Kc hK => ?_)
          go_simp
          refine hK.out _ _ ⟨cell_put8 hHeld.1 (by omega) _ _ _ _ _ _ _ _, cell_put8 hHeld.2.1 (by omega) _ _ _ _ _ _ _ _, cell_put8 hHeld.2.2.1 (by omega) _ _ _ _ _ _ _ _, cell_put8 hHeld.2.2.2.1 (by omega) _ _ _ _ _ _ _ _, cell_put8 hHeld.2.2.2.2.1 (by omega) _ _ _ _ _ _ _ _, cell_put8 hHeld.2.2.2.2.2.1 (by omega) _ _ _ _ _ _ _ _, below_put8 hHeld.2.2.2.2.2.2 (by omega) _ _ _ _ _ _ _ _⟩ (fun hHeld => ?_)
          clear hK Kc
          refine wpAnyH_done (by kernel_rfl) ?_ _
          rw [HQQ.out]
          exact ⟨rfl, px, s11, d11, l11, c11, t11, g11, h11, k11, s12, d12, l12, c12, t12, g12, h12, k12, rfl, ((((((((x1.put n_x1_0_px n_x1_1_px 0 _).put n_x1_0_px n_x1_1_px 1 _).put n_x1_0_px n_x1_1_px 2 _).put n_x1_0_px n_x1_1_px 3 _).put n_x1_0_px n_x1_1_px 4 _).put n_x1_0_px n_x1_1_px 5 _).put n_x1_0_px n_x1_1_px 6 _).put n_x1_0_px n_x1_1_px 7 _), ((((((((x2.put n_x2_0_px n_x2_1_px 0 _).put n_x2_0_px n_x2_1_px 1 _).put n_x2_0_px n_x2_1_px 2 _).put n_x2_0_px n_x2_1_px 3 _).put n_x2_0_px n_x2_1_px 4 _).put n_x2_0_px n_x2_1_px 5 _).put n_x2_0_px n_x2_1_px 6 _).put n_x2_0_px n_x2_1_px 7 _), ((((((((x3.put n_x3_0_px n_x3_1_px 0 _).put n_x3_0_px n_x3_1_px 1 _).put n_x3_0_px n_x3_1_px 2 _).put n_x3_0_px n_x3_1_px 3 _).put n_x3_0_px n_x3_1_px 4 _).put n_x3_0_px n_x3_1_px 5 _).put n_x3_0_px n_x3_1_px 6 _).put n_x3_0_px n_x3_1_px 7 _), ((((((((q11.put n_q11_0_px n_q11_1_px 0 _).put n_q11_0_px n_q11_1_px 1 _).put n_q11_0_px n_q11_1_px 2 _).put n_q11_0_px n_q11_1_px 3 _).put n_q11_0_px n_q11_1_px 4 _).put n_q11_0_px n_q11_1_px 5 _).put n_q11_0_px n_q11_1_px 6 _).put n_q11_0_px n_q11_1_px 7 _), ((((((((q12.put n_q12_0_px n_q12_1_px 0 _).put n_q12_0_px n_q12_1_px 1 _).put n_q12_0_px n_q12_1_px 2 _).put n_q12_0_px n_q12_1_px 3 _).put n_q12_0_px n_q12_1_px 4 _).put n_q12_0_px n_q12_1_px 5 _).put n_q12_0_px n_q12_1_px 6 _).put n_q12_0_px n_q12_1_px 7 _), ((((((((x_a.put (by omega)).put (by omega)).put (by omega)).put (by omega)).put (by omega)).put (by omega)).put (by omega)).put (by omega)), ((((((((x_b.put (by omega)).put (by omega)).put (by omega)).put (by omega)).put (by omega)).put (by omega)).put (by omega)).put (by omega)), ((((((((x_c.put (by omega)).put (by omega)).put (by omega)).put (by omega)).put (by omega)).put (by omega)).put (by omega)).put (by omega)), ((((((((x_r.put (by omega)).put (by omega)).put (by omega)).put (by omega)).put (by omega)).put (by omega)).put (by omega)).put (by omega)), ((((((((x_s.put (by omega)).put (by omega)).put (by omega)).put (by omega)).put (by omega)).put (by omega)).put (by omega)).put (by omega)), y_px.set, (below_put8 BB (by omega) _ _ _ _ _ _ _ _), by have := BU.size; simp only [World.size_setCell]; omega, ⟨gpx, by simp only [World.size_setCell]; omega⟩⟩
        · skip
          go_simp
          refine hK.out _ _ ⟨cell_on ((Below.refl _ _).alloc (Nat.le_refl _) _) hHeld.1, cell_on ((Below.refl _ _).alloc (Nat.le_refl _) _) hHeld.2.1, cell_on ((Below.refl _ _).alloc (Nat.le_refl _) _) hHeld.2.2.1, cell_on ((Below.refl _ _).alloc (Nat.le_refl _) _) hHeld.2.2.2.1, cell_on ((Below.refl _ _).alloc (Nat.le_refl _) _) hHeld.2.2.2.2.1, cell_on ((Below.refl _ _).alloc (Nat.le_refl _) _) hHeld.2.2.2.2.2.1, also hHeld.2.2.2.2.2.2 ((Below.refl _ _).alloc (Nat.le_refl _) _)⟩ (fun hHeld => ?_)
          clear hK Kc
          have y_px := b8_new X1 (.int .i64 0) (.slice none 0 0) (.int .i64 0) (.slice none 0 0) (.int .i64 0) (.slice none 0 0) (.int .i64 0) (.slice none 0 0) 43
          have e4 : Below X1.heap.size X1 (X1.alloc (.cells #[.int .i64 0, .slice none 0 0, .int .i64 0, .slice none 0 0, .int .i64 0, .slice none 0 0, .int .i64 0, .slice none 0 0] 43)) := (Below.refl _ _).alloc (Nat.le_refl _) _
          have lpx : X1.heap.size < (X1.alloc (.cells #[.int .i64 0, .slice none 0 0, .int .i64 0, .slice none 0 0, .int .i64 0, .slice none 0 0, .int .i64 0, .slice none 0 0] 43)).heap.size := by simp
          have gpx : V2.heap.size ≤ X1.heap.size := BU.size
          have n_x1_0_px : NA X1.heap.size a41 m41 := x1.wn.nd.sl.na (Nat.le_refl _)
          have n_x1_1_px : NA X1.heap.size b41 o41 := x1.nd.sl.na (Nat.le_refl _)
          have n_x2_0_px : NA X1.heap.size a42 m42 := x2.wi.ni.sl.na (Nat.le_refl _)
          have n_x2_1_px : NA X1.heap.size b42 o42 := x2.ni.sl.na (Nat.le_refl _)
          have n_x3_0_px : NA X1.heap.size a43 m43 := x3.wi.ni.sl.na (Nat.le_refl _)
          have n_x3_1_px : NA X1.heap.size b43 o43 := x3.ni.sl.na (Nat.le_refl _)
          have n_q11_0_px : NA X1.heap.size d11 l11 := q11.rn.hd.sl.na (Nat.le_refl _)
          have n_q11_1_px : NA X1.heap.size g11 h11 := q11.rd.hd.sl.na (Nat.le_refl _)
          generalize X1.alloc (.cells #[.int .i64 0, .slice none 0 0, .int .i64 0, .slice none 0 0, .int .i64 0, .slice none 0 0, .int .i64 0, .slice none 0 0] 43) = X4 at y_px e4 lpx hHeld ⊢
          replace x1 := x1.below e4
          replace x2 := x2.below e4
          replace x3 := x3.below e4
          replace q11 := q11.below e4
          replace x_a := x_a.on e4
          replace x_b := x_b.on e4
          replace x_c := x_c.on e4
          replace x_r := x_r.on e4
          replace x_s := x_s.on e4
          replace BB := also BB e4
          replace BU := also BU e4
          generalize X1.heap.size = px at y_px lpx gpx n_x1_0_px n_x1_1_px n_x2_0_px n_x2_1_px n_x3_0_px n_x3_1_px n_q11_0_px n_q11_1_px ⊢
          refine take_call (i := 5) rfl (by kernel_rfl) (fun Kc hK => ?_)
          go_simp
          (go_at_call 16; refine (rqOfP n43 a43 m43 e43 b43 o43 y43 N2 D2 10 _ x3 Hd2.out).mono ?_; rintro e X5 ⟨s12, d12, l12, c12, t12, g12, h12, k12, rfl, q12, f12, e5⟩)
          refine hK.out _ _ ⟨cell_on e5 hHeld.1, cell_on e5 hHeld.2.1, cell_on e5 hHeld.2.2.1, cell_on e5 hHeld.2.2.2.1, cell_on e5 hHeld.2.2.2.2.1, cell_on e5 hHeld.2.2.2.2.2.1, also hHeld.2.2.2.2.2.2 e5⟩ (fun hHeld => ?_)
          clear hK Kc
          have n_q12_0_px : NA px d12 l12 := (f12 px lpx trivial).1
          have n_q12_1_px : NA px g12 h12 := (f12 px lpx trivial).2
          replace x1 := x1.below e5
          replace x2 := x2.below e5
          replace x3 := x3.below e5
          replace q11 := q11.below e5
          replace x_a := x_a.on e5
          replace x_b := x_b.on e5
          replace x_c := x_c.on e5
          replace x_r := x_r.on e5
          replace x_s := x_s.on e5
          replace BB := also BB e5
          replace BU := also BU e5
          replace y_px := y_px.on e5
          replace lpx := Nat.lt_of_lt_of_le lpx e5.size
          refine take_yes (i := 6) (v := ?vm6x6) rfl (by kernel_rfl) (by kernel_rfl) (by kernel_rfl) (fun _ _ _ h => by rw [HQQ.out] at h; exact Exit.noConfusion h.1) (by rfl) (by assumption) ?hym6x6 ?restm6x6
          case hym6x6 => (intro w hSw; (try dsimp only at hSw); first | (go_simp; done) | (go_simp; with_reducible rfl))
          simp only [Act.put, List.setIfInBounds_toArray, List.set_cons_zero, List.set_cons_succ]
          have ⟨c_px_0, c_px_1, c_px_2, c_px_3, c_px_4, c_px_5, c_px_6, c_px_7, c_px_8, c_px_9, c_px_10, c_px_11, c_px_12, c_px_13, c_px_14, c_px_15⟩ : B8 X5 px (.int .i64 0) (.slice none 0 0) (.int .i64 0) (.slice none 0 0) (.int .i64 0) (.slice none 0 0) (.int .i64 0) (.slice none 0 0) := y_px
          refine take_call (i := 8) rfl (by kernel_rfl) (fun Kc hK => ?_)
          go_simp
          refine hK.out _ _ ⟨cell_put8 hHeld.1 (by omega) _ _ _ _ _ _ _ _, cell_put8 hHeld.2.1 (by omega) _ _ _ _ _ _ _ _, cell_put8 hHeld.2.2.1 (by omega) _ _ _ _ _ _ _ _, cell_put8 hHeld.2.2.2.1 (by omega) _ _ _ _ _ _ _ _, cell_put8 hHeld.2.2.2.2.1 (by omega) _ _ _ _ _ _ _ _, cell_put8 hHeld.2.2.2.2.2.1 (by omega) _ _ _ _ _ _ _ _, below_put8 hHeld.2.2.2.2.2.2 (by omega) _ _ _ _ _ _ _ _⟩ (fun hHeld => ?_)
          clear hK Kc
          refine wpAnyH_done (by kernel_rfl) ?_ _
          rw [HQQ.out]
          exact ⟨rfl, px, s11, d11, l11, c11, t11, g11, h11, k11, s12, d12, l12, c12, t12, g12, h12, k12, rfl, ((((((((x1.put n_x1_0_px n_x1_1_px 0 _).put n_x1_0_px n_x1_1_px 1 _).put n_x1_0_px n_x1_1_px 2 _).put n_x1_0_px n_x1_1_px 3 _).put n_x1_0_px n_x1_1_px 4 _).put n_x1_0_px n_x1_1_px 5 _).put n_x1_0_px n_x1_1_px 6 _).put n_x1_0_px n_x1_1_px 7 _), ((((((((x2.put n_x2_0_px n_x2_1_px 0 _).put n_x2_0_px n_x2_1_px 1 _).put n_x2_0_px n_x2_1_px 2 _).put n_x2_0_px n_x2_1_px 3 _).put n_x2_0_px n_x2_1_px 4 _).put n_x2_0_px n_x2_1_px 5 _).put n_x2_0_px n_x2_1_px 6 _).put n_x2_0_px n_x2_1_px 7 _), ((((((((x3.put n_x3_0_px n_x3_1_px 0 _).put n_x3_0_px n_x3_1_px 1 _).put n_x3_0_px n_x3_1_px 2 _).put n_x3_0_px n_x3_1_px 3 _).put n_x3_0_px n_x3_1_px 4 _).put n_x3_0_px n_x3_1_px 5 _).put n_x3_0_px n_x3_1_px 6 _).put n_x3_0_px n_x3_1_px 7 _), ((((((((q11.put n_q11_0_px n_q11_1_px 0 _).put n_q11_0_px n_q11_1_px 1 _).put n_q11_0_px n_q11_1_px 2 _).put n_q11_0_px n_q11_1_px 3 _).put n_q11_0_px n_q11_1_px 4 _).put n_q11_0_px n_q11_1_px 5 _).put n_q11_0_px n_q11_1_px 6 _).put n_q11_0_px n_q11_1_px 7 _), ((((((((q12.put n_q12_0_px n_q12_1_px 0 _).put n_q12_0_px n_q12_1_px 1 _).put n_q12_0_px n_q12_1_px 2 _).put n_q12_0_px n_q12_1_px 3 _).put n_q12_0_px n_q12_1_px 4 _).put n_q12_0_px n_q12_1_px 5 _).put n_q12_0_px n_q12_1_px 6 _).put n_q12_0_px n_q12_1_px 7 _), ((((((((x_a.put (by omega)).put (by omega)).put (by omega)).put (by omega)).put (by omega)).put (by omega)).put (by omega)).put (by omega)), ((((((((x_b.put (by omega)).put (by omega)).put (by omega)).put (by omega)).put (by omega)).put (by omega)).put (by omega)).put (by omega)), ((((((((x_c.put (by omega)).put (by omega)).put (by omega)).put (by omega)).put (by omega)).put (by omega)).put (by omega)).put (by omega)), ((((((((x_r.put (by omega)).put (by omega)).put (by omega)).put (by omega)).put (by omega)).put (by omega)).put (by omega)).put (by omega)), ((((((((x_s.put (by omega)).put (by omega)).put (by omega)).put (by omega)).put (by omega)).put (by omega)).put (by omega)).put (by omega)), y_px.set, (below_put8 BB (by omega) _ _ _ _ _ _ _ _), by have := BU.size; simp only [World.size_setCell]; omega, ⟨gpx, by simp only [World.size_setCell]; omega⟩⟩
      · skip
        go_simp
        refine hK.out _ _ ⟨cell_on ((Below.refl _ _).alloc (Nat.le_refl _) _) hHeld.1, cell_on ((Below.refl _ _).alloc (Nat.le_refl _) _) hHeld.2.1, cell_on ((Below.refl _ _).alloc (Nat.le_refl _) _) hHeld.2.2.1, cell_on ((Below.refl _ _).alloc (Nat.le_refl _) _) hHeld.2.2.2.1, cell_on ((Below.refl _ _).alloc (Nat.le_refl _) _) hHeld.2.2.2.2.1, cell_on ((Below.refl _ _).alloc (Nat.le_refl _) _) hHeld.2.2.2.2.2.1, also hHeld.2.2.2.2.2.2 ((Below.refl _ _).alloc (Nat.le_refl _) _)⟩ (fun hHeld => ?_)
        clear hK Kc
        have y_px := b8_new X0 (.int .i64 0) (.slice none 0 0) (.int .i64 0) (.slice none 0 0) (.int .i64 0) (.slice none 0 0) (.int .i64 0) (.slice none 0 0) 43
        have e6 : Below X0.heap.size X0 (X0.alloc (.cells #[.int .i64 0, .slice none 0 0, .int .i64 0, .slice none 0 0, .int .i64 0, .slice none 0 0, .int .i64 0, .slice none 0 0] 43)) := (Below.refl _ _).alloc (Nat.le_refl _) _
        have lpx : X0.heap.size < (X0.alloc (.cells #[.int .i64 0, .slice none 0 0, .int .i64 0, .slice none 0 0, .int .i64 0, .slice none 0 0, .int .i64 0, .slice none 0 0] 43)).heap.size := by simp
        have gpx : V2.heap.size ≤ X0.heap.size := BU.size
        have n_x1_0_px : NA X0.heap.size a41 m41 := x1.wn.nd.sl.na (Nat.le_refl _)
        have n_x1_1_px : NA X0.heap.size b41 o41 := x1.nd.sl.na (Nat.le_refl _)
        have n_x2_0_px : NA X0.heap.size a42 m42 := x2.wi.ni.sl.na (Nat.le_refl _)
        have n_x2_1_px : NA X0.heap.size b42 o42 := x2.ni.sl.na (Nat.le_refl _)
        have n_x3_0_px : NA X0.heap.size a43 m43 := x3.wi.ni.sl.na (Nat.le_refl _)
        have n_x3_1_px : NA X0.heap.size b43 o43 := x3.ni.sl.na (Nat.le_refl _)
        generalize X0.alloc (.cells #[.int .i64 0, .slice none 0 0, .int .i64 0, .slice none 0 0, .int .i64 0, .slice none 0 0, .int .i64 0, .slice none 0 0] 43) = X6 at y_px e6 lpx hHeld ⊢
        replace x1 := x1.below e6
        replace x2 := x2.below e6
        replace x3 := x3.below e6
        replace x_a := x_a.on e6
        replace x_b := x_b.on e6
        replace x_c := x_c.on e6
        replace x_r := x_r.on e6
        replace x_s := x_s.on e6
        replace BB := also BB e6
        replace BU := also BU e6
        generalize X0.heap.size = px at y_px lpx gpx n_x1_0_px n_x1_1_px n_x2_0_px n_x2_1_px n_x3_0_px n_x3_1_px ⊢
        refine take_call (i := 2) rfl (by kernel_rfl) (fun Kc hK => ?_)
        go_simp
        (go_at_call 16; refine (rqOfP n42 a42 m42 e42 b42 o42 y42 N1 D1 10 _ x2 Hd1.out).mono ?_; rintro e X7 ⟨s11, d11, l11, c11, t11, g11, h11, k11, rfl, q11, f11, e7⟩)
        refine hK.out _ _ ⟨cell_on e7 hHeld.1, cell_on e7 hHeld.2.1, cell_on e7 hHeld.2.2.1, cell_on e7 hHeld.2.2.2.1, cell_on e7 hHeld.2.2.2.2.1, cell_on e7 hHeld.2.2.2.2.2.1, also hHeld.2.2.2.2.2.2 e7⟩ (fun hHeld => ?_)
        clear hK Kc
        have n_q11_0_px : NA px d11 l11 := (f11 px lpx trivial).1
        have n_q11_1_px : NA px g11 h11 := (f11 px lpx trivial).2
        replace x1 := x1.below e7
        replace x2 := x2.below e7
        replace x3 := x3.below e7
        replace x_a := x_a.on e7
        replace x_b := x_b.on e7
        replace x_c := x_c.on e7
        replace x_r := x_r.on e7
        replace x_s := x_s.on e7
        replace BB := also BB e7
        replace BU := also BU e7
        replace y_px := y_px.on e7
        replace lpx := Nat.lt_of_lt_of_le lpx e7.size
        refine take_call (i := 5) rfl (by kernel_rfl) (fun Kc hK => ?_)
        go_simp
        (go_at_call 16; refine (rqOfP n43 a43 m43 e43 b43 o43 y43 N2 D2 10 _ x3 Hd2.out).mono ?_; rintro e X8 ⟨s12, d12, l12, c12, t12, g12, h12, k12, rfl, q12, f12, e8⟩)
        refine hK.out _ _ ⟨cell_on e8 hHeld.1, cell_on e8 hHeld.2.1, cell_on e8 hHeld.2.2.1, cell_on e8 hHeld.2.2.2.1, cell_on e8 hHeld.2.2.2.2.1, cell_on e8 hHeld.2.2.2.2.2.1, also hHeld.2.2.2.2.2.2 e8⟩ (fun hHeld => ?_)
        clear hK Kc
        have n_q12_0_px : NA px d12 l12 := (f12 px lpx trivial).1
        have n_q12_1_px : NA px g12 h12 := (f12 px lpx trivial).2
        replace x1 := x1.below e8
        replace x2 := x2.below e8
        replace x3 := x3.below e8
        replace q11 := q11.below e8
        replace x_a := x_a.on e8
        replace x_b := x_b.on e8
        replace x_c := x_c.on e8
        replace x_r := x_r.on e8
        replace x_s := x_s.on e8
        replace BB := also BB e8
        replace BU := also BU e8
        replace y_px := y_px.on e8
        replace lpx := Nat.lt_of_lt_of_le lpx e8.size
        refine take_yes (i := 6) (v := ?vm6x7) rfl (by kernel_rfl) (by kernel_rfl) (by kernel_rfl) (fun _ _ _ h => by rw [HQQ.out] at h; exact Exit.noConfusion h.1) (by rfl) (by assumption) ?hym6x7 ?restm6x7
        case hym6x7 => (intro w hSw; (try dsimp only at hSw); first | (go_simp; done) | (go_simp; with_reducible rfl))
        simp only [Act.put, List.setIfInBounds_toArray, List.set_cons_zero, List.set_cons_succ]
        have ⟨c_px_0, c_px_1, c_px_2, c_px_3, c_px_4, c_px_5, c_px_6, c_px_7, c_px_8, c_px_9, c_px_10, c_px_11, c_px_12, c_px_13, c_px_14, c_px_15⟩ : B8 X8 px (.int .i64 0) (.slice none 0 0) (.int .i64 0) (.slice none 0 0) (.int .i64 0) (.slice none 0 0) (.int .i64 0) (.slice none 0 0) := y_px
        refine take_call (i := 8) rfl (by kernel_rfl) (fun Kc hK => ?_)
        go_simp
        refine hK.out _ _ ⟨cell_put8 hHeld.1 (by omega) _ _ _ _ _ _ _ _, cell_put8 hHeld.2.1 (by omega) _ _ _ _ _ _ _ _, cell_put8 hHeld.2.2.1 (by omega) _ _ _ _ _ _ _ _, cell_put8 hHeld.2.2.2.1 (by omega) _ _ _ _ _ _ _ _, cell_put8 hHeld.2.2.2.2.1 (by omega) _ _ _ _ _ _ _ _, cell_put8 hHeld.2.2.2.2.2.1 (by omega) _ _ _ _ _ _ _ _, below_put8 hHeld.2.2.2.2.2.2 (by omega) _ _ _ _ _ _ _ _⟩ (fun hHeld => ?_)
        clear hK Kc
        refine wpAnyH_done (by kernel_rfl) ?_ _
        rw [HQQ.out]
        exact ⟨rfl, px, s11, d11, l11, c11, t11, g11, h11, k11, s12, d12, l12, c12, t12, g12, h12, k12, rfl, ((((((((x1.put n_x1_0_px n_x1_1_px 0 _).put n_x1_0_px n_x1_1_px 1 _).put n_x1_0_px n_x1_1_px 2 _).put n_x1_0_px n_x1_1_px 3 _).put n_x1_0_px n_x1_1_px 4 _).put n_x1_0_px n_x1_1_px 5 _).put n_x1_0_px n_x1_1_px 6 _).put n_x1_0_px n_x1_1_px 7 _), ((((((((x2.put n_x2_0_px n_x2_1_px 0 _).put n_x2_0_px n_x2_1_px 1 _).put n_x2_0_px n_x2_1_px 2 _).put n_x2_0_px n_x2_1_px 3 _).put n_x2_0_px n_x2_1_px 4 _).put n_x2_0_px n_x2_1_px 5 _).put n_x2_0_px n_x2_1_px 6 _).put n_x2_0_px n_x2_1_px 7 _), ((((((((x3.put n_x3_0_px n_x3_1_px 0 _).put n_x3_0_px n_x3_1_px 1 _).put n_x3_0_px n_x3_1_px 2 _).put n_x3_0_px n_x3_1_px 3 _).put n_x3_0_px n_x3_1_px 4 _).put n_x3_0_px n_x3_1_px 5 _).put n_x3_0_px n_x3_1_px 6 _).put n_x3_0_px n_x3_1_px 7 _), ((((((((q11.put n_q11_0_px n_q11_1_px 0 _).put n_q11_0_px n_q11_1_px 1 _).put n_q11_0_px n_q11_1_px 2 _).put n_q11_0_px n_q11_1_px 3 _).put n_q11_0_px n_q11_1_px 4 _).put n_q11_0_px n_q11_1_px 5 _).put n_q11_0_px n_q11_1_px 6 _).put n_q11_0_px n_q11_1_px 7 _), ((((((((q12.put n_q12_0_px n_q12_1_px 0 _).put n_q12_0_px n_q12_1_px 1 _).put n_q12_0_px n_q12_1_px 2 _).put n_q12_0_px n_q12_1_px 3 _).put n_q12_0_px n_q12_1_px 4 _).put n_q12_0_px n_q12_1_px 5 _).put n_q12_0_px n_q12_1_px 6 _).put n_q12_0_px n_q12_1_px 7 _), ((((((((x_a.put (by omega)).put (by omega)).put (by omega)).put (by omega)).put (by omega)).put (by omega)).put (by omega)).put (by omega)), ((((((((x_b.put (by omega)).put (by omega)).put (by omega)).put (by omega)).put (by omega)).put (by omega)).put (by omega)).put (by omega)), ((((((((x_c.put (by omega)).put (by omega)).put (by omega)).put (by omega)).put (by omega)).put (by omega)).put (by omega)).put (by omega)), ((((((((x_r.put (by omega)).put (by omega)).put (by omega)).put (by omega)).put (by omega)).put (by omega)).put (by omega)).put (by omega)), ((((((((x_s.put (by omega)).put (by omega)).put (by omega)).put (by omega)).put (by omega)).put (by omega)).put (by omega)).put (by omega)), y_px.set, (below_put8 BB (by omega) _ _ _ _ _ _ _ _), by have := BU.size; simp only [World.size_setCell]; omega, ⟨gpx, by simp only [World.size_setCell]; omega⟩⟩
    rw [HQQ.out]
    rintro e act Y1 ⟨rfl, px, s11, d11, l11, c11, t11, g11, h11, k11, s12, d12, l12, c12, t12, g12, h12, k12, rfl, x1, x2, x3, q11, q12, x_a, x_b, x_c, x_r, x_s, x_x, BB, z_Y1, z_Y1_px⟩
    clear HQQ QQ
    try dsimp only
    go_wp2
    have dd1 : Below Y1.heap.size Y1 Y1.drew := (Below.refl _ _).drew
    have zdd1 := dd1.size
    replace BB := also BB dd1
    replace x_a := x_a.on dd1
    replace x_b := x_b.on dd1
    replace x_c := x_c.on dd1
    replace x1 := x1.below dd1
    replace x_r := x_r.on dd1
    replace x2 := x2.below dd1
    replace x3 := x3.below dd1
    replace x_s := x_s.on dd1
    replace q11 := q11.below dd1
    replace q12 := q12.below dd1
    replace x_x := x_x.on dd1
    refine wp_region_held_drew (S := (fun w' => w'.cell? ⟨w1.heap.size, 0, none⟩ = some (.bool n41) ∧ w'.cell? ⟨w1.heap.size, 1, none⟩ = some (.slice a41 m41 e41) ∧ w'.cell? ⟨w1.heap.size, 2, none⟩ = some (.slice b41 o41 y41) ∧ w'.cell? ⟨px, 0, none⟩ = some (.int .i64 s11) ∧ w'.cell? ⟨px, 1, none⟩ = some (.slice d11 l11 c11) ∧ w'.cell? ⟨px, 2, none⟩ = some (.int .i64 t11) ∧ w'.cell? ⟨px, 3, none⟩ = some (.slice g11 h11 k11) ∧ w'.cell? ⟨px, 4, none⟩ = some (.int .i64 s12) ∧ w'.cell? ⟨px, 5, none⟩ = some (.slice d12 l12 c12) ∧ w'.cell? ⟨px, 6, none⟩ = some (.int .i64 t12) ∧ w'.cell? ⟨px, 7, none⟩ = some (.slice g12 h12 k12) ∧ w'.cell? ⟨w.heap.size, 0, none⟩ = some (.int .i64 a1) ∧ w'.cell? ⟨w.heap.size, 1, none⟩ = some (.int .i64 a2) ∧ w'.cell? ⟨w.heap.size + 1, 0, none⟩ = some (.int .i64 b1) ∧ w'.cell? ⟨w.heap.size + 1, 1, none⟩ = some (.int .i64 b2) ∧ w'.cell? ⟨w.heap.size + 1 + 1, 0, none⟩ = some (.int .i64 c1) ∧ w'.cell? ⟨w.heap.size + 1 + 1, 1, none⟩ = some (.int .i64 c2) ∧ Below w.heap.size w w')) (by kernel_rfl) ?_ (fun hHeld => ?_)
    · exact ⟨x_r.c0, x_r.c1, x_r.c2, x_x.c0, x_x.c1, x_x.c2, x_x.c3, x_x.c4, x_x.c5, x_x.c6, x_x.c7, x_a.c0, x_a.c1, x_b.c0, x_b.c1, x_c.c0, x_c.c1, BB⟩
    refine take_yes (i := 0) (v := ?vy0) rfl (by kernel_rfl) (by kernel_rfl) (by kernel_rfl) (fun _ _ _ h => h) (by rfl) (by assumption) ?hyy0 ?resty0
    case hyy0 => (intro w hSw; (try dsimp only at hSw); first | (go_simp; done) | (go_simp; with_reducible rfl))
    simp only [Act.put, List.setIfInBounds_toArray, List.set_cons_zero, List.set_cons_succ]
    refine take_yes (i := 1) (v := ?vy1) rfl (by kernel_rfl) (by kernel_rfl) (by kernel_rfl) (fun _ _ _ h => h) (by rfl) (by assumption) ?hyy1 ?resty1
    case hyy1 => (intro w hSw; (try dsimp only at hSw); first | (go_simp; done) | (go_simp; with_reducible rfl))
    simp only [Act.put, List.setIfInBounds_toArray, List.set_cons_zero, List.set_cons_succ]
    refine take_yes (i := 2) (v := ?vy2) rfl (by kernel_rfl) (by kernel_rfl) (by kernel_rfl) (fun _ _ _ h => h) (by rfl) (by assumption) ?hyy2 ?resty2
    case hyy2 => (intro w hSw; (try dsimp only at hSw); first | (go_simp; done) | (go_simp; with_reducible rfl))
    simp only [Act.put, List.setIfInBounds_toArray, List.set_cons_zero, List.set_cons_succ]
    refine take_call (i := 3) rfl (by kernel_rfl) (fun Kc hK => ?_)
    go_simp
    (go_at_call 17; refine (rcFar s11 d11 l11 c11 t11 g11 h11 k11 N1 D1 s12 d12 l12 c12 t12 g12 h12 k12 N2 D2 a1 a2 10 _ q11 q12 Ra (by decide) (by decide) Eua.out Eex.out Eva.out Eey.out FNa.out FDa.out).mono ?_; rintro e z0 ⟨s21, d21, l21, c21, t21, g21, h21, k21, rfl, q21, f21, bz0⟩)
    refine hK.out _ _ ?_ (fun hHeld => ?_)
    · exact ⟨cell_on bz0 hHeld.1, cell_on bz0 hHeld.2.1, cell_on bz0 hHeld.2.2.1, cell_on bz0 hHeld.2.2.2.1, cell_on bz0 hHeld.2.2.2.2.1, cell_on bz0 hHeld.2.2.2.2.2.1, cell_on bz0 hHeld.2.2.2.2.2.2.1, cell_on bz0 hHeld.2.2.2.2.2.2.2.1, cell_on bz0 hHeld.2.2.2.2.2.2.2.2.1, cell_on bz0 hHeld.2.2.2.2.2.2.2.2.2.1, cell_on bz0 hHeld.2.2.2.2.2.2.2.2.2.2.1, cell_on bz0 hHeld.2.2.2.2.2.2.2.2.2.2.2.1, cell_on bz0 hHeld.2.2.2.2.2.2.2.2.2.2.2.2.1, cell_on bz0 hHeld.2.2.2.2.2.2.2.2.2.2.2.2.2.1, cell_on bz0 hHeld.2.2.2.2.2.2.2.2.2.2.2.2.2.2.1, cell_on bz0 hHeld.2.2.2.2.2.2.2.2.2.2.2.2.2.2.2.1, cell_on bz0 hHeld.2.2.2.2.2.2.2.2.2.2.2.2.2.2.2.2.1, also hHeld.2.2.2.2.2.2.2.2.2.2.2.2.2.2.2.2.2 bz0⟩
    clear hK Kc
    have zbz0 := bz0.size
    replace BB := also BB bz0
    replace x_a := x_a.on bz0
    replace x_b := x_b.on bz0
    replace x_c := x_c.on bz0
    replace x1 := x1.below bz0
    replace x_r := x_r.on bz0
    replace x2 := x2.below bz0
    replace x3 := x3.below bz0
    replace x_s := x_s.on bz0
    replace q11 := q11.below bz0
    replace q12 := q12.below bz0
    replace x_x := x_x.on bz0
    refine take_call (i := 4) rfl (by kernel_rfl) (fun Kc hK => ?_)
    go_simp
    (go_at_call 14; refine (rqSame n41 a41 m41 e41 b41 o41 y41 A B s21 d21 l21 c21 t21 g21 h21 k21 A B 85 _ x1 q21 IA.out IB.out).mono ?_; rintro e z1 ⟨rfl, bz1⟩)
    refine hK.out _ _ ?_ (fun hHeld => ?_)
    · exact ⟨cell_on bz1 hHeld.1, cell_on bz1 hHeld.2.1, cell_on bz1 hHeld.2.2.1, cell_on bz1 hHeld.2.2.2.1, cell_on bz1 hHeld.2.2.2.2.1, cell_on bz1 hHeld.2.2.2.2.2.1, cell_on bz1 hHeld.2.2.2.2.2.2.1, cell_on bz1 hHeld.2.2.2.2.2.2.2.1, cell_on bz1 hHeld.2.2.2.2.2.2.2.2.1, cell_on bz1 hHeld.2.2.2.2.2.2.2.2.2.1, cell_on bz1 hHeld.2.2.2.2.2.2.2.2.2.2.1, cell_on bz1 hHeld.2.2.2.2.2.2.2.2.2.2.2.1, cell_on bz1 hHeld.2.2.2.2.2.2.2.2.2.2.2.2.1, cell_on bz1 hHeld.2.2.2.2.2.2.2.2.2.2.2.2.2.1, cell_on bz1 hHeld.2.2.2.2.2.2.2.2.2.2.2.2.2.2.1, cell_on bz1 hHeld.2.2.2.2.2.2.2.2.2.2.2.2.2.2.2.1, cell_on bz1 hHeld.2.2.2.2.2.2.2.2.2.2.2.2.2.2.2.2.1, also hHeld.2.2.2.2.2.2.2.2.2.2.2.2.2.2.2.2.2 bz1⟩
    clear hK Kc
    have zbz1 := bz1.size
    replace BB := also BB bz1
    replace x_a := x_a.on bz1
    replace x_b := x_b.on bz1
    replace x_c := x_c.on bz1
    replace x1 := x1.below bz1
    replace x_r := x_r.on bz1
    replace x2 := x2.below bz1
    replace x3 := x3.below bz1
    replace x_s := x_s.on bz1
    replace q11 := q11.below bz1
    replace q12 := q12.below bz1
    replace x_x := x_x.on bz1
    replace q21 := q21.below bz1
    refine take_yes (i := 5) (v := ?vy5) rfl (by kernel_rfl) (by kernel_rfl) (by kernel_rfl) (fun _ _ _ h => h) (by rfl) (by assumption) ?hyy5 ?resty5
    case hyy5 => (intro w hSw; (try dsimp only at hSw); first | (go_simp; done) | (go_simp; with_reducible rfl))
    simp only [Act.put, List.setIfInBounds_toArray, List.set_cons_zero, List.set_cons_succ]
    refine take_yes (i := 6) (v := ?vy6) rfl (by kernel_rfl) (by kernel_rfl) (by kernel_rfl) (fun _ _ _ h => h) (by rfl) (by assumption) ?hyy6 ?resty6
    case hyy6 => (intro w hSw; (try dsimp only at hSw); first | (go_simp; done) | (go_simp; with_reducible rfl))
    simp only [Act.put, List.setIfInBounds_toArray, List.set_cons_zero, List.set_cons_succ]
    refine take_yes (i := 7) (v := ?vy7) rfl (by kernel_rfl) (by kernel_rfl) (by kernel_rfl) (fun _ _ _ h => h) (by rfl) (by assumption) ?hyy7 ?resty7
    case hyy7 => (intro w hSw; (try dsimp only at hSw); first | (go_simp; done) | (go_simp; with_reducible rfl))
    simp only [Act.put, List.setIfInBounds_toArray, List.set_cons_zero, List.set_cons_succ]
    refine take_yes (i := 8) (v := ?vy8) rfl (by kernel_rfl) (by kernel_rfl) (by kernel_rfl) (fun _ _ _ h => h) (by rfl) (by assumption) ?hyy8 ?resty8
    case hyy8 => (intro w hSw; (try dsimp only at hSw); first | (go_simp; done) | (go_simp; with_reducible rfl))
    simp only [Act.put, List.setIfInBounds_toArray, List.set_cons_zero, List.set_cons_succ]
    refine take_call (i := 9) rfl (by kernel_rfl) (fun Kc hK => ?_)
    go_simp
    (go_at_call 17; refine (rcFar s11 d11 l11 c11 t11 g11 h11 k11 N1 D1 s12 d12 l12 c12 t12 g12 h12 k12 N2 D2 b1 b2 10 _ q11 q12 Rb (by decide) (by decide) Eub.out Eex.out Evb.out Eey.out FNb.out FDb.out).mono ?_; rintro e z2 ⟨s22, d22, l22, c22, t22, g22, h22, k22, rfl, q22, f22, bz2⟩)
    refine hK.out _ _ ?_ (fun hHeld => ?_)
    · exact ⟨cell_on bz2 hHeld.1, cell_on bz2 hHeld.2.1, cell_on bz2 hHeld.2.2.1, cell_on bz2 hHeld.2.2.2.1, cell_on bz2 hHeld.2.2.2.2.1, cell_on bz2 hHeld.2.2.2.2.2.1, cell_on bz2 hHeld.2.2.2.2.2.2.1, cell_on bz2 hHeld.2.2.2.2.2.2.2.1, cell_on bz2 hHeld.2.2.2.2.2.2.2.2.1, cell_on bz2 hHeld.2.2.2.2.2.2.2.2.2.1, cell_on bz2 hHeld.2.2.2.2.2.2.2.2.2.2.1, cell_on bz2 hHeld.2.2.2.2.2.2.2.2.2.2.2.1, cell_on bz2 hHeld.2.2.2.2.2.2.2.2.2.2.2.2.1, cell_on bz2 hHeld.2.2.2.2.2.2.2.2.2.2.2.2.2.1, cell_on bz2 hHeld.2.2.2.2.2.2.2.2.2.2.2.2.2.2.1, cell_on bz2 hHeld.2.2.2.2.2.2.2.2.2.2.2.2.2.2.2.1, cell_on bz2 hHeld.2.2.2.2.2.2.2.2.2.2.2.2.2.2.2.2.1, also hHeld.2.2.2.2.2.2.2.2.2.2.2.2.2.2.2.2.2 bz2⟩
    clear hK Kc
    have zbz2 := bz2.size
    replace BB := also BB bz2
    replace x_a := x_a.on bz2
    replace x_b := x_b.on bz2
    replace x_c := x_c.on bz2
    replace x1 := x1.below bz2
    replace x_r := x_r.on bz2
    replace x2 := x2.below bz2
    replace x3 := x3.below bz2
    replace x_s := x_s.on bz2
    replace q11 := q11.below bz2
    replace q12 := q12.below bz2
    replace x_x := x_x.on bz2
    replace q21 := q21.below bz2
    refine take_call (i := 10) rfl (by kernel_rfl) (fun Kc hK => ?_)
    go_simp
    (go_at_call 14; refine (rqSame n41 a41 m41 e41 b41 o41 y41 A B s22 d22 l22 c22 t22 g22 h22 k22 A B 85 _ x1 q22 IA.out IB.out).mono ?_; rintro e z3 ⟨rfl, bz3⟩)
    refine hK.out _ _ ?_ (fun hHeld => ?_)
    · exact ⟨cell_on bz3 hHeld.1, cell_on bz3 hHeld.2.1, cell_on bz3 hHeld.2.2.1, cell_on bz3 hHeld.2.2.2.1, cell_on bz3 hHeld.2.2.2.2.1, cell_on bz3 hHeld.2.2.2.2.2.1, cell_on bz3 hHeld.2.2.2.2.2.2.1, cell_on bz3 hHeld.2.2.2.2.2.2.2.1, cell_on bz3 hHeld.2.2.2.2.2.2.2.2.1, cell_on bz3 hHeld.2.2.2.2.2.2.2.2.2.1, cell_on bz3 hHeld.2.2.2.2.2.2.2.2.2.2.1, cell_on bz3 hHeld.2.2.2.2.2.2.2.2.2.2.2.1, cell_on bz3 hHeld.2.2.2.2.2.2.2.2.2.2.2.2.1, cell_on bz3 hHeld.2.2.2.2.2.2.2.2.2.2.2.2.2.1, cell_on bz3 hHeld.2.2.2.2.2.2.2.2.2.2.2.2.2.2.1, cell_on bz3 hHeld.2.2.2.2.2.2.2.2.2.2.2.2.2.2.2.1, cell_on bz3 hHeld.2.2.2.2.2.2.2.2.2.2.2.2.2.2.2.2.1, also hHeld.2.2.2.2.2.2.2.2.2.2.2.2.2.2.2.2.2 bz3⟩
    clear hK Kc
    have zbz3 := bz3.size
    replace BB := also BB bz3
    replace x_a := x_a.on bz3
    replace x_b := x_b.on bz3
    replace x_c := x_c.on bz3
    replace x1 := x1.below bz3
    replace x_r := x_r.on bz3
    replace x2 := x2.below bz3
    replace x3 := x3.below bz3
    replace x_s := x_s.on bz3
    replace q11 := q11.below bz3
    replace q12 := q12.below bz3
    replace x_x := x_x.on bz3
    replace q21 := q21.below bz3
    replace q22 := q22.below bz3
    refine take_yes (i := 11) (v := ?vy11) rfl (by kernel_rfl) (by kernel_rfl) (by kernel_rfl) (fun _ _ _ h => h) (by rfl) (by assumption) ?hyy11 ?resty11
    case hyy11 => (intro w hSw; (try dsimp only at hSw); first | (go_simp; done) | (go_simp; with_reducible rfl))
    simp only [Act.put, List.setIfInBounds_toArray, List.set_cons_zero, List.set_cons_succ]
    refine take_yes (i := 12) (v := ?vy12) rfl (by kernel_rfl) (by kernel_rfl) (by kernel_rfl) (fun _ _ _ h => h) (by rfl) (by assumption) ?hyy12 ?resty12
    case hyy12 => (intro w hSw; (try dsimp only at hSw); first | (go_simp; done) | (go_simp; with_reducible rfl))
    simp only [Act.put, List.setIfInBounds_toArray, List.set_cons_zero, List.set_cons_succ]
    refine take_yes (i := 13) (v := ?vy13) rfl (by kernel_rfl) (by kernel_rfl) (by kernel_rfl) (fun _ _ _ h => h) (by rfl) (by assumption) ?hyy13 ?resty13
    case hyy13 => (intro w hSw; (try dsimp only at hSw); first | (go_simp; done) | (go_simp; with_reducible rfl))
    simp only [Act.put, List.setIfInBounds_toArray, List.set_cons_zero, List.set_cons_succ]
    refine take_yes (i := 14) (v := ?vy14) rfl (by kernel_rfl) (by kernel_rfl) (by kernel_rfl) (fun _ _ _ h => h) (by rfl) (by assumption) ?hyy14 ?resty14
    case hyy14 => (intro w hSw; (try dsimp only at hSw); first | (go_simp; done) | (go_simp; with_reducible rfl))
    simp only [Act.put, List.setIfInBounds_toArray, List.set_cons_zero, List.set_cons_succ]
    refine take_yes (i := 15) (v := ?vy15) rfl (by kernel_rfl) (by kernel_rfl) (by kernel_rfl) (fun _ _ _ h => h) (by rfl) (by assumption) ?hyy15 ?resty15
    case hyy15 => (intro w hSw; (try dsimp only at hSw); first | (go_simp; done) | (go_simp; with_reducible rfl))
    simp only [Act.put, List.setIfInBounds_toArray, List.set_cons_zero, List.set_cons_succ]
    refine take_call (i := 16) rfl (by kernel_rfl) (fun Kc hK => ?_)
    go_simp
    (go_at_call 17; refine (rcFar s11 d11 l11 c11 t11 g11 h11 k11 N1 D1 s12 d12 l12 c12 t12 g12 h12 k12 N2 D2 c1 c2 10 _ q11 q12 Rc (by decide) (by decide) Euc.out Eex.out Evc.out Eey.out FNc.out FDc.out).mono ?_; rintro e z4 ⟨s23, d23, l23, c23, t23, g23, h23, k23, rfl, q23, f23, bz4⟩)
    refine hK.out _ _ ?_ (fun hHeld => ?_)
    · exact ⟨cell_on bz4 hHeld.1, cell_on bz4 hHeld.2.1, cell_on bz4 hHeld.2.2.1, cell_on bz4 hHeld.2.2.2.1, cell_on bz4 hHeld.2.2.2.2.1, cell_on bz4 hHeld.2.2.2.2.2.1, cell_on bz4 hHeld.2.2.2.2.2.2.1, cell_on bz4 hHeld.2.2.2.2.2.2.2.1, cell_on bz4 hHeld.2.2.2.2.2.2.2.2.1, cell_on bz4 hHeld.2.2.2.2.2.2.2.2.2.1, cell_on bz4 hHeld.2.2.2.2.2.2.2.2.2.2.1, cell_on bz4 hHeld.2.2.2.2.2.2.2.2.2.2.2.1, cell_on bz4 hHeld.2.2.2.2.2.2.2.2.2.2.2.2.1, cell_on bz4 hHeld.2.2.2.2.2.2.2.2.2.2.2.2.2.1, cell_on bz4 hHeld.2.2.2.2.2.2.2.2.2.2.2.2.2.2.1, cell_on bz4 hHeld.2.2.2.2.2.2.2.2.2.2.2.2.2.2.2.1, cell_on bz4 hHeld.2.2.2.2.2.2.2.2.2.2.2.2.2.2.2.2.1, also hHeld.2.2.2.2.2.2.2.2.2.2.2.2.2.2.2.2.2 bz4⟩
    clear hK Kc
    have zbz4 := bz4.size
    replace BB := also BB bz4
    replace x_a := x_a.on bz4
    replace x_b := x_b.on bz4
    replace x_c := x_c.on bz4
    replace x1 := x1.below bz4
    replace x_r := x_r.on bz4
    replace x2 := x2.below bz4
    replace x3 := x3.below bz4
    replace x_s := x_s.on bz4
    replace q11 := q11.below bz4
    replace q12 := q12.below bz4
    replace x_x := x_x.on bz4
    replace q21 := q21.below bz4
    replace q22 := q22.below bz4
    refine take_call (i := 17) rfl (by kernel_rfl) (fun Kc hK => ?_)
    go_simp
    (go_at_call 14; refine (rqSame n41 a41 m41 e41 b41 o41 y41 A B s23 d23 l23 c23 t23 g23 h23 k23 A B 85 _ x1 q23 IA.out IB.out).mono ?_; rintro e z5 ⟨rfl, bz5⟩)
    refine hK.out _ _ ?_ (fun hHeld => ?_)
    · exact ⟨cell_on bz5 hHeld.1, cell_on bz5 hHeld.2.1, cell_on bz5 hHeld.2.2.1, cell_on bz5 hHeld.2.2.2.1, cell_on bz5 hHeld.2.2.2.2.1, cell_on bz5 hHeld.2.2.2.2.2.1, cell_on bz5 hHeld.2.2.2.2.2.2.1, cell_on bz5 hHeld.2.2.2.2.2.2.2.1, cell_on bz5 hHeld.2.2.2.2.2.2.2.2.1, cell_on bz5 hHeld.2.2.2.2.2.2.2.2.2.1, cell_on bz5 hHeld.2.2.2.2.2.2.2.2.2.2.1, cell_on bz5 hHeld.2.2.2.2.2.2.2.2.2.2.2.1, cell_on bz5 hHeld.2.2.2.2.2.2.2.2.2.2.2.2.1, cell_on bz5 hHeld.2.2.2.2.2.2.2.2.2.2.2.2.2.1, cell_on bz5 hHeld.2.2.2.2.2.2.2.2.2.2.2.2.2.2.1, cell_on bz5 hHeld.2.2.2.2.2.2.2.2.2.2.2.2.2.2.2.1, cell_on bz5 hHeld.2.2.2.2.2.2.2.2.2.2.2.2.2.2.2.2.1, also hHeld.2.2.2.2.2.2.2.2.2.2.2.2.2.2.2.2.2 bz5⟩
    clear hK Kc
    have zbz5 := bz5.size
    replace BB := also BB bz5
    replace x_a := x_a.on bz5
    replace x_b := x_b.on bz5
    replace x_c := x_c.on bz5
    replace x1 := x1.below bz5
    replace x_r := x_r.on bz5
    replace x2 := x2.below bz5
    replace x3 := x3.below bz5
    replace x_s := x_s.on bz5
    replace q11 := q11.below bz5
    replace q12 := q12.below bz5
    replace x_x := x_x.on bz5
    replace q21 := q21.below bz5
    replace q22 := q22.below bz5
    replace q23 := q23.below bz5
    refine take_yes (i := 18) (v := ?vy18) rfl (by kernel_rfl) (by kernel_rfl) (by kernel_rfl) (fun _ _ _ h => h) (by rfl) (by assumption) ?hyy18 ?resty18
    case hyy18 => (intro w hSw; (try dsimp only at hSw); first | (go_simp; done) | (go_simp; with_reducible rfl))
    simp only [Act.put, List.setIfInBounds_toArray, List.set_cons_zero, List.set_cons_succ]
    refine take_yes (i := 19) (v := ?vy19) rfl (by kernel_rfl) (by kernel_rfl) (by kernel_rfl) (fun _ _ _ h => h) (by rfl) (by assumption) ?hyy19 ?resty19
    case hyy19 => (intro w hSw; (try dsimp only at hSw); first | (go_simp; done) | (go_simp; with_reducible rfl))
    simp only [Act.put, List.setIfInBounds_toArray, List.set_cons_zero, List.set_cons_succ]
    refine take_yes (i := 20) (v := ?vy20) rfl (by kernel_rfl) (by kernel_rfl) (by kernel_rfl) (fun _ _ _ h => h) (by rfl) (by assumption) ?hyy20 ?resty20
    case hyy20 => (intro w hSw; (try dsimp only at hSw); first | (go_simp; done) | (go_simp; with_reducible rfl))
    simp only [Act.put, List.setIfInBounds_toArray, List.set_cons_zero, List.set_cons_succ]
    refine take_yes (i := 21) (v := ?vy21) rfl (by kernel_rfl) (by kernel_rfl) (by kernel_rfl) (fun _ _ _ h => h) (by rfl) (by assumption) ?hyy21 ?resty21
    case hyy21 => (intro w hSw; (try dsimp only at hSw); first | (go_simp; done) | (go_simp; with_reducible rfl))
    simp only [Act.put, List.setIfInBounds_toArray, List.set_cons_zero, List.set_cons_succ]
    refine take_yes (i := 22) (v := ?vy22) rfl (by kernel_rfl) (by kernel_rfl) (by kernel_rfl) (fun _ _ _ h => h) (by rfl) (by assumption) ?hyy22 ?resty22
    case hyy22 => (intro w hSw; (try dsimp only at hSw); first | (go_simp; done) | (go_simp; with_reducible rfl))
    simp only [Act.put, List.setIfInBounds_toArray, List.set_cons_zero, List.set_cons_succ]
    refine take_call (i := 23) rfl (by kernel_rfl) (fun Kc hK => ?_)
    go_simp
    (go_at_call 11; refine (hL.out _).mono ?_; rintro e z9 ⟨rfl, bz9⟩)
    refine hK.out _ _ ?_ (fun hHeld => ?_)
    · exact ⟨cell_on bz9 hHeld.1, cell_on bz9 hHeld.2.1, cell_on bz9 hHeld.2.2.1, cell_on bz9 hHeld.2.2.2.1, cell_on bz9 hHeld.2.2.2.2.1, cell_on bz9 hHeld.2.2.2.2.2.1, cell_on bz9 hHeld.2.2.2.2.2.2.1, cell_on bz9 hHeld.2.2.2.2.2.2.2.1, cell_on bz9 hHeld.2.2.2.2.2.2.2.2.1, cell_on bz9 hHeld.2.2.2.2.2.2.2.2.2.1, cell_on bz9 hHeld.2.2.2.2.2.2.2.2.2.2.1, cell_on bz9 hHeld.2.2.2.2.2.2.2.2.2.2.2.1, cell_on bz9 hHeld.2.2.2.2.2.2.2.2.2.2.2.2.1, cell_on bz9 hHeld.2.2.2.2.2.2.2.2.2.2.2.2.2.1, cell_on bz9 hHeld.2.2.2.2.2.2.2.2.2.2.2.2.2.2.1, cell_on bz9 hHeld.2.2.2.2.2.2.2.2.2.2.2.2.2.2.2.1, cell_on bz9 hHeld.2.2.2.2.2.2.2.2.2.2.2.2.2.2.2.2.1, also hHeld.2.2.2.2.2.2.2.2.2.2.2.2.2.2.2.2.2 bz9⟩
    clear hK Kc
    have zbz9 := bz9.size
    replace BB := also BB bz9
    replace x_a := x_a.on bz9
    replace x_b := x_b.on bz9
    replace x_c := x_c.on bz9
    replace x1 := x1.below bz9
    replace x_r := x_r.on bz9
    replace x2 := x2.below bz9
    replace x3 := x3.below bz9
    replace x_s := x_s.on bz9
    replace q11 := q11.below bz9
    replace q12 := q12.below bz9
    replace x_x := x_x.on bz9
    replace q21 := q21.below bz9
    replace q22 := q22.below bz9
    replace q23 := q23.below bz9
    refine take_yes (i := 24) (v := ?vy24) rfl (by kernel_rfl) (by kernel_rfl) (by kernel_rfl) (fun _ _ _ h => h) (by rfl) (by assumption) ?hyy24 ?resty24
    case hyy24 => (intro w hSw; (try dsimp only at hSw); first | (go_simp; done) | (go_simp; with_reducible rfl))
    simp only [Act.put, List.setIfInBounds_toArray, List.set_cons_zero, List.set_cons_succ]
    refine take_yes (i := 25) (v := ?vy25) rfl (by kernel_rfl) (by kernel_rfl) (by kernel_rfl) (fun _ _ _ h => h) (by rfl) (by assumption) ?hyy25 ?resty25
    case hyy25 => (intro w hSw; (try dsimp only at hSw); first | (go_simp; done) | (go_simp; with_reducible rfl))
    simp only [Act.put, List.setIfInBounds_toArray, List.set_cons_zero, List.set_cons_succ]
    refine wpAnyH_done (by kernel_rfl) ?_ _
    go_wp2
    go_ret
    exact ⟨rfl, BB⟩
end Go.Proofs.YtcaihoomcdbfnaaGreat
