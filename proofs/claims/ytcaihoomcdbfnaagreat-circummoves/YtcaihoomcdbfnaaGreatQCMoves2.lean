/-
  Joined texts of this law, part 2:
  CircumMoves' walk, of what circum's functions answer.
-/
import Derived.Test.YtcaihoomcdbfnaaGreatQCMoves1
import Derived.Deep.RegionHeld3
namespace Go.Proofs.YtcaihoomcdbfnaaGreat
open Go.RowKit
set_option linter.unusedVariables false

theorem b6_row {w : World} {b : Nat} {x0 x1 x2 x3 x4 x5 : Value} (h : Row w b [x0, x1, x2, x3, x4, x5]) : B6 w b x0 x1 x2 x3 x4 x5 := ⟨(h 0 _ rfl).1, (h 1 _ rfl).1, (h 2 _ rfl).1, (h 3 _ rfl).1, (h 4 _ rfl).1, (h 5 _ rfl).1, (h 0 _ rfl).2, (h 1 _ rfl).2, (h 2 _ rfl).2, (h 3 _ rfl).2, (h 4 _ rfl).2, (h 5 _ rfl).2⟩
theorem row_b6 {w : World} {b : Nat} {x0 x1 x2 x3 x4 x5 : Value} (h : B6 w b x0 x1 x2 x3 x4 x5) : Row w b [x0, x1, x2, x3, x4, x5] := fun j v hj => match j, hj with
  | 0, hj => by cases hj; exact ⟨h.c0, h.f0⟩
  | 1, hj => by cases hj; exact ⟨h.c1, h.f1⟩
  | 2, hj => by cases hj; exact ⟨h.c2, h.f2⟩
  | 3, hj => by cases hj; exact ⟨h.c3, h.f3⟩
  | 4, hj => by cases hj; exact ⟨h.c4, h.f4⟩
  | 5, hj => by cases hj; exact ⟨h.c5, h.f5⟩
  | k + 6, hj => by simp at hj
theorem cen_low_movedY {a1 a2 b1 b2 c1 c2 s t : Int} (h0 : areaP a1 a2 b1 b2 c1 c2 ≠ 0) {N : Int} {D : Nat} (hN : N = lowN (cenY a1 a2 b1 b2 c1 c2 * (2 * areaP a1 a2 b1 b2 c1 c2).sign) (2 * areaP a1 a2 b1 b2 c1 c2).natAbs) (hD : D = lowD (cenY a1 a2 b1 b2 c1 c2 * (2 * areaP a1 a2 b1 b2 c1 c2).sign) (2 * areaP a1 a2 b1 b2 c1 c2).natAbs) :
    lowN (cenY (a1 + s) (a2 + t) (b1 + s) (b2 + t) (c1 + s) (c2 + t) * (2 * areaP (a1 + s) (a2 + t) (b1 + s) (b2 + t) (c1 + s) (c2 + t)).sign) (2 * areaP (a1 + s) (a2 + t) (b1 + s) (b2 + t) (c1 + s) (c2 + t)).natAbs = lowN (N * ((1 : Nat) : Int) + t * (D : Int)) (D * 1) ∧
    lowD (cenY (a1 + s) (a2 + t) (b1 + s) (b2 + t) (c1 + s) (c2 + t) * (2 * areaP (a1 + s) (a2 + t) (b1 + s) (b2 + t) (c1 + s) (c2 + t)).sign) (2 * areaP (a1 + s) (a2 + t) (b1 + s) (b2 + t) (c1 + s) (c2 + t)).natAbs = lowD (N * ((1 : Nat) : Int) + t * (D : Int)) (D * 1) := by
  rw [(cen_moved a1 a2 b1 b2 c1 c2 s t).2.1, area_moved]
  have hT : 2 * areaP a1 a2 b1 b2 c1 c2 ≠ 0 := by omega
  generalize 2 * areaP a1 a2 b1 b2 c1 c2 = T at *
  have ht : 0 < T.natAbs := by omega
  have hDp : 0 < D := by rw [hD]; exact lowD_pos ht
  have f : fe N D (cenY a1 a2 b1 b2 c1 c2 * T.sign) T.natAbs := by rw [hN, hD]; exact fe_low ht
  refine low_uniq ht (by omega) ?_
  unfold fe at *
  rw [abs_sgn] at *
  simp only [Nat.mul_one, Int.natCast_one, Int.mul_one]
  grind
theorem rad_size {a1 a2 b1 b2 c1 c2 : Int} (ha : canC a1 a2 = true) (hb : canC b1 b2 = true) (hc : canC c1 c2 = true) : (rad2 a1 a2 b1 b2 c1 c2).natAbs < 4294967296 ^ 10 ∧ (2 * areaP a1 a2 b1 b2 c1 c2).natAbs * (2 * areaP a1 a2 b1 b2 c1 c2).natAbs < 4294967296 ^ 10 := by
  have w1 := dist_wide ha hb
  have w2 := dist_wide hc ha
  have w3 := dist_wide hb hc
  have w4 := area_wide ha hb hc
  have k1 : (distP a1 a2 b1 b2).natAbs ≤ 10000000000000000000000000 := by omega
  have k2 : (distP c1 c2 a1 a2).natAbs ≤ 10000000000000000000000000 := by omega
  have k3 : (distP b1 b2 c1 c2).natAbs ≤ 10000000000000000000000000 := by omega
  have k4 : (2 * areaP a1 a2 b1 b2 c1 c2).natAbs ≤ 20000000000000000000000000 := by omega
  exact ⟨Nat.lt_of_le_of_lt (prod_abs (prod_abs k1 k2) k3) (by decide), Nat.lt_of_le_of_lt (Nat.mul_le_mul k4 k4) (by decide)⟩
set_option maxRecDepth 100000 in
set_option maxHeartbeats 8000000 in
theorem moves_of (HC : CenSpec) (HR : RadSpec) (HS : SmlSpec) (a1 a2 : Int) (ha1_1 : -9223372036854775808 ≤ a1) (ha1_2 : a1 ≤ 9223372036854775807) (ha2_1 : -9223372036854775808 ≤ a2) (ha2_2 : a2 ≤ 9223372036854775807) (b1 b2 : Int) (hb1_1 : -9223372036854775808 ≤ b1) (hb1_2 : b1 ≤ 9223372036854775807) (hb2_1 : -9223372036854775808 ≤ b2) (hb2_2 : b2 ≤ 9223372036854775807) (c1 c2 : Int) (hc1_1 : -9223372036854775808 ≤ c1) (hc1_2 : c1 ≤ 9223372036854775807) (hc2_1 : -9223372036854775808 ≤ c2) (hc2_2 : c2 ≤ 9223372036854775807) (s1 s2 : Int) (hs1_1 : -9223372036854775808 ≤ s1) (hs1_2 : s1 ≤ 9223372036854775807) (hs2_1 : -9223372036854775808 ≤ s2) (hs2_2 : s2 ≤ 9223372036854775807) (w : World) :
    Calls Tryz.prog 6 #[.agg #[.int .i64 a1, .int .i64 a2, .int .i64 b1, .int .i64 b2, .int .i64 c1, .int .i64 c2], .agg #[.int .i64 s1, .int .i64 s2]] w fun e w' => e = .returned (.bool true) ∧ Below w.heap.size w w' := by
  have Ra : Hid (R2 (a1, a2)) := ⟨⟨ha1_1, ha1_2⟩, ⟨ha2_1, ha2_2⟩⟩
  have Rb : Hid (R2 (b1, b2)) := ⟨⟨hb1_1, hb1_2⟩, ⟨hb2_1, hb2_2⟩⟩
  have Rc : Hid (R2 (c1, c2)) := ⟨⟨hc1_1, hc1_2⟩, ⟨hc2_1, hc2_2⟩⟩
  have Rs : Hid (R2 (s1, s2)) := ⟨⟨hs1_1, hs1_2⟩, ⟨hs2_1, hs2_2⟩⟩
  clear ha1_1 ha1_2 ha2_1 ha2_2 hb1_1 hb1_2 hb2_1 hb2_2 hc1_1 hc1_2 hc2_1 hc2_2 hs1_1 hs1_2 hs2_1 hs2_2
  have hC : Hid _ := HC
  have hL : Hid (∀ w, Calls Tryz.prog 11 #[] w fun e w' => e = .returned (.bool true) ∧ Below w.heap.size w w') := lives9_of HR HS
  have hR : Hid _ := HR
  clear HC HR HS
  cases hs : canC s1 s2
  · skip
    obtain ⟨W, hW, bW, x_t, x_s, sW⟩ := bs_62 w (.int .i64 a1) (.int .i64 a2) (.int .i64 b1) (.int .i64 b2) (.int .i64 c1) (.int .i64 c2) (.int .i64 s1) (.int .i64 s2) 53 23
    have zbW := bW.size
    have BB := bW
    go_enter Tryz.func6, Tryz.ntmps6
    go_wp2_with (go_at_call 20; fail)
    rw [← hW]
    clear hW
    refine (rlCan s1 s2 W (r2x Rs.out) (r2y Rs.out) hs.symm).mono ?_
    rintro e w1 ⟨rfl, bw1⟩
    have zbw1 := bw1.size
    replace BB := also BB bw1
    replace x_t := x_t.on bw1
    replace x_s := x_s.on bw1
    have ⟨x_t_0, x_t_1, x_t_2, x_t_3, x_t_4, x_t_5, x_t_6, x_t_7, x_t_8, x_t_9, x_t_10, x_t_11⟩ := x_t
    have ⟨x_s_0, x_s_1, x_s_2, x_s_3⟩ := x_s
    go_wp2_with (go_at_call 11; fail)
    refine (hL.out w1).mono ?_
    rintro e z9 ⟨rfl, bz9⟩
    clear x_t_0 x_t_1 x_t_2 x_t_3 x_t_4 x_t_5 x_t_6 x_t_7 x_t_8 x_t_9 x_t_10 x_t_11 x_s_0 x_s_1 x_s_2 x_s_3
    have zbz9 := bz9.size
    replace BB := also BB bz9
    replace x_t := x_t.on bz9
    replace x_s := x_s.on bz9
    go_wp2
    go_ret
    exact ⟨rfl, BB⟩
  · cases hh : hasP a1 a2 b1 b2 c1 c2
    · skip
      obtain ⟨W, hW, bW, x_t, x_s, sW⟩ := bs_62 w (.int .i64 a1) (.int .i64 a2) (.int .i64 b1) (.int .i64 b2) (.int .i64 c1) (.int .i64 c2) (.int .i64 s1) (.int .i64 s2) 53 23
      have zbW := bW.size
      have BB := bW
      go_enter Tryz.func6, Tryz.ntmps6
      go_wp2_with (go_at_call 20; fail)
      rw [← hW]
      clear hW
      refine (rlCan s1 s2 W (r2x Rs.out) (r2y Rs.out) hs.symm).mono ?_
      rintro e w1 ⟨rfl, bw1⟩
      have zbw1 := bw1.size
      replace BB := also BB bw1
      replace x_t := x_t.on bw1
      replace x_s := x_s.on bw1
      have ⟨x_t_0, x_t_1, x_t_2, x_t_3, x_t_4, x_t_5, x_t_6, x_t_7, x_t_8, x_t_9, x_t_10, x_t_11⟩ := x_t
      have ⟨x_s_0, x_s_1, x_s_2, x_s_3⟩ := x_s
      go_wp2_with (go_at_call 8; fail)
      refine (rcHas a1 a2 b1 b2 c1 c2 w1 Ra Rb Rc hh.symm).mono ?_
      rintro e w2 ⟨rfl, bw2⟩
      clear x_t_0 x_t_1 x_t_2 x_t_3 x_t_4 x_t_5 x_t_6 x_t_7 x_t_8 x_t_9 x_t_10 x_t_11 x_s_0 x_s_1 x_s_2 x_s_3
      have zbw2 := bw2.size
      replace BB := also BB bw2
      replace x_t := x_t.on bw2
      replace x_s := x_s.on bw2
      go_wp2_with (go_at_call 11; fail)
      refine (hL.out w2).mono ?_
      rintro e z9 ⟨rfl, bz9⟩
      have zbz9 := bz9.size
      replace BB := also BB bz9
      replace x_t := x_t.on bz9
      replace x_s := x_s.on bz9
      go_wp2
      go_ret
      exact ⟨rfl, BB⟩
    · skip
      obtain ⟨ha, hb, hc, hq0⟩ := has_yes.1 hh
      have HQ0 : Hid _ := hq0
      clear hq0
      obtain ⟨W, hW, bW, x_t, x_s, sW⟩ := bs_62 w (.int .i64 a1) (.int .i64 a2) (.int .i64 b1) (.int .i64 b2) (.int .i64 c1) (.int .i64 c2) (.int .i64 s1) (.int .i64 s2) 53 23
      have zbW := bW.size
      have BB := bW
      go_enter Tryz.func6, Tryz.ntmps6
      go_wp2_with (go_at_call 20; fail)
      rw [← hW]
      clear hW
      refine (rlCan s1 s2 W (r2x Rs.out) (r2y Rs.out) hs.symm).mono ?_
      rintro e w1 ⟨rfl, bw1⟩
      have zbw1 := bw1.size
      replace BB := also BB bw1
      replace x_t := x_t.on bw1
      replace x_s := x_s.on bw1
      have ⟨x_t_0, x_t_1, x_t_2, x_t_3, x_t_4, x_t_5, x_t_6, x_t_7, x_t_8, x_t_9, x_t_10, x_t_11⟩ := x_t
      have ⟨x_s_0, x_s_1, x_s_2, x_s_3⟩ := x_s
      go_wp2_with (go_at_call 8; fail)
      refine (rcHas a1 a2 b1 b2 c1 c2 w1 Ra Rb Rc hh.symm).mono ?_
      rintro e w2 ⟨rfl, bw2⟩
      clear x_t_0 x_t_1 x_t_2 x_t_3 x_t_4 x_t_5 x_t_6 x_t_7 x_t_8 x_t_9 x_t_10 x_t_11 x_s_0 x_s_1 x_s_2 x_s_3
      have zbw2 := bw2.size
      replace BB := also BB bw2
      replace x_t := x_t.on bw2
      replace x_s := x_s.on bw2
      have lb := bx_lt x_s
      have ⟨x_t_0, x_t_1, x_t_2, x_t_3, x_t_4, x_t_5, x_t_6, x_t_7, x_t_8, x_t_9, x_t_10, x_t_11⟩ := x_t
      obtain ⟨V, hV, bV, x_l, sV⟩ := bs_6 w2 (.int .i64 a1) (.int .i64 a2) (.int .i64 b1) (.int .i64 b2) (.int .i64 c1) (.int .i64 c2) 53
      have zbV := bV.size
      replace BB := also BB bV
      replace x_t := x_t.on bV
      replace x_s := x_s.on bV
      go_wp2
      rw [← hV]
      clear hV
      go_loopw [6] (fun iv wr => ((iv = .int .i64 0 ∧ Hid (True) ∧ B6 wr (w2.heap.size) (.int .i64 a1) (.int .i64 a2) (.int .i64 b1) (.int .i64 b2) (.int .i64 c1) (.int .i64 c2)) ∨ (iv = .int .i64 1 ∧ Hid (True ∧ canC (a1 + s1) (a2 + s2) = true) ∧ B6 wr (w2.heap.size) (.int .i64 (a1 + s1)) (.int .i64 (a2 + s2)) (.int .i64 b1) (.int .i64 b2) (.int .i64 c1) (.int .i64 c2)) ∨ (iv = .int .i64 2 ∧ Hid (True ∧ canC (a1 + s1) (a2 + s2) = true ∧ canC (b1 + s1) (b2 + s2) = true) ∧ B6 wr (w2.heap.size) (.int .i64 (a1 + s1)) (.int .i64 (a2 + s2)) (.int .i64 (b1 + s1)) (.int .i64 (b2 + s2)) (.int .i64 c1) (.int .i64 c2)) ∨ (iv = .int .i64 3 ∧ Hid (True ∧ canC (a1 + s1) (a2 + s2) = true ∧ canC (b1 + s1) (b2 + s2) = true ∧ canC (c1 + s1) (c2 + s2) = true) ∧ B6 wr (w2.heap.size) (.int .i64 (a1 + s1)) (.int .i64 (a2 + s2)) (.int .i64 (b1 + s1)) (.int .i64 (b2 + s2)) (.int .i64 (c1 + s1)) (.int .i64 (c2 + s2)))) ∧ B6 wr (w.heap.size) (.int .i64 a1) (.int .i64 a2) (.int .i64 b1) (.int .i64 b2) (.int .i64 c1) (.int .i64 c2) ∧ Bx wr (w.heap.size + 1) (.int .i64 s1) (.int .i64 s2) ∧ Below w.heap.size w wr) (fun iv _ => 3 - (intOf iv).toNat)
      case atStart => exact ⟨Or.inl ⟨rfl, trivial, x_l⟩, x_t, x_s, BB⟩
      case round =>
        clear x_l x_t x_s BB
        obtain ⟨hki, x_t, x_s, BB⟩ := hrel
        rcases hki with ⟨rfl, HK, x_l⟩ | ⟨rfl, HK, x_l⟩ | ⟨rfl, HK, x_l⟩ | ⟨rfl, HK, x_l⟩
        · have zs := bx_lt x_s
          have zl := b6_lt x_l
          cases hm : canC (a1 + s1) (a2 + s2)
          · skip
            obtain ⟨u, hu⟩ : ∃ z, z = a1 + s1 := ⟨_, rfl⟩
            have ru := inC_true.1 (canC_true.1 ha).1
            have qu := inC_true.1 (canC_true.1 hs).1
            have wu : wrap64 (a1 + s1) = u := by rw [hu]; exact wrap_in (by omega) (by omega)
            have vu : IntKind.i64.wrap (a1 + s1) = u := (wrap_i64 _).trans wu
            have Ru : R64 u := ⟨by omega, by omega⟩
            clear ru qu
            rw [← hu] at hm
            have Eu : Hid _ := hu
            clear hu
            obtain ⟨v, hv⟩ : ∃ z, z = a2 + s2 := ⟨_, rfl⟩
            have rv := inC_true.1 (canC_true.1 ha).2
            have qv := inC_true.1 (canC_true.1 hs).2
            have wv : wrap64 (a2 + s2) = v := by rw [hv]; exact wrap_in (by omega) (by omega)
            have vv : IntKind.i64.wrap (a2 + s2) = v := (wrap_i64 _).trans wv
            have Rv : R64 v := ⟨by omega, by omega⟩
            clear rv qv
            rw [← hv] at hm
            have Ev : Hid _ := hv
            clear hv
            have RU : Hid (R2 (u, v)) := ⟨Ru, Rv⟩
            clear Ru Rv
            have HM : Hid _ := hm.symm
            clear hm
            have y_t := x_t
            have y_s := x_s
            have y_l := x_l
            have B2 := BB
            go_wp2
            have dd1 : Below wr.heap.size wr wr.drew := (Below.refl _ _).drew
            have zdd1 := dd1.size
            replace x_t := x_t.on dd1
            replace x_s := x_s.on dd1
            replace x_l := x_l.on dd1
            replace BB := also BB dd1
            refine regionL 17 (S := (fun w' => w'.cell? ⟨w.heap.size, 0, none⟩ = some (.int .i64 a1) ∧ w'.cell? ⟨w.heap.size, 1, none⟩ = some (.int .i64 a2) ∧ w'.cell? ⟨w.heap.size, 2, none⟩ = some (.int .i64 b1) ∧ w'.cell? ⟨w.heap.size, 3, none⟩ = some (.int .i64 b2) ∧ w'.cell? ⟨w.heap.size, 4, none⟩ = some (.int .i64 c1) ∧ w'.cell? ⟨w.heap.size, 5, none⟩ = some (.int .i64 c2) ∧ w'.cell? ⟨w.heap.size + 1, 0, none⟩ = some (.int .i64 s1) ∧ w'.cell? ⟨w.heap.size + 1, 1, none⟩ = some (.int .i64 s2) ∧ Below w.heap.size w w')) (by kernel_rfl) ?_ (fun hHeld => ?_)
            · exact ⟨x_t.c0, x_t.c1, x_t.c2, x_t.c3, x_t.c4, x_t.c5, x_s.c0, x_s.c1, BB⟩
            refine takeL_yes (i := 0) (v := ?vs000) rfl (by kernel_rfl) (by kernel_rfl) (by kernel_rfl) (by kernel_rfl) (by decide) (fun _ _ _ h => h) (by rfl) (by assumption) ?hys000 ?rests000
            case hys000 => (intro w hSw; (try dsimp only at hSw); first | (go_simp; done) | (go_simp; with_reducible rfl))
            simp only [Act.put, List.setIfInBounds_toArray, List.set_cons_zero, List.set_cons_succ]
            refine takeL_yes (i := 1) (v := ?vs001) rfl (by kernel_rfl) (by kernel_rfl) (by kernel_rfl) (by kernel_rfl) (by decide) (fun _ _ _ h => h) (by rfl) (by assumption) ?hys001 ?rests001
            case hys001 => (intro w hSw; (try dsimp only at hSw); first | (go_simp; done) | (go_simp; with_reducible rfl))
            simp only [Act.put, List.setIfInBounds_toArray, List.set_cons_zero, List.set_cons_succ]
            refine takeL_yes (i := 2) (v := ?vs002) rfl (by kernel_rfl) (by kernel_rfl) (by kernel_rfl) (by kernel_rfl) (by decide) (fun _ _ _ h => h) (by rfl) (by assumption) ?hys002 ?rests002
            case hys002 => (intro w hSw; (try dsimp only at hSw); first | (go_simp; done) | (go_simp; with_reducible rfl))
            simp only [Act.put, List.setIfInBounds_toArray, List.set_cons_zero, List.set_cons_succ]
            refine takeL_yes (i := 3) (v := ?vs003) rfl (by kernel_rfl) (by kernel_rfl) (by kernel_rfl) (by kernel_rfl) (by decide) (fun _ _ _ h => h) (by rfl) (by assumption) ?hys003 ?rests003
            case hys003 => (intro w hSw; (try dsimp only at hSw); first | (go_simp; done) | (go_simp; with_reducible rfl))
            simp only [Act.put, List.setIfInBounds_toArray, List.set_cons_zero, List.set_cons_succ]
            refine takeL_yes (i := 4) (v := ?vs004) rfl (by kernel_rfl) (by kernel_rfl) (by kernel_rfl) (by kernel_rfl) (by decide) (fun _ _ _ h => h) (by rfl) (by assumption) ?hys004 ?rests004
            case hys004 => (intro w hSw; (try dsimp only at hSw); first | (go_simp; done) | (go_simp; with_reducible rfl))
            simp only [Act.put, List.setIfInBounds_toArray, List.set_cons_zero, List.set_cons_succ]
            refine takeL_yes (i := 5) (v := ?vs005) rfl (by kernel_rfl) (by kernel_rfl) (by kernel_rfl) (by kernel_rfl) (by decide) (fun _ _ _ h => h) (by rfl) (by assumption) ?hys005 ?rests005
            case hys005 => (intro w hSw; (try dsimp only at hSw); first | (go_simp; done) | (go_simp; with_reducible rfl))
            simp only [Act.put, List.setIfInBounds_toArray, List.set_cons_zero, List.set_cons_succ]
            refine takeL_yes (i := 6) (v := ?vs006) rfl (by kernel_rfl) (by kernel_rfl) (by kernel_rfl) (by kernel_rfl) (by decide) (fun _ _ _ h => h) (by rfl) (by assumption) ?hys006 ?rests006
            case hys006 => (intro w hSw; (try dsimp only at hSw); first | (go_simp; done) | (go_simp; with_reducible rfl))
            simp only [Act.put, List.setIfInBounds_toArray, List.set_cons_zero, List.set_cons_succ]
            refine takeL_yes (i := 7) (v := ?vs007) rfl (by kernel_rfl) (by kernel_rfl) (by kernel_rfl) (by kernel_rfl) (by decide) (fun _ _ _ h => h) (by rfl) (by assumption) ?hys007 ?rests007
            case hys007 => (intro w hSw; (try dsimp only at hSw); first | (go_simp; done) | (go_simp; with_reducible rfl))
            simp only [Act.put, List.setIfInBounds_toArray, List.set_cons_zero, List.set_cons_succ]
            refine takeL_yes (i := 8) (v := ?vs008) rfl (by kernel_rfl) (by kernel_rfl) (by kernel_rfl) (by kernel_rfl) (by decide) (fun _ _ _ h => h) (by rfl) (by assumption) ?hys008 ?rests008
            case hys008 => (intro w hSw; (try dsimp only at hSw); first | (go_simp; done) | (go_simp; with_reducible rfl))
            simp only [Act.put, List.setIfInBounds_toArray, List.set_cons_zero, List.set_cons_succ]
            refine takeL_yes (i := 9) (v := ?vs009) rfl (by kernel_rfl) (by kernel_rfl) (by kernel_rfl) (by kernel_rfl) (by decide) (fun _ _ _ h => h) (by rfl) (by assumption) ?hys009 ?rests009
            case hys009 => (intro w hSw; (try dsimp only at hSw); first | (go_simp; done) | (go_simp; with_reducible rfl))
            simp only [Act.put, List.setIfInBounds_toArray, List.set_cons_zero, List.set_cons_succ]
            refine takeL_yes (i := 10) (v := ?vs0010) rfl (by kernel_rfl) (by kernel_rfl) (by kernel_rfl) (by kernel_rfl) (by decide) (fun _ _ _ h => h) (by rfl) (by assumption) ?hys0010 ?rests0010
            case hys0010 => (intro w hSw; (try dsimp only at hSw); first | (go_simp; done) | (go_simp; with_reducible rfl))
            simp only [Act.put, List.setIfInBounds_toArray, List.set_cons_zero, List.set_cons_succ]
            refine takeL_yes (i := 11) (v := ?vs0011) rfl (by kernel_rfl) (by kernel_rfl) (by kernel_rfl) (by kernel_rfl) (by decide) (fun _ _ _ h => h) (by rfl) (by assumption) ?hys0011 ?rests0011
            case hys0011 => (intro w hSw; (try dsimp only at hSw); first | (go_simp; done) | (go_simp; with_reducible rfl))
            simp only [Act.put, List.setIfInBounds_toArray, List.set_cons_zero, List.set_cons_succ]
            refine takeL_yes (i := 12) (v := ?vs0012) rfl (by kernel_rfl) (by kernel_rfl) (by kernel_rfl) (by kernel_rfl) (by decide) (fun _ _ _ h => h) (by rfl) (by assumption) ?hys0012 ?rests0012
            case hys0012 => (intro w hSw; (try dsimp only at hSw); first | (go_simp; done) | (go_simp; with_reducible rfl))
            simp only [Act.put, List.setIfInBounds_toArray, List.set_cons_zero, List.set_cons_succ]
            refine takeL_yes (i := 13) (v := ?vs0013) rfl (by kernel_rfl) (by kernel_rfl) (by kernel_rfl) (by kernel_rfl) (by decide) (fun _ _ _ h => h) (by rfl) (by assumption) ?hys0013 ?rests0013
            case hys0013 => (intro w hSw; (try dsimp only at hSw); first | (go_simp; done) | (go_simp; with_reducible rfl))
            simp only [Act.put, List.setIfInBounds_toArray, List.set_cons_zero, List.set_cons_succ]
            refine takeL_yes (i := 14) (v := ?vs0014) rfl (by kernel_rfl) (by kernel_rfl) (by kernel_rfl) (by kernel_rfl) (by decide) (fun _ _ _ h => h) (by rfl) (by assumption) ?hys0014 ?rests0014
            case hys0014 => (intro w hSw; (try dsimp only at hSw); first | (go_simp; done) | (go_simp; with_reducible rfl))
            simp only [Act.put, List.setIfInBounds_toArray, List.set_cons_zero, List.set_cons_succ]
            refine takeL_yes (i := 15) (v := ?vs0015) rfl (by kernel_rfl) (by kernel_rfl) (by kernel_rfl) (by kernel_rfl) (by decide) (fun _ _ _ h => h) (by rfl) (by assumption) ?hys0015 ?rests0015
            case hys0015 => (intro w hSw; (try dsimp only at hSw); first | (go_simp; done) | (go_simp; with_reducible rfl))
            simp only [Act.put, List.setIfInBounds_toArray, List.set_cons_zero, List.set_cons_succ]
            refine takeL_yes (i := 16) (v := ?vs0016) rfl (by kernel_rfl) (by kernel_rfl) (by kernel_rfl) (by kernel_rfl) (by decide) (fun _ _ _ h => h) (by rfl) (by assumption) ?hys0016 ?rests0016
            case hys0016 => (intro w hSw; (try dsimp only at hSw); first | (go_simp; done) | (go_simp; with_reducible rfl))
            simp only [Act.put, List.setIfInBounds_toArray, List.set_cons_zero, List.set_cons_succ]
            have x_l_0 : wr.cell? ⟨w2.heap.size, 0, none⟩ = some (.int .i64 a1) := x_l.c0
            have x_l_1 : wr.cell? ⟨w2.heap.size, 1, none⟩ = some (.int .i64 a2) := x_l.c1
            have x_l_2 : wr.cell? ⟨w2.heap.size, 2, none⟩ = some (.int .i64 b1) := x_l.c2
            have x_l_3 : wr.cell? ⟨w2.heap.size, 3, none⟩ = some (.int .i64 b2) := x_l.c3
            have x_l_4 : wr.cell? ⟨w2.heap.size, 4, none⟩ = some (.int .i64 c1) := x_l.c4
            have x_l_5 : wr.cell? ⟨w2.heap.size, 5, none⟩ = some (.int .i64 c2) := x_l.c5
            have x_l_6 : wr.frozen? ⟨w2.heap.size, 0, none⟩ = false := x_l.f0
            have x_l_7 : wr.frozen? ⟨w2.heap.size, 1, none⟩ = false := x_l.f1
            have x_l_8 : wr.frozen? ⟨w2.heap.size, 2, none⟩ = false := x_l.f2
            have x_l_9 : wr.frozen? ⟨w2.heap.size, 3, none⟩ = false := x_l.f3
            have x_l_10 : wr.frozen? ⟨w2.heap.size, 4, none⟩ = false := x_l.f4
            have x_l_11 : wr.frozen? ⟨w2.heap.size, 5, none⟩ = false := x_l.f5
            refine takeL_last rfl (by kernel_rfl) (fun Kc hK => ?_)
            go_simp
            refine hK.out _ _ ?_
            clear hK Kc
            refine anyL_done (by kernel_rfl) ?_ _
            obtain ⟨Z, hZ⟩ : ∃ Z, Z = ((wr.setCell ⟨w2.heap.size, 0, none⟩ (.int .i64 u)).setCell ⟨w2.heap.size, 1, none⟩ (.int .i64 v)).drew := ⟨_, rfl⟩
            replace x_l : B6 Z (w2.heap.size) (.int .i64 u) (.int .i64 v) (.int .i64 b1) (.int .i64 b2) (.int .i64 c1) (.int .i64 c2) := by rw [hZ]; exact (b6_row (((row_b6 y_l).set 0 (.int .i64 u) (by simp)).set 1 (.int .i64 v) (by simp))).drew
            replace x_t : B6 Z (w.heap.size) (.int .i64 a1) (.int .i64 a2) (.int .i64 b1) (.int .i64 b2) (.int .i64 c1) (.int .i64 c2) := by rw [hZ]; exact ((y_t.put (by omega)).put (by omega)).drew
            replace x_s : Bx Z (w.heap.size + 1) (.int .i64 s1) (.int .i64 s2) := by rw [hZ]; exact ((y_s.put (by omega)).put (by omega)).drew
            replace BB : Below w.heap.size w Z := by rw [hZ]; exact ((B2.setCell (by show w.heap.size ≤ w2.heap.size; omega) _).setCell (by show w.heap.size ≤ w2.heap.size; omega) _).drew
            rw [← hZ]
            clear hZ y_t y_s y_l B2
            have ⟨x_l_0, x_l_1, x_l_2, x_l_3, x_l_4, x_l_5, x_l_6, x_l_7, x_l_8, x_l_9, x_l_10, x_l_11⟩ := x_l
            go_wp2_with (go_at_call 20; fail)
            refine (rlCan u v Z (r2x RU.out) (r2y RU.out) HM.out).mono ?_
            rintro e w4 ⟨rfl, bw4⟩
            clear x_l_0 x_l_1 x_l_2 x_l_3 x_l_4 x_l_5 x_l_6 x_l_7 x_l_8 x_l_9 x_l_10 x_l_11
            have zbw4 := bw4.size
            replace x_t := x_t.on bw4
            replace x_s := x_s.on bw4
            replace x_l := x_l.on bw4
            replace BB := also BB bw4
            go_wp2_with (go_at_call 11; fail)
            refine (hL.out w4).mono ?_
            rintro e z9 ⟨rfl, bz9⟩
            have zbz9 := bz9.size
            replace x_t := x_t.on bz9
            replace x_s := x_s.on bz9
            replace x_l := x_l.on bz9
            replace BB := also BB bz9
            go_wp2
            go_ret
            exact ⟨rfl, BB⟩
          · skip
            obtain ⟨u, hu⟩ : ∃ z, z = a1 + s1 := ⟨_, rfl⟩
            have ru := inC_true.1 (canC_true.1 ha).1
            have qu := inC_true.1 (canC_true.1 hs).1
            have wu : wrap64 (a1 + s1) = u := by rw [hu]; exact wrap_in (by omega) (by omega)
            have vu : IntKind.i64.wrap (a1 + s1) = u := (wrap_i64 _).trans wu
            have Ru : R64 u := ⟨by omega, by omega⟩
            clear ru qu
            rw [← hu] at hm
            have Eu : Hid _ := hu
            clear hu
            obtain ⟨v, hv⟩ : ∃ z, z = a2 + s2 := ⟨_, rfl⟩
            have rv := inC_true.1 (canC_true.1 ha).2
            have qv := inC_true.1 (canC_true.1 hs).2
            have wv : wrap64 (a2 + s2) = v := by rw [hv]; exact wrap_in (by omega) (by omega)
            have vv : IntKind.i64.wrap (a2 + s2) = v := (wrap_i64 _).trans wv
            have Rv : R64 v := ⟨by omega, by omega⟩
            clear rv qv
            rw [← hv] at hm
            have Ev : Hid _ := hv
            clear hv
            have RU : Hid (R2 (u, v)) := ⟨Ru, Rv⟩
            clear Ru Rv
            have HM : Hid _ := hm.symm
            clear hm
            have y_t := x_t
            have y_s := x_s
            have y_l := x_l
            have B2 := BB
            go_wp2
            have dd1 : Below wr.heap.size wr wr.drew := (Below.refl _ _).drew
            have zdd1 := dd1.size
            replace x_t := x_t.on dd1
            replace x_s := x_s.on dd1
            replace x_l := x_l.on dd1
            replace BB := also BB dd1
            refine regionL 17 (S := (fun w' => w'.cell? ⟨w.heap.size, 0, none⟩ = some (.int .i64 a1) ∧ w'.cell? ⟨w.heap.size, 1, none⟩ = some (.int .i64 a2) ∧ w'.cell? ⟨w.heap.size, 2, none⟩ = some (.int .i64 b1) ∧ w'.cell? ⟨w.heap.size, 3, none⟩ = some (.int .i64 b2) ∧ w'.cell? ⟨w.heap.size, 4, none⟩ = some (.int .i64 c1) ∧ w'.cell? ⟨w.heap.size, 5, none⟩ = some (.int .i64 c2) ∧ w'.cell? ⟨w.heap.size + 1, 0, none⟩ = some (.int .i64 s1) ∧ w'.cell? ⟨w.heap.size + 1, 1, none⟩ = some (.int .i64 s2) ∧ Below w.heap.size w w')) (by kernel_rfl) ?_ (fun hHeld => ?_)
            · exact ⟨x_t.c0, x_t.c1, x_t.c2, x_t.c3, x_t.c4, x_t.c5, x_s.c0, x_s.c1, BB⟩
            refine takeL_yes (i := 0) (v := ?vs010) rfl (by kernel_rfl) (by kernel_rfl) (by kernel_rfl) (by kernel_rfl) (by decide) (fun _ _ _ h => h) (by rfl) (by assumption) ?hys010 ?rests010
            case hys010 => (intro w hSw; (try dsimp only at hSw); first | (go_simp; done) | (go_simp; with_reducible rfl))
            simp only [Act.put, List.setIfInBounds_toArray, List.set_cons_zero, List.set_cons_succ]
            refine takeL_yes (i := 1) (v := ?vs011) rfl (by kernel_rfl) (by kernel_rfl) (by kernel_rfl) (by kernel_rfl) (by decide) (fun _ _ _ h => h) (by rfl) (by assumption) ?hys011 ?rests011
            case hys011 => (intro w hSw; (try dsimp only at hSw); first | (go_simp; done) | (go_simp; with_reducible rfl))
            simp only [Act.put, List.setIfInBounds_toArray, List.set_cons_zero, List.set_cons_succ]
            refine takeL_yes (i := 2) (v := ?vs012) rfl (by kernel_rfl) (by kernel_rfl) (by kernel_rfl) (by kernel_rfl) (by decide) (fun _ _ _ h => h) (by rfl) (by assumption) ?hys012 ?rests012
            case hys012 => (intro w hSw; (try dsimp only at hSw); first | (go_simp; done) | (go_simp; with_reducible rfl))
            simp only [Act.put, List.setIfInBounds_toArray, List.set_cons_zero, List.set_cons_succ]
            refine takeL_yes (i := 3) (v := ?vs013) rfl (by kernel_rfl) (by kernel_rfl) (by kernel_rfl) (by kernel_rfl) (by decide) (fun _ _ _ h => h) (by rfl) (by assumption) ?hys013 ?rests013
            case hys013 => (intro w hSw; (try dsimp only at hSw); first | (go_simp; done) | (go_simp; with_reducible rfl))
            simp only [Act.put, List.setIfInBounds_toArray, List.set_cons_zero, List.set_cons_succ]
            refine takeL_yes (i := 4) (v := ?vs014) rfl (by kernel_rfl) (by kernel_rfl) (by kernel_rfl) (by kernel_rfl) (by decide) (fun _ _ _ h => h) (by rfl) (by assumption) ?hys014 ?rests014
            case hys014 => (intro w hSw; (try dsimp only at hSw); first | (go_simp; done) | (go_simp; with_reducible rfl))
            simp only [Act.put, List.setIfInBounds_toArray, List.set_cons_zero, List.set_cons_succ]
            refine takeL_yes (i := 5) (v := ?vs015) rfl (by kernel_rfl) (by kernel_rfl) (by kernel_rfl) (by kernel_rfl) (by decide) (fun _ _ _ h => h) (by rfl) (by assumption) ?hys015 ?rests015
            case hys015 => (intro w hSw; (try dsimp only at hSw); first | (go_simp; done) | (go_simp; with_reducible rfl))
            simp only [Act.put, List.setIfInBounds_toArray, List.set_cons_zero, List.set_cons_succ]
            refine takeL_yes (i := 6) (v := ?vs016) rfl (by kernel_rfl) (by kernel_rfl) (by kernel_rfl) (by kernel_rfl) (by decide) (fun _ _ _ h => h) (by rfl) (by assumption) ?hys016 ?rests016
            case hys016 => (intro w hSw; (try dsimp only at hSw); first | (go_simp; done) | (go_simp; with_reducible rfl))
            simp only [Act.put, List.setIfInBounds_toArray, List.set_cons_zero, List.set_cons_succ]
            refine takeL_yes (i := 7) (v := ?vs017) rfl (by kernel_rfl) (by kernel_rfl) (by kernel_rfl) (by kernel_rfl) (by decide) (fun _ _ _ h => h) (by rfl) (by assumption) ?hys017 ?rests017
            case hys017 => (intro w hSw; (try dsimp only at hSw); first | (go_simp; done) | (go_simp; with_reducible rfl))
            simp only [Act.put, List.setIfInBounds_toArray, List.set_cons_zero, List.set_cons_succ]
            refine takeL_yes (i := 8) (v := ?vs018) rfl (by kernel_rfl) (by kernel_rfl) (by kernel_rfl) (by kernel_rfl) (by decide) (fun _ _ _ h => h) (by rfl) (by assumption) ?hys018 ?rests018
            case hys018 => (intro w hSw; (try dsimp only at hSw); first | (go_simp; done) | (go_simp; with_reducible rfl))
            simp only [Act.put, List.setIfInBounds_toArray, List.set_cons_zero, List.set_cons_succ]
            refine takeL_yes (i := 9) (v := ?vs019) rfl (by kernel_rfl) (by kernel_rfl) (by kernel_rfl) (by kernel_rfl) (by decide) (fun _ _ _ h => h) (by rfl) (by assumption) ?hys019 ?rests019
            case hys019 => (intro w hSw; (try dsimp only at hSw); first | (go_simp; done) | (go_simp; with_reducible rfl))
            simp only [Act.put, List.setIfInBounds_toArray, List.set_cons_zero, List.set_cons_succ]
            refine takeL_yes (i := 10) (v := ?vs0110) rfl (by kernel_rfl) (by kernel_rfl) (by kernel_rfl) (by kernel_rfl) (by decide) (fun _ _ _ h => h) (by rfl) (by assumption) ?hys0110 ?rests0110
            case hys0110 => (intro w hSw; (try dsimp only at hSw); first | (go_simp; done) | (go_simp; with_reducible rfl))
            simp only [Act.put, List.setIfInBounds_toArray, List.set_cons_zero, List.set_cons_succ]
            refine takeL_yes (i := 11) (v := ?vs0111) rfl (by kernel_rfl) (by kernel_rfl) (by kernel_rfl) (by kernel_rfl) (by decide) (fun _ _ _ h => h) (by rfl) (by assumption) ?hys0111 ?rests0111
            case hys0111 => (intro w hSw; (try dsimp only at hSw); first | (go_simp; done) | (go_simp; with_reducible rfl))
            simp only [Act.put, List.setIfInBounds_toArray, List.set_cons_zero, List.set_cons_succ]
            refine takeL_yes (i := 12) (v := ?vs0112) rfl (by kernel_rfl) (by kernel_rfl) (by kernel_rfl) (by kernel_rfl) (by decide) (fun _ _ _ h => h) (by rfl) (by assumption) ?hys0112 ?rests0112
            case hys0112 => (intro w hSw; (try dsimp only at hSw); first | (go_simp; done) | (go_simp; with_reducible rfl))
            simp only [Act.put, List.setIfInBounds_toArray, List.set_cons_zero, List.set_cons_succ]
            refine takeL_yes (i := 13) (v := ?vs0113) rfl (by kernel_rfl) (by kernel_rfl) (by kernel_rfl) (by kernel_rfl) (by decide) (fun _ _ _ h => h) (by rfl) (by assumption) ?hys0113 ?rests0113
            case hys0113 => (intro w hSw; (try dsimp only at hSw); first | (go_simp; done) | (go_simp; with_reducible rfl))
            simp only [Act.put, List.setIfInBounds_toArray, List.set_cons_zero, List.set_cons_succ]
            refine takeL_yes (i := 14) (v := ?vs0114) rfl (by kernel_rfl) (by kernel_rfl) (by kernel_rfl) (by kernel_rfl) (by decide) (fun _ _ _ h => h) (by rfl) (by assumption) ?hys0114 ?rests0114
            case hys0114 => (intro w hSw; (try dsimp only at hSw); first | (go_simp; done) | (go_simp; with_reducible rfl))
            simp only [Act.put, List.setIfInBounds_toArray, List.set_cons_zero, List.set_cons_succ]
            refine takeL_yes (i := 15) (v := ?vs0115) rfl (by kernel_rfl) (by kernel_rfl) (by kernel_rfl) (by kernel_rfl) (by decide) (fun _ _ _ h => h) (by rfl) (by assumption) ?hys0115 ?rests0115
            case hys0115 => (intro w hSw; (try dsimp only at hSw); first | (go_simp; done) | (go_simp; with_reducible rfl))
            simp only [Act.put, List.setIfInBounds_toArray, List.set_cons_zero, List.set_cons_succ]
            refine takeL_yes (i := 16) (v := ?vs0116) rfl (by kernel_rfl) (by kernel_rfl) (by kernel_rfl) (by kernel_rfl) (by decide) (fun _ _ _ h => h) (by rfl) (by assumption) ?hys0116 ?rests0116
            case hys0116 => (intro w hSw; (try dsimp only at hSw); first | (go_simp; done) | (go_simp; with_reducible rfl))
            simp only [Act.put, List.setIfInBounds_toArray, List.set_cons_zero, List.set_cons_succ]
            have x_l_0 : wr.cell? ⟨w2.heap.size, 0, none⟩ = some (.int .i64 a1) := x_l.c0
            have x_l_1 : wr.cell? ⟨w2.heap.size, 1, none⟩ = some (.int .i64 a2) := x_l.c1
            have x_l_2 : wr.cell? ⟨w2.heap.size, 2, none⟩ = some (.int .i64 b1) := x_l.c2
            have x_l_3 : wr.cell? ⟨w2.heap.size, 3, none⟩ = some (.int .i64 b2) := x_l.c3
            have x_l_4 : wr.cell? ⟨w2.heap.size, 4, none⟩ = some (.int .i64 c1) := x_l.c4
            have x_l_5 : wr.cell? ⟨w2.heap.size, 5, none⟩ = some (.int .i64 c2) := x_l.c5
            have x_l_6 : wr.frozen? ⟨w2.heap.size, 0, none⟩ = false := x_l.f0
            have x_l_7 : wr.frozen? ⟨w2.heap.size, 1, none⟩ = false := x_l.f1
            have x_l_8 : wr.frozen? ⟨w2.heap.size, 2, none⟩ = false := x_l.f2
            have x_l_9 : wr.frozen? ⟨w2.heap.size, 3, none⟩ = false := x_l.f3
            have x_l_10 : wr.frozen? ⟨w2.heap.size, 4, none⟩ = false := x_l.f4
            have x_l_11 : wr.frozen? ⟨w2.heap.size, 5, none⟩ = false := x_l.f5
            refine takeL_last rfl (by kernel_rfl) (fun Kc hK => ?_)
            go_simp
            refine hK.out _ _ ?_
            clear hK Kc
            refine anyL_done (by kernel_rfl) ?_ _
            obtain ⟨Z, hZ⟩ : ∃ Z, Z = ((wr.setCell ⟨w2.heap.size, 0, none⟩ (.int .i64 u)).setCell ⟨w2.heap.size, 1, none⟩ (.int .i64 v)).drew := ⟨_, rfl⟩
            replace x_l : B6 Z (w2.heap.size) (.int .i64 u) (.int .i64 v) (.int .i64 b1) (.int .i64 b2) (.int .i64 c1) (.int .i64 c2) := by rw [hZ]; exact (b6_row (((row_b6 y_l).set 0 (.int .i64 u) (by simp)).set 1 (.int .i64 v) (by simp))).drew
            replace x_t : B6 Z (w.heap.size) (.int .i64 a1) (.int .i64 a2) (.int .i64 b1) (.int .i64 b2) (.int .i64 c1) (.int .i64 c2) := by rw [hZ]; exact ((y_t.put (by omega)).put (by omega)).drew
            replace x_s : Bx Z (w.heap.size + 1) (.int .i64 s1) (.int .i64 s2) := by rw [hZ]; exact ((y_s.put (by omega)).put (by omega)).drew
            replace BB : Below w.heap.size w Z := by rw [hZ]; exact ((B2.setCell (by show w.heap.size ≤ w2.heap.size; omega) _).setCell (by show w.heap.size ≤ w2.heap.size; omega) _).drew
            rw [← hZ]
            clear hZ y_t y_s y_l B2
            have ⟨x_l_0, x_l_1, x_l_2, x_l_3, x_l_4, x_l_5, x_l_6, x_l_7, x_l_8, x_l_9, x_l_10, x_l_11⟩ := x_l
            go_wp2_with (go_at_call 20; fail)
            refine (rlCan u v Z (r2x RU.out) (r2y RU.out) HM.out).mono ?_
            rintro e w4 ⟨rfl, bw4⟩
            clear x_l_0 x_l_1 x_l_2 x_l_3 x_l_4 x_l_5 x_l_6 x_l_7 x_l_8 x_l_9 x_l_10 x_l_11
            have zbw4 := bw4.size
            replace x_t := x_t.on bw4
            replace x_s := x_s.on bw4
            replace x_l := x_l.on bw4
            replace BB := also BB bw4
            have MK : True ∧ canC (a1 + s1) (a2 + s2) = true := ⟨trivial, (by rw [← Eu.out, ← Ev.out]; exact HM.out.symm)⟩
            have MK' : Hid _ := MK
            clear MK
            go_wp2
            rw [Eu.out, Ev.out] at x_l
            go_roundw
            case rel => exact ⟨Or.inr (Or.inl ⟨rfl, (by first | exact MK' | exact ⟨trivial, trivial⟩ | exact ⟨trivial, HK.out.2, trivial⟩ | exact ⟨trivial, HK.out.2.1, HK.out.2.2, trivial⟩), x_l⟩), x_t, x_s, BB⟩
            case measure => simp [intOf]
        · have zs := bx_lt x_s
          have zl := b6_lt x_l
          cases hm : canC (b1 + s1) (b2 + s2)
          · skip
            obtain ⟨u, hu⟩ : ∃ z, z = b1 + s1 := ⟨_, rfl⟩
            have ru := inC_true.1 (canC_true.1 hb).1
            have qu := inC_true.1 (canC_true.1 hs).1
            have wu : wrap64 (b1 + s1) = u := by rw [hu]; exact wrap_in (by omega) (by omega)
            have vu : IntKind.i64.wrap (b1 + s1) = u := (wrap_i64 _).trans wu
            have Ru : R64 u := ⟨by omega, by omega⟩
            clear ru qu
            rw [← hu] at hm
            have Eu : Hid _ := hu
            clear hu
            obtain ⟨v, hv⟩ : ∃ z, z = b2 + s2 := ⟨_, rfl⟩
            have rv := inC_true.1 (canC_true.1 hb).2
            have qv := inC_true.1 (canC_true.1 hs).2
            have wv : wrap64 (b2 + s2) = v := by rw [hv]; exact wrap_in (by omega) (by omega)
            have vv : IntKind.i64.wrap (b2 + s2) = v := (wrap_i64 _).trans wv
            have Rv : R64 v := ⟨by omega, by omega⟩
            clear rv qv
            rw [← hv] at hm
            have Ev : Hid _ := hv
            clear hv
            have RU : Hid (R2 (u, v)) := ⟨Ru, Rv⟩
            clear Ru Rv
            have HM : Hid _ := hm.symm
            clear hm
            have y_t := x_t
            have y_s := x_s
            have y_l := x_l
            have B2 := BB
            go_wp2
            have dd1 : Below wr.heap.size wr wr.drew := (Below.refl _ _).drew
            have zdd1 := dd1.size
            replace x_t := x_t.on dd1
            replace x_s := x_s.on dd1
            replace x_l := x_l.on dd1
            replace BB := also BB dd1
            refine regionL 17 (S := (fun w' => w'.cell? ⟨w.heap.size, 0, none⟩ = some (.int .i64 a1) ∧ w'.cell? ⟨w.heap.size, 1, none⟩ = some (.int .i64 a2) ∧ w'.cell? ⟨w.heap.size, 2, none⟩ = some (.int .i64 b1) ∧ w'.cell? ⟨w.heap.size, 3, none⟩ = some (.int .i64 b2) ∧ w'.cell? ⟨w.heap.size, 4, none⟩ = some (.int .i64 c1) ∧ w'.cell? ⟨w.heap.size, 5, none⟩ = some (.int .i64 c2) ∧ w'.cell? ⟨w.heap.size + 1, 0, none⟩ = some (.int .i64 s1) ∧ w'.cell? ⟨w.heap.size + 1, 1, none⟩ = some (.int .i64 s2) ∧ Below w.heap.size w w')) (by kernel_rfl) ?_ (fun hHeld => ?_)
            · exact ⟨x_t.c0, x_t.c1, x_t.c2, x_t.c3, x_t.c4, x_t.c5, x_s.c0, x_s.c1, BB⟩
            refine takeL_yes (i := 0) (v := ?vs100) rfl (by kernel_rfl) (by kernel_rfl) (by kernel_rfl) (by kernel_rfl) (by decide) (fun _ _ _ h => h) (by rfl) (by assumption) ?hys100 ?rests100
            case hys100 => (intro w hSw; (try dsimp only at hSw); first | (go_simp; done) | (go_simp; with_reducible rfl))
            simp only [Act.put, List.setIfInBounds_toArray, List.set_cons_zero, List.set_cons_succ]
            refine takeL_yes (i := 1) (v := ?vs101) rfl (by kernel_rfl) (by kernel_rfl) (by kernel_rfl) (by kernel_rfl) (by decide) (fun _ _ _ h => h) (by rfl) (by assumption) ?hys101 ?rests101
            case hys101 => (intro w hSw; (try dsimp only at hSw); first | (go_simp; done) | (go_simp; with_reducible rfl))
            simp only [Act.put, List.setIfInBounds_toArray, List.set_cons_zero, List.set_cons_succ]
            refine takeL_yes (i := 2) (v := ?vs102) rfl (by kernel_rfl) (by kernel_rfl) (by kernel_rfl) (by kernel_rfl) (by decide) (fun _ _ _ h => h) (by rfl) (by assumption) ?hys102 ?rests102
            case hys102 => (intro w hSw; (try dsimp only at hSw); first | (go_simp; done) | (go_simp; with_reducible rfl))
            simp only [Act.put, List.setIfInBounds_toArray, List.set_cons_zero, List.set_cons_succ]
            refine takeL_yes (i := 3) (v := ?vs103) rfl (by kernel_rfl) (by kernel_rfl) (by kernel_rfl) (by kernel_rfl) (by decide) (fun _ _ _ h => h) (by rfl) (by assumption) ?hys103 ?rests103
            case hys103 => (intro w hSw; (try dsimp only at hSw); first | (go_simp; done) | (go_simp; with_reducible rfl))
            simp only [Act.put, List.setIfInBounds_toArray, List.set_cons_zero, List.set_cons_succ]
            refine takeL_yes (i := 4) (v := ?vs104) rfl (by kernel_rfl) (by kernel_rfl) (by kernel_rfl) (by kernel_rfl) (by decide) (fun _ _ _ h => h) (by rfl) (by assumption) ?hys104 ?rests104
            case hys104 => (intro w hSw; (try dsimp only at hSw); first | (go_simp; done) | (go_simp; with_reducible rfl))
            simp only [Act.put, List.setIfInBounds_toArray, List.set_cons_zero, List.set_cons_succ]
            refine takeL_yes (i := 5) (v := ?vs105) rfl (by kernel_rfl) (by kernel_rfl) (by kernel_rfl) (by kernel_rfl) (by decide) (fun _ _ _ h => h) (by rfl) (by assumption) ?hys105 ?rests105
            case hys105 => (intro w hSw; (try dsimp only at hSw); first | (go_simp; done) | (go_simp; with_reducible rfl))
            simp only [Act.put, List.setIfInBounds_toArray, List.set_cons_zero, List.set_cons_succ]
            refine takeL_yes (i := 6) (v := ?vs106) rfl (by kernel_rfl) (by kernel_rfl) (by kernel_rfl) (by kernel_rfl) (by decide) (fun _ _ _ h => h) (by rfl) (by assumption) ?hys106 ?rests106
            case hys106 => (intro w hSw; (try dsimp only at hSw); first | (go_simp; done) | (go_simp; with_reducible rfl))
            simp only [Act.put, List.setIfInBounds_toArray, List.set_cons_zero, List.set_cons_succ]
            refine takeL_yes (i := 7) (v := ?vs107) rfl (by kernel_rfl) (by kernel_rfl) (by kernel_rfl) (by kernel_rfl) (by decide) (fun _ _ _ h => h) (by rfl) (by assumption) ?hys107 ?rests107
            case hys107 => (intro w hSw; (try dsimp only at hSw); first | (go_simp; done) | (go_simp; with_reducible rfl))
            simp only [Act.put, List.setIfInBounds_toArray, List.set_cons_zero, List.set_cons_succ]
            refine takeL_yes (i := 8) (v := ?vs108) rfl (by kernel_rfl) (by kernel_rfl) (by kernel_rfl) (by kernel_rfl) (by decide) (fun _ _ _ h => h) (by rfl) (by assumption) ?hys108 ?rests108
            case hys108 => (intro w hSw; (try dsimp only at hSw); first | (go_simp; done) | (go_simp; with_reducible rfl))
            simp only [Act.put, List.setIfInBounds_toArray, List.set_cons_zero, List.set_cons_succ]
            refine takeL_yes (i := 9) (v := ?vs109) rfl (by kernel_rfl) (by kernel_rfl) (by kernel_rfl) (by kernel_rfl) (by decide) (fun _ _ _ h => h) (by rfl) (by assumption) ?hys109 ?rests109
            case hys109 => (intro w hSw; (try dsimp only at hSw); first | (go_simp; done) | (go_simp; with_reducible rfl))
            simp only [Act.put, List.setIfInBounds_toArray, List.set_cons_zero, List.set_cons_succ]
            refine takeL_yes (i := 10) (v := ?vs1010) rfl (by kernel_rfl) (by kernel_rfl) (by kernel_rfl) (by kernel_rfl) (by decide) (fun _ _ _ h => h) (by rfl) (by assumption) ?hys1010 ?rests1010
            case hys1010 => (intro w hSw; (try dsimp only at hSw); first | (go_simp; done) | (go_simp; with_reducible rfl))
            simp only [Act.put, List.setIfInBounds_toArray, List.set_cons_zero, List.set_cons_succ]
            refine takeL_yes (i := 11) (v := ?vs1011) rfl (by kernel_rfl) (by kernel_rfl) (by kernel_rfl) (by kernel_rfl) (by decide) (fun _ _ _ h => h) (by rfl) (by assumption) ?hys1011 ?rests1011
            case hys1011 => (intro w hSw; (try dsimp only at hSw); first | (go_simp; done) | (go_simp; with_reducible rfl))
            simp only [Act.put, List.setIfInBounds_toArray, List.set_cons_zero, List.set_cons_succ]
            refine takeL_yes (i := 12) (v := ?vs1012) rfl (by kernel_rfl) (by kernel_rfl) (by kernel_rfl) (by kernel_rfl) (by decide) (fun _ _ _ h => h) (by rfl) (by assumption) ?hys1012 ?rests1012
            case hys1012 => (intro w hSw; (try dsimp only at hSw); first | (go_simp; done) | (go_simp; with_reducible rfl))
            simp only [Act.put, List.setIfInBounds_toArray, List.set_cons_zero, List.set_cons_succ]
            refine takeL_yes (i := 13) (v := ?vs1013) rfl (by kernel_rfl) (by kernel_rfl) (by kernel_rfl) (by kernel_rfl) (by decide) (fun _ _ _ h => h) (by rfl) (by assumption) ?hys1013 ?rests1013
            case hys1013 => (intro w hSw; (try dsimp only at hSw); first | (go_simp; done) | (go_simp; with_reducible rfl))
            simp only [Act.put, List.setIfInBounds_toArray, List.set_cons_zero, List.set_cons_succ]
            refine takeL_yes (i := 14) (v := ?vs1014) rfl (by kernel_rfl) (by kernel_rfl) (by kernel_rfl) (by kernel_rfl) (by decide) (fun _ _ _ h => h) (by rfl) (by assumption) ?hys1014 ?rests1014
            case hys1014 => (intro w hSw; (try dsimp only at hSw); first | (go_simp; done) | (go_simp; with_reducible rfl))
            simp only [Act.put, List.setIfInBounds_toArray, List.set_cons_zero, List.set_cons_succ]
            refine takeL_yes (i := 15) (v := ?vs1015) rfl (by kernel_rfl) (by kernel_rfl) (by kernel_rfl) (by kernel_rfl) (by decide) (fun _ _ _ h => h) (by rfl) (by assumption) ?hys1015 ?rests1015
            case hys1015 => (intro w hSw; (try dsimp only at hSw); first | (go_simp; done) | (go_simp; with_reducible rfl))
            simp only [Act.put, List.setIfInBounds_toArray, List.set_cons_zero, List.set_cons_succ]
            refine takeL_yes (i := 16) (v := ?vs1016) rfl (by kernel_rfl) (by kernel_rfl) (by kernel_rfl) (by kernel_rfl) (by decide) (fun _ _ _ h => h) (by rfl) (by assumption) ?hys1016 ?rests1016
            case hys1016 => (intro w hSw; (try dsimp only at hSw); first | (go_simp; done) | (go_simp; with_reducible rfl))
            simp only [Act.put, List.setIfInBounds_toArray, List.set_cons_zero, List.set_cons_succ]
            have x_l_0 : wr.cell? ⟨w2.heap.size, 0, none⟩ = some (.int .i64 (a1 + s1)) := x_l.c0
            have x_l_1 : wr.cell? ⟨w2.heap.size, 1, none⟩ = some (.int .i64 (a2 + s2)) := x_l.c1
            have x_l_2 : wr.cell? ⟨w2.heap.size, 2, none⟩ = some (.int .i64 b1) := x_l.c2
            have x_l_3 : wr.cell? ⟨w2.heap.size, 3, none⟩ = some (.int .i64 b2) := x_l.c3
            have x_l_4 : wr.cell? ⟨w2.heap.size, 4, none⟩ = some (.int .i64 c1) := x_l.c4
            have x_l_5 : wr.cell? ⟨w2.heap.size, 5, none⟩ = some (.int .i64 c2) := x_l.c5
            have x_l_6 : wr.frozen? ⟨w2.heap.size, 0, none⟩ = false := x_l.f0
            have x_l_7 : wr.frozen? ⟨w2.heap.size, 1, none⟩ = false := x_l.f1
            have x_l_8 : wr.frozen? ⟨w2.heap.size, 2, none⟩ = false := x_l.f2
            have x_l_9 : wr.frozen? ⟨w2.heap.size, 3, none⟩ = false := x_l.f3
            have x_l_10 : wr.frozen? ⟨w2.heap.size, 4, none⟩ = false := x_l.f4
            have x_l_11 : wr.frozen? ⟨w2.heap.size, 5, none⟩ = false := x_l.f5
            refine takeL_last rfl (by kernel_rfl) (fun Kc hK => ?_)
            go_simp
            refine hK.out _ _ ?_
            clear hK Kc
            refine anyL_done (by kernel_rfl) ?_ _
            obtain ⟨Z, hZ⟩ : ∃ Z, Z = ((wr.setCell ⟨w2.heap.size, 2, none⟩ (.int .i64 u)).setCell ⟨w2.heap.size, 3, none⟩ (.int .i64 v)).drew := ⟨_, rfl⟩
            replace x_l : B6 Z (w2.heap.size) (.int .i64 (a1 + s1)) (.int .i64 (a2 + s2)) (.int .i64 u) (.int .i64 v) (.int .i64 c1) (.int .i64 c2) := by rw [hZ]; exact (b6_row (((row_b6 y_l).set 2 (.int .i64 u) (by simp)).set 3 (.int .i64 v) (by simp))).drew
            replace x_t : B6 Z (w.heap.size) (.int .i64 a1) (.int .i64 a2) (.int .i64 b1) (.int .i64 b2) (.int .i64 c1) (.int .i64 c2) := by rw [hZ]; exact ((y_t.put (by omega)).put (by omega)).drew
            replace x_s : Bx Z (w.heap.size + 1) (.int .i64 s1) (.int .i64 s2) := by rw [hZ]; exact ((y_s.put (by omega)).put (by omega)).drew
            replace BB : Below w.heap.size w Z := by rw [hZ]; exact ((B2.setCell (by show w.heap.size ≤ w2.heap.size; omega) _).setCell (by show w.heap.size ≤ w2.heap.size; omega) _).drew
            rw [← hZ]
            clear hZ y_t y_s y_l B2
            have ⟨x_l_0, x_l_1, x_l_2, x_l_3, x_l_4, x_l_5, x_l_6, x_l_7, x_l_8, x_l_9, x_l_10, x_l_11⟩ := x_l
            go_wp2_with (go_at_call 20; fail)
            refine (rlCan u v Z (r2x RU.out) (r2y RU.out) HM.out).mono ?_
            rintro e w4 ⟨rfl, bw4⟩
            clear x_l_0 x_l_1 x_l_2 x_l_3 x_l_4 x_l_5 x_l_6 x_l_7 x_l_8 x_l_9 x_l_10 x_l_11
            have zbw4 := bw4.size
            replace x_t := x_t.on bw4
            replace x_s := x_s.on bw4
            replace x_l := x_l.on bw4
            replace BB := also BB bw4
            go_wp2_with (go_at_call 11; fail)
            refine (hL.out w4).mono ?_
            rintro e z9 ⟨rfl, bz9⟩
            have zbz9 := bz9.size
            replace x_t := x_t.on bz9
            replace x_s := x_s.on bz9
            replace x_l := x_l.on bz9
            replace BB := also BB bz9
            go_wp2
            go_ret
            exact ⟨rfl, BB⟩
          · skip
            obtain ⟨u, hu⟩ : ∃ z, z = b1 + s1 := ⟨_, rfl⟩
            have ru := inC_true.1 (canC_true.1 hb).1
            have qu := inC_true.1 (canC_true.1 hs).1
            have wu : wrap64 (b1 + s1) = u := by rw [hu]; exact wrap_in (by omega) (by omega)
            have vu : IntKind.i64.wrap (b1 + s1) = u := (wrap_i64 _).trans wu
            have Ru : R64 u := ⟨by omega, by omega⟩
            clear ru qu
            rw [← hu] at hm
            have Eu : Hid _ := hu
            clear hu
            obtain ⟨v, hv⟩ : ∃ z, z = b2 + s2 := ⟨_, rfl⟩
            have rv := inC_true.1 (canC_true.1 hb).2
            have qv := inC_true.1 (canC_true.1 hs).2
            have wv : wrap64 (b2 + s2) = v := by rw [hv]; exact wrap_in (by omega) (by omega)
            have vv : IntKind.i64.wrap (b2 + s2) = v := (wrap_i64 _).trans wv
            have Rv : R64 v := ⟨by omega, by omega⟩
            clear rv qv
            rw [← hv] at hm
            have Ev : Hid _ := hv
            clear hv
            have RU : Hid (R2 (u, v)) := ⟨Ru, Rv⟩
            clear Ru Rv
            have HM : Hid _ := hm.symm
            clear hm
            have y_t := x_t
            have y_s := x_s
            have y_l := x_l
            have B2 := BB
            go_wp2
            have dd1 : Below wr.heap.size wr wr.drew := (Below.refl _ _).drew
            have zdd1 := dd1.size
            replace x_t := x_t.on dd1
            replace x_s := x_s.on dd1
            replace x_l := x_l.on dd1
            replace BB := also BB dd1
            refine regionL 17 (S := (fun w' => w'.cell? ⟨w.heap.size, 0, none⟩ = some (.int .i64 a1) ∧ w'.cell? ⟨w.heap.size, 1, none⟩ = some (.int .i64 a2) ∧ w'.cell? ⟨w.heap.size, 2, none⟩ = some (.int .i64 b1) ∧ w'.cell? ⟨w.heap.size, 3, none⟩ = some (.int .i64 b2) ∧ w'.cell? ⟨w.heap.size, 4, none⟩ = some (.int .i64 c1) ∧ w'.cell? ⟨w.heap.size, 5, none⟩ = some (.int .i64 c2) ∧ w'.cell? ⟨w.heap.size + 1, 0, none⟩ = some (.int .i64 s1) ∧ w'.cell? ⟨w.heap.size + 1, 1, none⟩ = some (.int .i64 s2) ∧ Below w.heap.size w w')) (by kernel_rfl) ?_ (fun hHeld => ?_)
            · exact ⟨x_t.c0, x_t.c1, x_t.c2, x_t.c3, x_t.c4, x_t.c5, x_s.c0, x_s.c1, BB⟩
            refine takeL_yes (i := 0) (v := ?vs110) rfl (by kernel_rfl) (by kernel_rfl) (by kernel_rfl) (by kernel_rfl) (by decide) (fun _ _ _ h => h) (by rfl) (by assumption) ?hys110 ?rests110
            case hys110 => (intro w hSw; (try dsimp only at hSw); first | (go_simp; done) | (go_simp; with_reducible rfl))
            simp only [Act.put, List.setIfInBounds_toArray, List.set_cons_zero, List.set_cons_succ]
            refine takeL_yes (i := 1) (v := ?vs111) rfl (by kernel_rfl) (by kernel_rfl) (by kernel_rfl) (by kernel_rfl) (by decide) (fun _ _ _ h => h) (by rfl) (by assumption) ?hys111 ?rests111
            case hys111 => (intro w hSw; (try dsimp only at hSw); first | (go_simp; done) | (go_simp; with_reducible rfl))
            simp only [Act.put, List.setIfInBounds_toArray, List.set_cons_zero, List.set_cons_succ]
            refine takeL_yes (i := 2) (v := ?vs112) rfl (by kernel_rfl) (by kernel_rfl) (by kernel_rfl) (by kernel_rfl) (by decide) (fun _ _ _ h => h) (by rfl) (by assumption) ?hys112 ?rests112
            case hys112 => (intro w hSw; (try dsimp only at hSw); first | (go_simp; done) | (go_simp; with_reducible rfl))
            simp only [Act.put, List.setIfInBounds_toArray, List.set_cons_zero, List.set_cons_succ]
            refine takeL_yes (i := 3) (v := ?vs113) rfl (by kernel_rfl) (by kernel_rfl) (by kernel_rfl) (by kernel_rfl) (by decide) (fun _ _ _ h => h) (by rfl) (by assumption) ?hys113 ?rests113
            case hys113 => (intro w hSw; (try dsimp only at hSw); first | (go_simp; done) | (go_simp; with_reducible rfl))
            simp only [Act.put, List.setIfInBounds_toArray, List.set_cons_zero, List.set_cons_succ]
            refine takeL_yes (i := 4) (v := ?vs114) rfl (by kernel_rfl) (by kernel_rfl) (by kernel_rfl) (by kernel_rfl) (by decide) (fun _ _ _ h => h) (by rfl) (by assumption) ?hys114 ?rests114
            case hys114 => (intro w hSw; (try dsimp only at hSw); first | (go_simp; done) | (go_simp; with_reducible rfl))
            simp only [Act.put, List.setIfInBounds_toArray, List.set_cons_zero, List.set_cons_succ]
            refine takeL_yes (i := 5) (v := ?vs115) rfl (by kernel_rfl) (by kernel_rfl) (by kernel_rfl) (by kernel_rfl) (by decide) (fun _ _ _ h => h) (by rfl) (by assumption) ?hys115 ?rests115
            case hys115 => (intro w hSw; (try dsimp only at hSw); first | (go_simp; done) | (go_simp; with_reducible rfl))
            simp only [Act.put, List.setIfInBounds_toArray, List.set_cons_zero, List.set_cons_succ]
            refine takeL_yes (i := 6) (v := ?vs116) rfl (by kernel_rfl) (by kernel_rfl) (by kernel_rfl) (by kernel_rfl) (by decide) (fun _ _ _ h => h) (by rfl) (by assumption) ?hys116 ?rests116
            case hys116 => (intro w hSw; (try dsimp only at hSw); first | (go_simp; done) | (go_simp; with_reducible rfl))
            simp only [Act.put, List.setIfInBounds_toArray, List.set_cons_zero, List.set_cons_succ]
            refine takeL_yes (i := 7) (v := ?vs117) rfl (by kernel_rfl) (by kernel_rfl) (by kernel_rfl) (by kernel_rfl) (by decide) (fun _ _ _ h => h) (by rfl) (by assumption) ?hys117 ?rests117
            case hys117 => (intro w hSw; (try dsimp only at hSw); first | (go_simp; done) | (go_simp; with_reducible rfl))
            simp only [Act.put, List.setIfInBounds_toArray, List.set_cons_zero, List.set_cons_succ]
            refine takeL_yes (i := 8) (v := ?vs118) rfl (by kernel_rfl) (by kernel_rfl) (by kernel_rfl) (by kernel_rfl) (by decide) (fun _ _ _ h => h) (by rfl) (by assumption) ?hys118 ?rests118
            case hys118 => (intro w hSw; (try dsimp only at hSw); first | (go_simp; done) | (go_simp; with_reducible rfl))
            simp only [Act.put, List.setIfInBounds_toArray, List.set_cons_zero, List.set_cons_succ]
            refine takeL_yes (i := 9) (v := ?vs119) rfl (by kernel_rfl) (by kernel_rfl) (by kernel_rfl) (by kernel_rfl) (by decide) (fun _ _ _ h => h) (by rfl) (by assumption) ?hys119 ?rests119
            case hys119 => (intro w hSw; (try dsimp only at hSw); first | (go_simp; done) | (go_simp; with_reducible rfl))
            simp only [Act.put, List.setIfInBounds_toArray, List.set_cons_zero, List.set_cons_succ]
            refine takeL_yes (i := 10) (v := ?vs1110) rfl (by kernel_rfl) (by kernel_rfl) (by kernel_rfl) (by kernel_rfl) (by decide) (fun _ _ _ h => h) (by rfl) (by assumption) ?hys1110 ?rests1110
            case hys1110 => (intro w hSw; (try dsimp only at hSw); first | (go_simp; done) | (go_simp; with_reducible rfl))
            simp only [Act.put, List.setIfInBounds_toArray, List.set_cons_zero, List.set_cons_succ]
            refine takeL_yes (i := 11) (v := ?vs1111) rfl (by kernel_rfl) (by kernel_rfl) (by kernel_rfl) (by kernel_rfl) (by decide) (fun _ _ _ h => h) (by rfl) (by assumption) ?hys1111 ?rests1111
            case hys1111 => (intro w hSw; (try dsimp only at hSw); first | (go_simp; done) | (go_simp; with_reducible rfl))
            simp only [Act.put, List.setIfInBounds_toArray, List.set_cons_zero, List.set_cons_succ]
            refine takeL_yes (i := 12) (v := ?vs1112) rfl (by kernel_rfl) (by kernel_rfl) (by kernel_rfl) (by kernel_rfl) (by decide) (fun _ _ _ h => h) (by rfl) (by assumption) ?hys1112 ?rests1112
            case hys1112 => (intro w hSw; (try dsimp only at hSw); first | (go_simp; done) | (go_simp; with_reducible rfl))
            simp only [Act.put, List.setIfInBounds_toArray, List.set_cons_zero, List.set_cons_succ]
            refine takeL_yes (i := 13) (v := ?vs1113) rfl (by kernel_rfl) (by kernel_rfl) (by kernel_rfl) (by kernel_rfl) (by decide) (fun _ _ _ h => h) (by rfl) (by assumption) ?hys1113 ?rests1113
            case hys1113 => (intro w hSw; (try dsimp only at hSw); first | (go_simp; done) | (go_simp; with_reducible rfl))
            simp only [Act.put, List.setIfInBounds_toArray, List.set_cons_zero, List.set_cons_succ]
            refine takeL_yes (i := 14) (v := ?vs1114) rfl (by kernel_rfl) (by kernel_rfl) (by kernel_rfl) (by kernel_rfl) (by decide) (fun _ _ _ h => h) (by rfl) (by assumption) ?hys1114 ?rests1114
            case hys1114 => (intro w hSw; (try dsimp only at hSw); first | (go_simp; done) | (go_simp; with_reducible rfl))
            simp only [Act.put, List.setIfInBounds_toArray, List.set_cons_zero, List.set_cons_succ]
            refine takeL_yes (i := 15) (v := ?vs1115) rfl (by kernel_rfl) (by kernel_rfl) (by kernel_rfl) (by kernel_rfl) (by decide) (fun _ _ _ h => h) (by rfl) (by assumption) ?hys1115 ?rests1115
            case hys1115 => (intro w hSw; (try dsimp only at hSw); first | (go_simp; done) | (go_simp; with_reducible rfl))
            simp only [Act.put, List.setIfInBounds_toArray, List.set_cons_zero, List.set_cons_succ]
            refine takeL_yes (i := 16) (v := ?vs1116) rfl (by kernel_rfl) (by kernel_rfl) (by kernel_rfl) (by kernel_rfl) (by decide) (fun _ _ _ h => h) (by rfl) (by assumption) ?hys1116 ?rests1116
            case hys1116 => (intro w hSw; (try dsimp only at hSw); first | (go_simp; done) | (go_simp; with_reducible rfl))
            simp only [Act.put, List.setIfInBounds_toArray, List.set_cons_zero, List.set_cons_succ]
            have x_l_0 : wr.cell? ⟨w2.heap.size, 0, none⟩ = some (.int .i64 (a1 + s1)) := x_l.c0
            have x_l_1 : wr.cell? ⟨w2.heap.size, 1, none⟩ = some (.int .i64 (a2 + s2)) := x_l.c1
            have x_l_2 : wr.cell? ⟨w2.heap.size, 2, none⟩ = some (.int .i64 b1) := x_l.c2
            have x_l_3 : wr.cell? ⟨w2.heap.size, 3, none⟩ = some (.int .i64 b2) := x_l.c3
            have x_l_4 : wr.cell? ⟨w2.heap.size, 4, none⟩ = some (.int .i64 c1) := x_l.c4
            have x_l_5 : wr.cell? ⟨w2.heap.size, 5, none⟩ = some (.int .i64 c2) := x_l.c5
            have x_l_6 : wr.frozen? ⟨w2.heap.size, 0, none⟩ = false := x_l.f0
            have x_l_7 : wr.frozen? ⟨w2.heap.size, 1, none⟩ = false := x_l.f1
            have x_l_8 : wr.frozen? ⟨w2.heap.size, 2, none⟩ = false := x_l.f2
            have x_l_9 : wr.frozen? ⟨w2.heap.size, 3, none⟩ = false := x_l.f3
            have x_l_10 : wr.frozen? ⟨w2.heap.size, 4, none⟩ = false := x_l.f4
            have x_l_11 : wr.frozen? ⟨w2.heap.size, 5, none⟩ = false := x_l.f5
            refine takeL_last rfl (by kernel_rfl) (fun Kc hK => ?_)
            go_simp
            refine hK.out _ _ ?_
            clear hK Kc
            refine anyL_done (by kernel_rfl) ?_ _
            obtain ⟨Z, hZ⟩ : ∃ Z, Z = ((wr.setCell ⟨w2.heap.size, 2, none⟩ (.int .i64 u)).setCell ⟨w2.heap.size, 3, none⟩ (.int .i64 v)).drew := ⟨_, rfl⟩
            replace x_l : B6 Z (w2.heap.size) (.int .i64 (a1 + s1)) (.int .i64 (a2 + s2)) (.int .i64 u) (.int .i64 v) (.int .i64 c1) (.int .i64 c2) := by rw [hZ]; exact (b6_row (((row_b6 y_l).set 2 (.int .i64 u) (by simp)).set 3 (.int .i64 v) (by simp))).drew
            replace x_t : B6 Z (w.heap.size) (.int .i64 a1) (.int .i64 a2) (.int .i64 b1) (.int .i64 b2) (.int .i64 c1) (.int .i64 c2) := by rw [hZ]; exact ((y_t.put (by omega)).put (by omega)).drew
            replace x_s : Bx Z (w.heap.size + 1) (.int .i64 s1) (.int .i64 s2) := by rw [hZ]; exact ((y_s.put (by omega)).put (by omega)).drew
            replace BB : Below w.heap.size w Z := by rw [hZ]; exact ((B2.setCell (by show w.heap.size ≤ w2.heap.size; omega) _).setCell (by show w.heap.size ≤ w2.heap.size; omega) _).drew
            rw [← hZ]
            clear hZ y_t y_s y_l B2
            have ⟨x_l_0, x_l_1, x_l_2, x_l_3, x_l_4, x_l_5, x_l_6, x_l_7, x_l_8, x_l_9, x_l_10, x_l_11⟩ := x_l
            go_wp2_with (go_at_call 20; fail)
            refine (rlCan u v Z (r2x RU.out) (r2y RU.out) HM.out).mono ?_
            rintro e w4 ⟨rfl, bw4⟩
            clear x_l_0 x_l_1 x_l_2 x_l_3 x_l_4 x_l_5 x_l_6 x_l_7 x_l_8 x_l_9 x_l_10 x_l_11
            have zbw4 := bw4.size
            replace x_t := x_t.on bw4
            replace x_s := x_s.on bw4
            replace x_l := x_l.on bw4
            replace BB := also BB bw4
            have MK : True ∧ canC (a1 + s1) (a2 + s2) = true ∧ canC (b1 + s1) (b2 + s2) = true := ⟨trivial, HK.out.2, (by rw [← Eu.out, ← Ev.out]; exact HM.out.symm)⟩
            have MK' : Hid _ := MK
            clear MK
            go_wp2
            rw [Eu.out, Ev.out] at x_l
            go_roundw
            case rel => exact ⟨Or.inr (Or.inr (Or.inl ⟨rfl, (by first | exact MK' | exact ⟨trivial, trivial⟩ | exact ⟨trivial, HK.out.2, trivial⟩ | exact ⟨trivial, HK.out.2.1, HK.out.2.2, trivial⟩), x_l⟩)), x_t, x_s, BB⟩
            case measure => simp [intOf]
        · have zs := bx_lt x_s
          have zl := b6_lt x_l
          cases hm : canC (c1 + s1) (c2 + s2)
          · skip
            obtain ⟨u, hu⟩ : ∃ z, z = c1 + s1 := ⟨_, rfl⟩
            have ru := inC_true.1 (canC_true.1 hc).1
            have qu := inC_true.1 (canC_true.1 hs).1
            have wu : wrap64 (c1 + s1) = u := by rw [hu]; exact wrap_in (by omega) (by omega)
            have vu : IntKind.i64.wrap (c1 + s1) = u := (wrap_i64 _).trans wu
            have Ru : R64 u := ⟨by omega, by omega⟩
            clear ru qu
            rw [← hu] at hm
            have Eu : Hid _ := hu
            clear hu
            obtain ⟨v, hv⟩ : ∃ z, z = c2 + s2 := ⟨_, rfl⟩
            have rv := inC_true.1 (canC_true.1 hc).2
            have qv := inC_true.1 (canC_true.1 hs).2
            have wv : wrap64 (c2 + s2) = v := by rw [hv]; exact wrap_in (by omega) (by omega)
            have vv : IntKind.i64.wrap (c2 + s2) = v := (wrap_i64 _).trans wv
            have Rv : R64 v := ⟨by omega, by omega⟩
            clear rv qv
            rw [← hv] at hm
            have Ev : Hid _ := hv
            clear hv
            have RU : Hid (R2 (u, v)) := ⟨Ru, Rv⟩
            clear Ru Rv
            have HM : Hid _ := hm.symm
            clear hm
            have y_t := x_t
            have y_s := x_s
            have y_l := x_l
            have B2 := BB
            go_wp2
            have dd1 : Below wr.heap.size wr wr.drew := (Below.refl _ _).drew
            have zdd1 := dd1.size
            replace x_t := x_t.on dd1
            replace x_s := x_s.on dd1
            replace x_l := x_l.on dd1
            replace BB := also BB dd1
            refine regionL 17 (S := (fun w' => w'.cell? ⟨w.heap.size, 0, none⟩ = some (.int .i64 a1) ∧ w'.cell? ⟨w.heap.size, 1, none⟩ = some (.int .i64 a2) ∧ w'.cell? ⟨w.heap.size, 2, none⟩ = some (.int .i64 b1) ∧ w'.cell? ⟨w.heap.size, 3, none⟩ = some (.int .i64 b2) ∧ w'.cell? ⟨w.heap.size, 4, none⟩ = some (.int .i64 c1) ∧ w'.cell? ⟨w.heap.size, 5, none⟩ = some (.int .i64 c2) ∧ w'.cell? ⟨w.heap.size + 1, 0, none⟩ = some (.int .i64 s1) ∧ w'.cell? ⟨w.heap.size + 1, 1, none⟩ = some (.int .i64 s2) ∧ Below w.heap.size w w')) (by kernel_rfl) ?_ (fun hHeld => ?_)
            · exact ⟨x_t.c0, x_t.c1, x_t.c2, x_t.c3, x_t.c4, x_t.c5, x_s.c0, x_s.c1, BB⟩
            refine takeL_yes (i := 0) (v := ?vs200) rfl (by kernel_rfl) (by kernel_rfl) (by kernel_rfl) (by kernel_rfl) (by decide) (fun _ _ _ h => h) (by rfl) (by assumption) ?hys200 ?rests200
            case hys200 => (intro w hSw; (try dsimp only at hSw); first | (go_simp; done) | (go_simp; with_reducible rfl))
            simp only [Act.put, List.setIfInBounds_toArray, List.set_cons_zero, List.set_cons_succ]
            refine takeL_yes (i := 1) (v := ?vs201) rfl (by kernel_rfl) (by kernel_rfl) (by kernel_rfl) (by kernel_rfl) (by decide) (fun _ _ _ h => h) (by rfl) (by assumption) ?hys201 ?rests201
            case hys201 => (intro w hSw; (try dsimp only at hSw); first | (go_simp; done) | (go_simp; with_reducible rfl))
            simp only [Act.put, List.setIfInBounds_toArray, List.set_cons_zero, List.set_cons_succ]
            refine takeL_yes (i := 2) (v := ?vs202) rfl (by kernel_rfl) (by kernel_rfl) (by kernel_rfl) (by kernel_rfl) (by decide) (fun _ _ _ h => h) (by rfl) (by assumption) ?hys202 ?rests202
            case hys202 => (intro w hSw; (try dsimp only at hSw); first | (go_simp; done) | (go_simp; with_reducible rfl))
            simp only [Act.put, List.setIfInBounds_toArray, List.set_cons_zero, List.set_cons_succ]
            refine takeL_yes (i := 3) (v := ?vs203) rfl (by kernel_rfl) (by kernel_rfl) (by kernel_rfl) (by kernel_rfl) (by decide) (fun _ _ _ h => h) (by rfl) (by assumption) ?hys203 ?rests203
            case hys203 => (intro w hSw; (try dsimp only at hSw); first | (go_simp; done) | (go_simp; with_reducible rfl))
            simp only [Act.put, List.setIfInBounds_toArray, List.set_cons_zero, List.set_cons_succ]
            refine takeL_yes (i := 4) (v := ?vs204) rfl (by kernel_rfl) (by kernel_rfl) (by kernel_rfl) (by kernel_rfl) (by decide) (fun _ _ _ h => h) (by rfl) (by assumption) ?hys204 ?rests204
            case hys204 => (intro w hSw; (try dsimp only at hSw); first | (go_simp; done) | (go_simp; with_reducible rfl))
            simp only [Act.put, List.setIfInBounds_toArray, List.set_cons_zero, List.set_cons_succ]
            refine takeL_yes (i := 5) (v := ?vs205) rfl (by kernel_rfl) (by kernel_rfl) (by kernel_rfl) (by kernel_rfl) (by decide) (fun _ _ _ h => h) (by rfl) (by assumption) ?hys205 ?rests205
            case hys205 => (intro w hSw; (try dsimp only at hSw); first | (go_simp; done) | (go_simp; with_reducible rfl))
            simp only [Act.put, List.setIfInBounds_toArray, List.set_cons_zero, List.set_cons_succ]
            refine takeL_yes (i := 6) (v := ?vs206) rfl (by kernel_rfl) (by kernel_rfl) (by kernel_rfl) (by kernel_rfl) (by decide) (fun _ _ _ h => h) (by rfl) (by assumption) ?hys206 ?rests206
            case hys206 => (intro w hSw; (try dsimp only at hSw); first | (go_simp; done) | (go_simp; with_reducible rfl))
            simp only [Act.put, List.setIfInBounds_toArray, List.set_cons_zero, List.set_cons_succ]
            refine takeL_yes (i := 7) (v := ?vs207) rfl (by kernel_rfl) (by kernel_rfl) (by kernel_rfl) (by kernel_rfl) (by decide) (fun _ _ _ h => h) (by rfl) (by assumption) ?hys207 ?rests207
            case hys207 => (intro w hSw; (try dsimp only at hSw); first | (go_simp; done) | (go_simp; with_reducible rfl))
            simp only [Act.put, List.setIfInBounds_toArray, List.set_cons_zero, List.set_cons_succ]
            refine takeL_yes (i := 8) (v := ?vs208) rfl (by kernel_rfl) (by kernel_rfl) (by kernel_rfl) (by kernel_rfl) (by decide) (fun _ _ _ h => h) (by rfl) (by assumption) ?hys208 ?rests208
            case hys208 => (intro w hSw; (try dsimp only at hSw); first | (go_simp; done) | (go_simp; with_reducible rfl))
            simp only [Act.put, List.setIfInBounds_toArray, List.set_cons_zero, List.set_cons_succ]
            refine takeL_yes (i := 9) (v := ?vs209) rfl (by kernel_rfl) (by kernel_rfl) (by kernel_rfl) (by kernel_rfl) (by decide) (fun _ _ _ h => h) (by rfl) (by assumption) ?hys209 ?rests209
            case hys209 => (intro w hSw; (try dsimp only at hSw); first | (go_simp; done) | (go_simp; with_reducible rfl))
            simp only [Act.put, List.setIfInBounds_toArray, List.set_cons_zero, List.set_cons_succ]
            refine takeL_yes (i := 10) (v := ?vs2010) rfl (by kernel_rfl) (by kernel_rfl) (by kernel_rfl) (by kernel_rfl) (by decide) (fun _ _ _ h => h) (by rfl) (by assumption) ?hys2010 ?rests2010
            case hys2010 => (intro w hSw; (try dsimp only at hSw); first | (go_simp; done) | (go_simp; with_reducible rfl))
            simp only [Act.put, List.setIfInBounds_toArray, List.set_cons_zero, List.set_cons_succ]
            refine takeL_yes (i := 11) (v := ?vs2011) rfl (by kernel_rfl) (by kernel_rfl) (by kernel_rfl) (by kernel_rfl) (by decide) (fun _ _ _ h => h) (by rfl) (by assumption) ?hys2011 ?rests2011
            case hys2011 => (intro w hSw; (try dsimp only at hSw); first | (go_simp; done) | (go_simp; with_reducible rfl))
            simp only [Act.put, List.setIfInBounds_toArray, List.set_cons_zero, List.set_cons_succ]
            refine takeL_yes (i := 12) (v := ?vs2012) rfl (by kernel_rfl) (by kernel_rfl) (by kernel_rfl) (by kernel_rfl) (by decide) (fun _ _ _ h => h) (by rfl) (by assumption) ?hys2012 ?rests2012
            case hys2012 => (intro w hSw; (try dsimp only at hSw); first | (go_simp; done) | (go_simp; with_reducible rfl))
            simp only [Act.put, List.setIfInBounds_toArray, List.set_cons_zero, List.set_cons_succ]
            refine takeL_yes (i := 13) (v := ?vs2013) rfl (by kernel_rfl) (by kernel_rfl) (by kernel_rfl) (by kernel_rfl) (by decide) (fun _ _ _ h => h) (by rfl) (by assumption) ?hys2013 ?rests2013
            case hys2013 => (intro w hSw; (try dsimp only at hSw); first | (go_simp; done) | (go_simp; with_reducible rfl))
            simp only [Act.put, List.setIfInBounds_toArray, List.set_cons_zero, List.set_cons_succ]
            refine takeL_yes (i := 14) (v := ?vs2014) rfl (by kernel_rfl) (by kernel_rfl) (by kernel_rfl) (by kernel_rfl) (by decide) (fun _ _ _ h => h) (by rfl) (by assumption) ?hys2014 ?rests2014
            case hys2014 => (intro w hSw; (try dsimp only at hSw); first | (go_simp; done) | (go_simp; with_reducible rfl))
            simp only [Act.put, List.setIfInBounds_toArray, List.set_cons_zero, List.set_cons_succ]
            refine takeL_yes (i := 15) (v := ?vs2015) rfl (by kernel_rfl) (by kernel_rfl) (by kernel_rfl) (by kernel_rfl) (by decide) (fun _ _ _ h => h) (by rfl) (by assumption) ?hys2015 ?rests2015
            case hys2015 => (intro w hSw; (try dsimp only at hSw); first | (go_simp; done) | (go_simp; with_reducible rfl))
            simp only [Act.put, List.setIfInBounds_toArray, List.set_cons_zero, List.set_cons_succ]
            refine takeL_yes (i := 16) (v := ?vs2016) rfl (by kernel_rfl) (by kernel_rfl) (by kernel_rfl) (by kernel_rfl) (by decide) (fun _ _ _ h => h) (by rfl) (by assumption) ?hys2016 ?rests2016
            case hys2016 => (intro w hSw; (try dsimp only at hSw); first | (go_simp; done) | (go_simp; with_reducible rfl))
            simp only [Act.put, List.setIfInBounds_toArray, List.set_cons_zero, List.set_cons_succ]
            have x_l_0 : wr.cell? ⟨w2.heap.size, 0, none⟩ = some (.int .i64 (a1 + s1)) := x_l.c0
            have x_l_1 : wr.cell? ⟨w2.heap.size, 1, none⟩ = some (.int .i64 (a2 + s2)) := x_l.c1
            have x_l_2 : wr.cell? ⟨w2.heap.size, 2, none⟩ = some (.int .i64 (b1 + s1)) := x_l.c2
            have x_l_3 : wr.cell? ⟨w2.heap.size, 3, none⟩ = some (.int .i64 (b2 + s2)) := x_l.c3
            have x_l_4 : wr.cell? ⟨w2.heap.size, 4, none⟩ = some (.int .i64 c1) := x_l.c4
            have x_l_5 : wr.cell? ⟨w2.heap.size, 5, none⟩ = some (.int .i64 c2) := x_l.c5
            have x_l_6 : wr.frozen? ⟨w2.heap.size, 0, none⟩ = false := x_l.f0
            have x_l_7 : wr.frozen? ⟨w2.heap.size, 1, none⟩ = false := x_l.f1
            have x_l_8 : wr.frozen? ⟨w2.heap.size, 2, none⟩ = false := x_l.f2
            have x_l_9 : wr.frozen? ⟨w2.heap.size, 3, none⟩ = false := x_l.f3
            have x_l_10 : wr.frozen? ⟨w2.heap.size, 4, none⟩ = false := x_l.f4
            have x_l_11 : wr.frozen? ⟨w2.heap.size, 5, none⟩ = false := x_l.f5
            refine takeL_last rfl (by kernel_rfl) (fun Kc hK => ?_)
            go_simp
            refine hK.out _ _ ?_
            clear hK Kc
            refine anyL_done (by kernel_rfl) ?_ _
            obtain ⟨Z, hZ⟩ : ∃ Z, Z = ((wr.setCell ⟨w2.heap.size, 4, none⟩ (.int .i64 u)).setCell ⟨w2.heap.size, 5, none⟩ (.int .i64 v)).drew := ⟨_, rfl⟩
            replace x_l : B6 Z (w2.heap.size) (.int .i64 (a1 + s1)) (.int .i64 (a2 + s2)) (.int .i64 (b1 + s1)) (.int .i64 (b2 + s2)) (.int .i64 u) (.int .i64 v) := by rw [hZ]; exact (b6_row (((row_b6 y_l).set 4 (.int .i64 u) (by simp)).set 5 (.int .i64 v) (by simp))).drew
            replace x_t : B6 Z (w.heap.size) (.int .i64 a1) (.int .i64 a2) (.int .i64 b1) (.int .i64 b2) (.int .i64 c1) (.int .i64 c2) := by rw [hZ]; exact ((y_t.put (by omega)).put (by omega)).drew
            replace x_s : Bx Z (w.heap.size + 1) (.int .i64 s1) (.int .i64 s2) := by rw [hZ]; exact ((y_s.put (by omega)).put (by omega)).drew
            replace BB : Below w.heap.size w Z := by rw [hZ]; exact ((B2.setCell (by show w.heap.size ≤ w2.heap.size; omega) _).setCell (by show w.heap.size ≤ w2.heap.size; omega) _).drew
            rw [← hZ]
            clear hZ y_t y_s y_l B2
            have ⟨x_l_0, x_l_1, x_l_2, x_l_3, x_l_4, x_l_5, x_l_6, x_l_7, x_l_8, x_l_9, x_l_10, x_l_11⟩ := x_l
            go_wp2_with (go_at_call 20; fail)
            refine (rlCan u v Z (r2x RU.out) (r2y RU.out) HM.out).mono ?_
            rintro e w4 ⟨rfl, bw4⟩
            clear x_l_0 x_l_1 x_l_2 x_l_3 x_l_4 x_l_5 x_l_6 x_l_7 x_l_8 x_l_9 x_l_10 x_l_11
            have zbw4 := bw4.size
            replace x_t := x_t.on bw4
            replace x_s := x_s.on bw4
            replace x_l := x_l.on bw4
            replace BB := also BB bw4
            go_wp2_with (go_at_call 11; fail)
            refine (hL.out w4).mono ?_
            rintro e z9 ⟨rfl, bz9⟩
            have zbz9 := bz9.size
            replace x_t := x_t.on bz9
            replace x_s := x_s.on bz9
            replace x_l := x_l.on bz9
            replace BB := also BB bz9
            go_wp2
            go_ret
            exact ⟨rfl, BB⟩
          · skip
            obtain ⟨u, hu⟩ : ∃ z, z = c1 + s1 := ⟨_, rfl⟩
            have ru := inC_true.1 (canC_true.1 hc).1
            have qu := inC_true.1 (canC_true.1 hs).1
            have wu : wrap64 (c1 + s1) = u := by rw [hu]; exact wrap_in (by omega) (by omega)
            have vu : IntKind.i64.wrap (c1 + s1) = u := (wrap_i64 _).trans wu
            have Ru : R64 u := ⟨by omega, by omega⟩
            clear ru qu
            rw [← hu] at hm
            have Eu : Hid _ := hu
            clear hu
            obtain ⟨v, hv⟩ : ∃ z, z = c2 + s2 := ⟨_, rfl⟩
            have rv := inC_true.1 (canC_true.1 hc).2
            have qv := inC_true.1 (canC_true.1 hs).2
            have wv : wrap64 (c2 + s2) = v := by rw [hv]; exact wrap_in (by omega) (by omega)
            have vv : IntKind.i64.wrap (c2 + s2) = v := (wrap_i64 _).trans wv
            have Rv : R64 v := ⟨by omega, by omega⟩
            clear rv qv
            rw [← hv] at hm
            have Ev : Hid _ := hv
            clear hv
            have RU : Hid (R2 (u, v)) := ⟨Ru, Rv⟩
            clear Ru Rv
            have HM : Hid _ := hm.symm
            clear hm
            have y_t := x_t
            have y_s := x_s
            have y_l := x_l
            have B2 := BB
            go_wp2
            have dd1 : Below wr.heap.size wr wr.drew := (Below.refl _ _).drew
            have zdd1 := dd1.size
            replace x_t := x_t.on dd1
            replace x_s := x_s.on dd1
            replace x_l := x_l.on dd1
            replace BB := also BB dd1
            refine regionL 17 (S := (fun w' => w'.cell? ⟨w.heap.size, 0, none⟩ = some (.int .i64 a1) ∧ w'.cell? ⟨w.heap.size, 1, none⟩ = some (.int .i64 a2) ∧ w'.cell? ⟨w.heap.size, 2, none⟩ = some (.int .i64 b1) ∧ w'.cell? ⟨w.heap.size, 3, none⟩ = some (.int .i64 b2) ∧ w'.cell? ⟨w.heap.size, 4, none⟩ = some (.int .i64 c1) ∧ w'.cell? ⟨w.heap.size, 5, none⟩ = some (.int .i64 c2) ∧ w'.cell? ⟨w.heap.size + 1, 0, none⟩ = some (.int .i64 s1) ∧ w'.cell? ⟨w.heap.size + 1, 1, none⟩ = some (.int .i64 s2) ∧ Below w.heap.size w w')) (by kernel_rfl) ?_ (fun hHeld => ?_)
            · exact ⟨x_t.c0, x_t.c1, x_t.c2, x_t.c3, x_t.c4, x_t.c5, x_s.c0, x_s.c1, BB⟩
            refine takeL_yes (i := 0) (v := ?vs210) rfl (by kernel_rfl) (by kernel_rfl) (by kernel_rfl) (by kernel_rfl) (by decide) (fun _ _ _ h => h) (by rfl) (by assumption) ?hys210 ?rests210
            case hys210 => (intro w hSw; (try dsimp only at hSw); first | (go_simp; done) | (go_simp; with_reducible rfl))
            simp only [Act.put, List.setIfInBounds_toArray, List.set_cons_zero, List.set_cons_succ]
            refine takeL_yes (i := 1) (v := ?vs211) rfl (by kernel_rfl) (by kernel_rfl) (by kernel_rfl) (by kernel_rfl) (by decide) (fun _ _ _ h => h) (by rfl) (by assumption) ?hys211 ?rests211
            case hys211 => (intro w hSw; (try dsimp only at hSw); first | (go_simp; done) | (go_simp; with_reducible rfl))
            simp only [Act.put, List.setIfInBounds_toArray, List.set_cons_zero, List.set_cons_succ]
            refine takeL_yes (i := 2) (v := ?vs212) rfl (by kernel_rfl) (by kernel_rfl) (by kernel_rfl) (by kernel_rfl) (by decide) (fun _ _ _ h => h) (by rfl) (by assumption) ?hys212 ?rests212
            case hys212 => (intro w hSw; (try dsimp only at hSw); first | (go_simp; done) | (go_simp; with_reducible rfl))
            simp only [Act.put, List.setIfInBounds_toArray, List.set_cons_zero, List.set_cons_succ]
            refine takeL_yes (i := 3) (v := ?vs213) rfl (by kernel_rfl) (by kernel_rfl) (by kernel_rfl) (by kernel_rfl) (by decide) (fun _ _ _ h => h) (by rfl) (by assumption) ?hys213 ?rests213
            case hys213 => (intro w hSw; (try dsimp only at hSw); first | (go_simp; done) | (go_simp; with_reducible rfl))
            simp only [Act.put, List.setIfInBounds_toArray, List.set_cons_zero, List.set_cons_succ]
            refine takeL_yes (i := 4) (v := ?vs214) rfl (by kernel_rfl) (by kernel_rfl) (by kernel_rfl) (by kernel_rfl) (by decide) (fun _ _ _ h => h) (by rfl) (by assumption) ?hys214 ?rests214
            case hys214 => (intro w hSw; (try dsimp only at hSw); first | (go_simp; done) | (go_simp; with_reducible rfl))
            simp only [Act.put, List.setIfInBounds_toArray, List.set_cons_zero, List.set_cons_succ]
            refine takeL_yes (i := 5) (v := ?vs215) rfl (by kernel_rfl) (by kernel_rfl) (by kernel_rfl) (by kernel_rfl) (by decide) (fun _ _ _ h => h) (by rfl) (by assumption) ?hys215 ?rests215
            case hys215 => (intro w hSw; (try dsimp only at hSw); first | (go_simp; done) | (go_simp; with_reducible rfl))
            simp only [Act.put, List.setIfInBounds_toArray, List.set_cons_zero, List.set_cons_succ]
            refine takeL_yes (i := 6) (v := ?vs216) rfl (by kernel_rfl) (by kernel_rfl) (by kernel_rfl) (by kernel_rfl) (by decide) (fun _ _ _ h => h) (by rfl) (by assumption) ?hys216 ?rests216
            case hys216 => (intro w hSw; (try dsimp only at hSw); first | (go_simp; done) | (go_simp; with_reducible rfl))
            simp only [Act.put, List.setIfInBounds_toArray, List.set_cons_zero, List.set_cons_succ]
            refine takeL_yes (i := 7) (v := ?vs217) rfl (by kernel_rfl) (by kernel_rfl) (by kernel_rfl) (by kernel_rfl) (by decide) (fun _ _ _ h => h) (by rfl) (by assumption) ?hys217 ?rests217
            case hys217 => (intro w hSw; (try dsimp only at hSw); first | (go_simp; done) | (go_simp; with_reducible rfl))
            simp only [Act.put, List.setIfInBounds_toArray, List.set_cons_zero, List.set_cons_succ]
            refine takeL_yes (i := 8) (v := ?vs218) rfl (by kernel_rfl) (by kernel_rfl) (by kernel_rfl) (by kernel_rfl) (by decide) (fun _ _ _ h => h) (by rfl) (by assumption) ?hys218 ?rests218
            case hys218 => (intro w hSw; (try dsimp only at hSw); first | (go_simp; done) | (go_simp; with_reducible rfl))
            simp only [Act.put, List.setIfInBounds_toArray, List.set_cons_zero, List.set_cons_succ]
            refine takeL_yes (i := 9) (v := ?vs219) rfl (by kernel_rfl) (by kernel_rfl) (by kernel_rfl) (by kernel_rfl) (by decide) (fun _ _ _ h => h) (by rfl) (by assumption) ?hys219 ?rests219
            case hys219 => (intro w hSw; (try dsimp only at hSw); first | (go_simp; done) | (go_simp; with_reducible rfl))
            simp only [Act.put, List.setIfInBounds_toArray, List.set_cons_zero, List.set_cons_succ]
            refine takeL_yes (i := 10) (v := ?vs2110) rfl (by kernel_rfl) (by kernel_rfl) (by kernel_rfl) (by kernel_rfl) (by decide) (fun _ _ _ h => h) (by rfl) (by assumption) ?hys2110 ?rests2110
            case hys2110 => (intro w hSw; (try dsimp only at hSw); first | (go_simp; done) | (go_simp; with_reducible rfl))
            simp only [Act.put, List.setIfInBounds_toArray, List.set_cons_zero, List.set_cons_succ]
            refine takeL_yes (i := 11) (v := ?vs2111) rfl (by kernel_rfl) (by kernel_rfl) (by kernel_rfl) (by kernel_rfl) (by decide) (fun _ _ _ h => h) (by rfl) (by assumption) ?hys2111 ?rests2111
            case hys2111 => (intro w hSw; (try dsimp only at hSw); first | (go_simp; done) | (go_simp; with_reducible rfl))
            simp only [Act.put, List.setIfInBounds_toArray, List.set_cons_zero, List.set_cons_succ]
            refine takeL_yes (i := 12) (v := ?vs2112) rfl (by kernel_rfl) (by kernel_rfl) (by kernel_rfl) (by kernel_rfl) (by decide) (fun _ _ _ h => h) (by rfl) (by assumption) ?hys2112 ?rests2112
            case hys2112 => (intro w hSw; (try dsimp only at hSw); first | (go_simp; done) | (go_simp; with_reducible rfl))
            simp only [Act.put, List.setIfInBounds_toArray, List.set_cons_zero, List.set_cons_succ]
            refine takeL_yes (i := 13) (v := ?vs2113) rfl (by kernel_rfl) (by kernel_rfl) (by kernel_rfl) (by kernel_rfl) (by decide) (fun _ _ _ h => h) (by rfl) (by assumption) ?hys2113 ?rests2113
            case hys2113 => (intro w hSw; (try dsimp only at hSw); first | (go_simp; done) | (go_simp; with_reducible rfl))
            simp only [Act.put, List.setIfInBounds_toArray, List.set_cons_zero, List.set_cons_succ]
            refine takeL_yes (i := 14) (v := ?vs2114) rfl (by kernel_rfl) (by kernel_rfl) (by kernel_rfl) (by kernel_rfl) (by decide) (fun _ _ _ h => h) (by rfl) (by assumption) ?hys2114 ?rests2114
            case hys2114 => (intro w hSw; (try dsimp only at hSw); first | (go_simp; done) | (go_simp; with_reducible rfl))
            simp only [Act.put, List.setIfInBounds_toArray, List.set_cons_zero, List.set_cons_succ]
            refine takeL_yes (i := 15) (v := ?vs2115) rfl (by kernel_rfl) (by kernel_rfl) (by kernel_rfl) (by kernel_rfl) (by decide) (fun _ _ _ h => h) (by rfl) (by assumption) ?hys2115 ?rests2115
            case hys2115 => (intro w hSw; (try dsimp only at hSw); first | (go_simp; done) | (go_simp; with_reducible rfl))
            simp only [Act.put, List.setIfInBounds_toArray, List.set_cons_zero, List.set_cons_succ]
            refine takeL_yes (i := 16) (v := ?vs2116) rfl (by kernel_rfl) (by kernel_rfl) (by kernel_rfl) (by kernel_rfl) (by decide) (fun _ _ _ h => h) (by rfl) (by assumption) ?hys2116 ?rests2116
            case hys2116 => (intro w hSw; (try dsimp only at hSw); first | (go_simp; done) | (go_simp; with_reducible rfl))
            simp only [Act.put, List.setIfInBounds_toArray, List.set_cons_zero, List.set_cons_succ]
            have x_l_0 : wr.cell? ⟨w2.heap.size, 0, none⟩ = some (.int .i64 (a1 + s1)) := x_l.c0
            have x_l_1 : wr.cell? ⟨w2.heap.size, 1, none⟩ = some (.int .i64 (a2 + s2)) := x_l.c1
            have x_l_2 : wr.cell? ⟨w2.heap.size, 2, none⟩ = some (.int .i64 (b1 + s1)) := x_l.c2
            have x_l_3 : wr.cell? ⟨w2.heap.size, 3, none⟩ = some (.int .i64 (b2 + s2)) := x_l.c3
            have x_l_4 : wr.cell? ⟨w2.heap.size, 4, none⟩ = some (.int .i64 c1) := x_l.c4
            have x_l_5 : wr.cell? ⟨w2.heap.size, 5, none⟩ = some (.int .i64 c2) := x_l.c5
            have x_l_6 : wr.frozen? ⟨w2.heap.size, 0, none⟩ = false := x_l.f0
            have x_l_7 : wr.frozen? ⟨w2.heap.size, 1, none⟩ = false := x_l.f1
            have x_l_8 : wr.frozen? ⟨w2.heap.size, 2, none⟩ = false := x_l.f2
            have x_l_9 : wr.frozen? ⟨w2.heap.size, 3, none⟩ = false := x_l.f3
            have x_l_10 : wr.frozen? ⟨w2.heap.size, 4, none⟩ = false := x_l.f4
            have x_l_11 : wr.frozen? ⟨w2.heap.size, 5, none⟩ = false := x_l.f5
            refine takeL_last rfl (by kernel_rfl) (fun Kc hK => ?_)
            go_simp
            refine hK.out _ _ ?_
            clear hK Kc
            refine anyL_done (by kernel_rfl) ?_ _
            obtain ⟨Z, hZ⟩ : ∃ Z, Z = ((wr.setCell ⟨w2.heap.size, 4, none⟩ (.int .i64 u)).setCell ⟨w2.heap.size, 5, none⟩ (.int .i64 v)).drew := ⟨_, rfl⟩
            replace x_l : B6 Z (w2.heap.size) (.int .i64 (a1 + s1)) (.int .i64 (a2 + s2)) (.int .i64 (b1 + s1)) (.int .i64 (b2 + s2)) (.int .i64 u) (.int .i64 v) := by rw [hZ]; exact (b6_row (((row_b6 y_l).set 4 (.int .i64 u) (by simp)).set 5 (.int .i64 v) (by simp))).drew
            replace x_t : B6 Z (w.heap.size) (.int .i64 a1) (.int .i64 a2) (.int .i64 b1) (.int .i64 b2) (.int .i64 c1) (.int .i64 c2) := by rw [hZ]; exact ((y_t.put (by omega)).put (by omega)).drew
            replace x_s : Bx Z (w.heap.size + 1) (.int .i64 s1) (.int .i64 s2) := by rw [hZ]; exact ((y_s.put (by omega)).put (by omega)).drew
            replace BB : Below w.heap.size w Z := by rw [hZ]; exact ((B2.setCell (by show w.heap.size ≤ w2.heap.size; omega) _).setCell (by show w.heap.size ≤ w2.heap.size; omega) _).drew
            rw [← hZ]
            clear hZ y_t y_s y_l B2
            have ⟨x_l_0, x_l_1, x_l_2, x_l_3, x_l_4, x_l_5, x_l_6, x_l_7, x_l_8, x_l_9, x_l_10, x_l_11⟩ := x_l
            go_wp2_with (go_at_call 20; fail)
            refine (rlCan u v Z (r2x RU.out) (r2y RU.out) HM.out).mono ?_
            rintro e w4 ⟨rfl, bw4⟩
            clear x_l_0 x_l_1 x_l_2 x_l_3 x_l_4 x_l_5 x_l_6 x_l_7 x_l_8 x_l_9 x_l_10 x_l_11
            have zbw4 := bw4.size
            replace x_t := x_t.on bw4
            replace x_s := x_s.on bw4
            replace x_l := x_l.on bw4
            replace BB := also BB bw4
            have MK : True ∧ canC (a1 + s1) (a2 + s2) = true ∧ canC (b1 + s1) (b2 + s2) = true ∧ canC (c1 + s1) (c2 + s2) = true := ⟨trivial, HK.out.2.1, HK.out.2.2, (by rw [← Eu.out, ← Ev.out]; exact HM.out.symm)⟩
            have MK' : Hid _ := MK
            clear MK
            go_wp2
            rw [Eu.out, Ev.out] at x_l
            go_roundw
            case rel => exact ⟨Or.inr (Or.inr (Or.inr (⟨rfl, (by first | exact MK' | exact ⟨trivial, trivial⟩ | exact ⟨trivial, HK.out.2, trivial⟩ | exact ⟨trivial, HK.out.2.1, HK.out.2.2, trivial⟩), x_l⟩))), x_t, x_s, BB⟩
            case measure => simp [intOf]
        · skip
          obtain ⟨_, ma, mb, mc⟩ := HK.out
          have zs := bx_lt x_s
          have zl := b6_lt x_l
          have h0 := HQ0.out
          have hmh : hasP (a1 + s1) (a2 + s2) (b1 + s1) (b2 + s2) (c1 + s1) (c2 + s2) = true := has_yes.2 ⟨ma, mb, mc, by rw [area_moved]; exact h0⟩
          have Ma : Hid (R2 (a1 + s1, a2 + s2)) := ⟨in_64 (canC_true.1 ma).1, in_64 (canC_true.1 ma).2⟩
          have Mb : Hid (R2 (b1 + s1, b2 + s2)) := ⟨in_64 (canC_true.1 mb).1, in_64 (canC_true.1 mb).2⟩
          have Mc : Hid (R2 (c1 + s1, c2 + s2)) := ⟨in_64 (canC_true.1 mc).1, in_64 (canC_true.1 mc).2⟩
          have ht : 0 < (2 * areaP a1 a2 b1 b2 c1 c2).natAbs := Int.natAbs_pos.2 (fun k => h0 (by omega))
          have hcs := cen_size ha hb hc
          have hcl := cen_low h0
          have hrs := rad_size ha hb hc
          have hmp : 0 < (meanD (distP b1 b2 c1 c2) (distP c1 c2 a1 a2) (distP a1 a2 b1 b2)).natAbs := by have := mean_pos h0; omega
          obtain ⟨N1, hN1⟩ : ∃ z : Int, z = lowN (cenX a1 a2 b1 b2 c1 c2 * (2 * areaP a1 a2 b1 b2 c1 c2).sign) (2 * areaP a1 a2 b1 b2 c1 c2).natAbs := ⟨_, rfl⟩
          obtain ⟨D1, hD1⟩ : ∃ z : Nat, z = lowD (cenX a1 a2 b1 b2 c1 c2 * (2 * areaP a1 a2 b1 b2 c1 c2).sign) (2 * areaP a1 a2 b1 b2 c1 c2).natAbs := ⟨_, rfl⟩
          have ZN1 : Hid (N1.natAbs < 4294967296 ^ 10) := by unfold Hid; rw [hN1, ← hcl.1.1]; exact Nat.lt_of_le_of_lt (lowN_le _ _) hcs.1
          have ZD1 : Hid (D1 < 4294967296 ^ 10) := by unfold Hid; rw [hD1, ← hcl.1.2]; exact Nat.lt_of_le_of_lt (lowD_le _ _) hcs.2.2
          have hd1 : 0 < D1 := by rw [hD1]; exact lowD_pos ht
          have hml1 := cen_low_moved (s := s1) (t := s2) h0 hN1 hD1
          obtain ⟨P1, hP1⟩ : ∃ z : Int, z = lowN (cenX (a1 + s1) (a2 + s2) (b1 + s1) (b2 + s2) (c1 + s1) (c2 + s2) * (2 * areaP (a1 + s1) (a2 + s2) (b1 + s1) (b2 + s2) (c1 + s1) (c2 + s2)).sign) (2 * areaP (a1 + s1) (a2 + s2) (b1 + s1) (b2 + s2) (c1 + s1) (c2 + s2)).natAbs := ⟨_, rfl⟩
          obtain ⟨Q1, hQ1⟩ : ∃ z : Nat, z = lowD (cenX (a1 + s1) (a2 + s2) (b1 + s1) (b2 + s2) (c1 + s1) (c2 + s2) * (2 * areaP (a1 + s1) (a2 + s2) (b1 + s1) (b2 + s2) (c1 + s1) (c2 + s2)).sign) (2 * areaP (a1 + s1) (a2 + s2) (b1 + s1) (b2 + s2) (c1 + s1) (c2 + s2)).natAbs := ⟨_, rfl⟩
          rw [← hP1, ← hQ1] at hml1
          obtain ⟨T1, hT1⟩ : ∃ z : Int, z = N1 * ((1 : Nat) : Int) + s1 * (D1 : Int) := ⟨_, rfl⟩
          obtain ⟨O1, hO1⟩ : ∃ z : Nat, z = D1 * 1 := ⟨_, rfl⟩
          rw [← hT1, ← hO1] at hml1
          have LP1 : Hid (P1 = lowN T1 O1) := hml1.1
          have LQ1 : Hid (Q1 = lowD T1 O1) := hml1.2
          have EN1 : Hid _ := hN1
          clear hN1
          have ED1 : Hid _ := hD1
          clear hD1
          have EP1 : Hid _ := hP1
          clear hP1
          have EQ1 : Hid _ := hQ1
          clear hQ1
          have ET1 : Hid _ := hT1
          clear hT1
          have EO1 : Hid _ := hO1
          clear hO1
          have Hd1 : Hid _ := hd1
          clear hd1 hml1
          obtain ⟨N2, hN2⟩ : ∃ z : Int, z = lowN (cenY a1 a2 b1 b2 c1 c2 * (2 * areaP a1 a2 b1 b2 c1 c2).sign) (2 * areaP a1 a2 b1 b2 c1 c2).natAbs := ⟨_, rfl⟩
          obtain ⟨D2, hD2⟩ : ∃ z : Nat, z = lowD (cenY a1 a2 b1 b2 c1 c2 * (2 * areaP a1 a2 b1 b2 c1 c2).sign) (2 * areaP a1 a2 b1 b2 c1 c2).natAbs := ⟨_, rfl⟩
          have ZN2 : Hid (N2.natAbs < 4294967296 ^ 10) := by unfold Hid; rw [hN2, ← hcl.2.1]; exact Nat.lt_of_le_of_lt (lowN_le _ _) hcs.2.1
          have ZD2 : Hid (D2 < 4294967296 ^ 10) := by unfold Hid; rw [hD2, ← hcl.2.2]; exact Nat.lt_of_le_of_lt (lowD_le _ _) hcs.2.2
          have hd2 : 0 < D2 := by rw [hD2]; exact lowD_pos ht
          have hml2 := cen_low_movedY (s := s1) (t := s2) h0 hN2 hD2
          obtain ⟨P2, hP2⟩ : ∃ z : Int, z = lowN (cenY (a1 + s1) (a2 + s2) (b1 + s1) (b2 + s2) (c1 + s1) (c2 + s2) * (2 * areaP (a1 + s1) (a2 + s2) (b1 + s1) (b2 + s2) (c1 + s1) (c2 + s2)).sign) (2 * areaP (a1 + s1) (a2 + s2) (b1 + s1) (b2 + s2) (c1 + s1) (c2 + s2)).natAbs := ⟨_, rfl⟩
          obtain ⟨Q2, hQ2⟩ : ∃ z : Nat, z = lowD (cenY (a1 + s1) (a2 + s2) (b1 + s1) (b2 + s2) (c1 + s1) (c2 + s2) * (2 * areaP (a1 + s1) (a2 + s2) (b1 + s1) (b2 + s2) (c1 + s1) (c2 + s2)).sign) (2 * areaP (a1 + s1) (a2 + s2) (b1 + s1) (b2 + s2) (c1 + s1) (c2 + s2)).natAbs := ⟨_, rfl⟩
          rw [← hP2, ← hQ2] at hml2
          obtain ⟨T2, hT2⟩ : ∃ z : Int, z = N2 * ((1 : Nat) : Int) + s2 * (D2 : Int) := ⟨_, rfl⟩
          obtain ⟨O2, hO2⟩ : ∃ z : Nat, z = D2 * 1 := ⟨_, rfl⟩
          rw [← hT2, ← hO2] at hml2
          have LP2 : Hid (P2 = lowN T2 O2) := hml2.1
          have LQ2 : Hid (Q2 = lowD T2 O2) := hml2.2
          have EN2 : Hid _ := hN2
          clear hN2
          have ED2 : Hid _ := hD2
          clear hD2
          have EP2 : Hid _ := hP2
          clear hP2
          have EQ2 : Hid _ := hQ2
          clear hQ2
          have ET2 : Hid _ := hT2
          clear hT2
          have EO2 : Hid _ := hO2
          clear hO2
          have Hd2 : Hid _ := hd2
          clear hd2 hml2
          obtain ⟨A, hA⟩ : ∃ z : Int, z = lowN (rad2 a1 a2 b1 b2 c1 c2) ((2 * areaP a1 a2 b1 b2 c1 c2).natAbs * (2 * areaP a1 a2 b1 b2 c1 c2).natAbs) := ⟨_, rfl⟩
          obtain ⟨B, hB⟩ : ∃ z : Nat, z = lowD (rad2 a1 a2 b1 b2 c1 c2) ((2 * areaP a1 a2 b1 b2 c1 c2).natAbs * (2 * areaP a1 a2 b1 b2 c1 c2).natAbs) := ⟨_, rfl⟩
          have hI := low_idem (z := rad2 a1 a2 b1 b2 c1 c2) (Nat.mul_pos ht ht)
          rw [← hA, ← hB] at hI
          have IA : Hid (A = lowN A B) := hI.1
          have IB : Hid (B = lowD A B) := hI.2
          have MA : Hid (A = lowN (rad2 (a1 + s1) (a2 + s2) (b1 + s1) (b2 + s2) (c1 + s1) (c2 + s2)) ((2 * areaP (a1 + s1) (a2 + s2) (b1 + s1) (b2 + s2) (c1 + s1) (c2 + s2)).natAbs * (2 * areaP (a1 + s1) (a2 + s2) (b1 + s1) (b2 + s2) (c1 + s1) (c2 + s2)).natAbs)) := by unfold Hid; rw [(cen_moved a1 a2 b1 b2 c1 c2 s1 s2).2.2, area_moved]; exact hA
          have MB : Hid (B = lowD (rad2 (a1 + s1) (a2 + s2) (b1 + s1) (b2 + s2) (c1 + s1) (c2 + s2)) ((2 * areaP (a1 + s1) (a2 + s2) (b1 + s1) (b2 + s2) (c1 + s1) (c2 + s2)).natAbs * (2 * areaP (a1 + s1) (a2 + s2) (b1 + s1) (b2 + s2) (c1 + s1) (c2 + s2)).natAbs)) := by unfold Hid; rw [(cen_moved a1 a2 b1 b2 c1 c2 s1 s2).2.2, area_moved]; exact hB
          have ZA : Hid (A.natAbs < 4294967296 ^ 10) := by unfold Hid; rw [hA]; exact Nat.lt_of_le_of_lt (lowN_le _ _) hrs.1
          have ZB : Hid (B < 4294967296 ^ 10) := by unfold Hid; rw [hB]; exact Nat.lt_of_le_of_lt (lowD_le _ _) hrs.2
          have HB0 : Hid (0 < B) := by unfold Hid; rw [hB]; exact lowD_pos (Nat.mul_pos ht ht)
          have EA : Hid _ := hA
          have EB : Hid _ := hB
          have HMH : Hid _ := hmh
          clear hA hB hI hcs hcl hrs hmp ht h0 hmh HK ma mb mc
          have ⟨x_t_0, x_t_1, x_t_2, x_t_3, x_t_4, x_t_5, x_t_6, x_t_7, x_t_8, x_t_9, x_t_10, x_t_11⟩ := x_t
          have ⟨x_l_0, x_l_1, x_l_2, x_l_3, x_l_4, x_l_5, x_l_6, x_l_7, x_l_8, x_l_9, x_l_10, x_l_11⟩ := x_l
          have ⟨x_s_0, x_s_1, x_s_2, x_s_3⟩ := x_s
          go_wp2_with (go_at_call 7; fail)
          refine ((hC.out a1 a2 b1 b2 c1 c2 wr Ra Rb Rc).1 hh _ _ _ _ EN1.out ED1.out EN2.out ED2.out).mono ?_
          rintro e v1 ⟨n41, a41, m41, e41, b41, o41, y41, n42, a42, m42, e42, b42, o42, y42, rfl, x1, x2, bv1⟩
          clear x_t_0 x_t_1 x_t_2 x_t_3 x_t_4 x_t_5 x_t_6 x_t_7 x_t_8 x_t_9 x_t_10 x_t_11 x_l_0 x_l_1 x_l_2 x_l_3 x_l_4 x_l_5 x_l_6 x_l_7 x_l_8 x_l_9 x_l_10 x_l_11 x_s_0 x_s_1 x_s_2 x_s_3
          have zbv1 := bv1.size
          replace x_t := x_t.on bv1
          replace x_s := x_s.on bv1
          replace x_l := x_l.on bv1
          replace BB := also BB bv1
          replace x1 := x1.qi 10 (by decide) (by decide) ZN1.out ZD1.out
          replace x2 := x2.qi 10 (by decide) (by decide) ZN2.out ZD2.out
          obtain ⟨X1, hX1, bX1, x_c7, sX1⟩ := bs_6 v1 (.bool n41) (.slice a41 m41 e41) (.slice b41 o41 y41) (.bool n42) (.slice a42 m42 e42) (.slice b42 o42 y42) 31
          have zbX1 := bX1.size
          replace x_t := x_t.on bX1
          replace x_s := x_s.on bX1
          replace x_l := x_l.on bX1
          replace BB := also BB bX1
          replace x1 := x1.below bX1
          replace x2 := x2.below bX1
          have st_t_0 : (v1.alloc (.cells #[.bool n41, .slice a41 m41 e41, .slice b41 o41 y41, .bool n42, .slice a42 m42 e42, .slice b42 o42 y42] 31)).cell? ⟨w.heap.size, 0, none⟩ = some (.int .i64 a1) := by rw [← hX1]; exact x_t.c0
          have st_t_1 : (v1.alloc (.cells #[.bool n41, .slice a41 m41 e41, .slice b41 o41 y41, .bool n42, .slice a42 m42 e42, .slice b42 o42 y42] 31)).cell? ⟨w.heap.size, 1, none⟩ = some (.int .i64 a2) := by rw [← hX1]; exact x_t.c1
          have st_t_2 : (v1.alloc (.cells #[.bool n41, .slice a41 m41 e41, .slice b41 o41 y41, .bool n42, .slice a42 m42 e42, .slice b42 o42 y42] 31)).cell? ⟨w.heap.size, 2, none⟩ = some (.int .i64 b1) := by rw [← hX1]; exact x_t.c2
          have st_t_3 : (v1.alloc (.cells #[.bool n41, .slice a41 m41 e41, .slice b41 o41 y41, .bool n42, .slice a42 m42 e42, .slice b42 o42 y42] 31)).cell? ⟨w.heap.size, 3, none⟩ = some (.int .i64 b2) := by rw [← hX1]; exact x_t.c3
          have st_t_4 : (v1.alloc (.cells #[.bool n41, .slice a41 m41 e41, .slice b41 o41 y41, .bool n42, .slice a42 m42 e42, .slice b42 o42 y42] 31)).cell? ⟨w.heap.size, 4, none⟩ = some (.int .i64 c1) := by rw [← hX1]; exact x_t.c4
          have st_t_5 : (v1.alloc (.cells #[.bool n41, .slice a41 m41 e41, .slice b41 o41 y41, .bool n42, .slice a42 m42 e42, .slice b42 o42 y42] 31)).cell? ⟨w.heap.size, 5, none⟩ = some (.int .i64 c2) := by rw [← hX1]; exact x_t.c5
          have sf_t_0 : (v1.alloc (.cells #[.bool n41, .slice a41 m41 e41, .slice b41 o41 y41, .bool n42, .slice a42 m42 e42, .slice b42 o42 y42] 31)).frozen? ⟨w.heap.size, 0, none⟩ = false := by rw [← hX1]; exact x_t.f0
          have sf_t_1 : (v1.alloc (.cells #[.bool n41, .slice a41 m41 e41, .slice b41 o41 y41, .bool n42, .slice a42 m42 e42, .slice b42 o42 y42] 31)).frozen? ⟨w.heap.size, 1, none⟩ = false := by rw [← hX1]; exact x_t.f1
          have sf_t_2 : (v1.alloc (.cells #[.bool n41, .slice a41 m41 e41, .slice b41 o41 y41, .bool n42, .slice a42 m42 e42, .slice b42 o42 y42] 31)).frozen? ⟨w.heap.size, 2, none⟩ = false := by rw [← hX1]; exact x_t.f2
          have sf_t_3 : (v1.alloc (.cells #[.bool n41, .slice a41 m41 e41, .slice b41 o41 y41, .bool n42, .slice a42 m42 e42, .slice b42 o42 y42] 31)).frozen? ⟨w.heap.size, 3, none⟩ = false := by rw [← hX1]; exact x_t.f3
          have sf_t_4 : (v1.alloc (.cells #[.bool n41, .slice a41 m41 e41, .slice b41 o41 y41, .bool n42, .slice a42 m42 e42, .slice b42 o42 y42] 31)).frozen? ⟨w.heap.size, 4, none⟩ = false := by rw [← hX1]; exact x_t.f4
          have sf_t_5 : (v1.alloc (.cells #[.bool n41, .slice a41 m41 e41, .slice b41 o41 y41, .bool n42, .slice a42 m42 e42, .slice b42 o42 y42] 31)).frozen? ⟨w.heap.size, 5, none⟩ = false := by rw [← hX1]; exact x_t.f5
          have st_l_0 : (v1.alloc (.cells #[.bool n41, .slice a41 m41 e41, .slice b41 o41 y41, .bool n42, .slice a42 m42 e42, .slice b42 o42 y42] 31)).cell? ⟨w2.heap.size, 0, none⟩ = some (.int .i64 (a1 + s1)) := by rw [← hX1]; exact x_l.c0
          have st_l_1 : (v1.alloc (.cells #[.bool n41, .slice a41 m41 e41, .slice b41 o41 y41, .bool n42, .slice a42 m42 e42, .slice b42 o42 y42] 31)).cell? ⟨w2.heap.size, 1, none⟩ = some (.int .i64 (a2 + s2)) := by rw [← hX1]; exact x_l.c1
          have st_l_2 : (v1.alloc (.cells #[.bool n41, .slice a41 m41 e41, .slice b41 o41 y41, .bool n42, .slice a42 m42 e42, .slice b42 o42 y42] 31)).cell? ⟨w2.heap.size, 2, none⟩ = some (.int .i64 (b1 + s1)) := by rw [← hX1]; exact x_l.c2
          have st_l_3 : (v1.alloc (.cells #[.bool n41, .slice a41 m41 e41, .slice b41 o41 y41, .bool n42, .slice a42 m42 e42, .slice b42 o42 y42] 31)).cell? ⟨w2.heap.size, 3, none⟩ = some (.int .i64 (b2 + s2)) := by rw [← hX1]; exact x_l.c3
          have st_l_4 : (v1.alloc (.cells #[.bool n41, .slice a41 m41 e41, .slice b41 o41 y41, .bool n42, .slice a42 m42 e42, .slice b42 o42 y42] 31)).cell? ⟨w2.heap.size, 4, none⟩ = some (.int .i64 (c1 + s1)) := by rw [← hX1]; exact x_l.c4
          have st_l_5 : (v1.alloc (.cells #[.bool n41, .slice a41 m41 e41, .slice b41 o41 y41, .bool n42, .slice a42 m42 e42, .slice b42 o42 y42] 31)).cell? ⟨w2.heap.size, 5, none⟩ = some (.int .i64 (c2 + s2)) := by rw [← hX1]; exact x_l.c5
          have sf_l_0 : (v1.alloc (.cells #[.bool n41, .slice a41 m41 e41, .slice b41 o41 y41, .bool n42, .slice a42 m42 e42, .slice b42 o42 y42] 31)).frozen? ⟨w2.heap.size, 0, none⟩ = false := by rw [← hX1]; exact x_l.f0
          have sf_l_1 : (v1.alloc (.cells #[.bool n41, .slice a41 m41 e41, .slice b41 o41 y41, .bool n42, .slice a42 m42 e42, .slice b42 o42 y42] 31)).frozen? ⟨w2.heap.size, 1, none⟩ = false := by rw [← hX1]; exact x_l.f1
          have sf_l_2 : (v1.alloc (.cells #[.bool n41, .slice a41 m41 e41, .slice b41 o41 y41, .bool n42, .slice a42 m42 e42, .slice b42 o42 y42] 31)).frozen? ⟨w2.heap.size, 2, none⟩ = false := by rw [← hX1]; exact x_l.f2
          have sf_l_3 : (v1.alloc (.cells #[.bool n41, .slice a41 m41 e41, .slice b41 o41 y41, .bool n42, .slice a42 m42 e42, .slice b42 o42 y42] 31)).frozen? ⟨w2.heap.size, 3, none⟩ = false := by rw [← hX1]; exact x_l.f3
          have sf_l_4 : (v1.alloc (.cells #[.bool n41, .slice a41 m41 e41, .slice b41 o41 y41, .bool n42, .slice a42 m42 e42, .slice b42 o42 y42] 31)).frozen? ⟨w2.heap.size, 4, none⟩ = false := by rw [← hX1]; exact x_l.f4
          have sf_l_5 : (v1.alloc (.cells #[.bool n41, .slice a41 m41 e41, .slice b41 o41 y41, .bool n42, .slice a42 m42 e42, .slice b42 o42 y42] 31)).frozen? ⟨w2.heap.size, 5, none⟩ = false := by rw [← hX1]; exact x_l.f5
          have st_s_0 : (v1.alloc (.cells #[.bool n41, .slice a41 m41 e41, .slice b41 o41 y41, .bool n42, .slice a42 m42 e42, .slice b42 o42 y42] 31)).cell? ⟨w.heap.size + 1, 0, none⟩ = some (.int .i64 s1) := by rw [← hX1]; exact x_s.c0
          have st_s_1 : (v1.alloc (.cells #[.bool n41, .slice a41 m41 e41, .slice b41 o41 y41, .bool n42, .slice a42 m42 e42, .slice b42 o42 y42] 31)).cell? ⟨w.heap.size + 1, 1, none⟩ = some (.int .i64 s2) := by rw [← hX1]; exact x_s.c1
          have sf_s_0 : (v1.alloc (.cells #[.bool n41, .slice a41 m41 e41, .slice b41 o41 y41, .bool n42, .slice a42 m42 e42, .slice b42 o42 y42] 31)).frozen? ⟨w.heap.size + 1, 0, none⟩ = false := by rw [← hX1]; exact x_s.f0
          have sf_s_1 : (v1.alloc (.cells #[.bool n41, .slice a41 m41 e41, .slice b41 o41 y41, .bool n42, .slice a42 m42 e42, .slice b42 o42 y42] 31)).frozen? ⟨w.heap.size + 1, 1, none⟩ = false := by rw [← hX1]; exact x_s.f1
          go_wp2_with (go_at_call 7; fail)
          rw [← hX1]
          clear hX1 st_t_0 st_t_1 st_t_2 st_t_3 st_t_4 st_t_5 sf_t_0 sf_t_1 sf_t_2 sf_t_3 sf_t_4 sf_t_5 st_l_0 st_l_1 st_l_2 st_l_3 st_l_4 st_l_5 sf_l_0 sf_l_1 sf_l_2 sf_l_3 sf_l_4 sf_l_5 st_s_0 st_s_1 sf_s_0 sf_s_1
          refine ((hC.out (a1 + s1) (a2 + s2) (b1 + s1) (b2 + s2) (c1 + s1) (c2 + s2) X1 Ma Mb Mc).1 HMH.out _ _ _ _ EP1.out EQ1.out EP2.out EQ2.out).mono ?_
          rintro e v2 ⟨n43, a43, m43, e43, b43, o43, y43, n44, a44, m44, e44, b44, o44, y44, rfl, x3, x4, bv2⟩
          have zbv2 := bv2.size
          replace x_t := x_t.on bv2
          replace x_s := x_s.on bv2
          replace x_l := x_l.on bv2
          replace BB := also BB bv2
          replace x1 := x1.below bv2
          replace x2 := x2.below bv2
          replace x_c7 := x_c7.on bv2
          obtain ⟨X2, hX2, bX2, x_c9, sX2⟩ := bs_6 v2 (.bool n43) (.slice a43 m43 e43) (.slice b43 o43 y43) (.bool n44) (.slice a44 m44 e44) (.slice b44 o44 y44) 31
          have zbX2 := bX2.size
          replace x_t := x_t.on bX2
          replace x_s := x_s.on bX2
          replace x_l := x_l.on bX2
          replace BB := also BB bX2
          replace x1 := x1.below bX2
          replace x2 := x2.below bX2
          replace x_c7 := x_c7.on bX2
          replace x3 := x3.below bX2
          replace x4 := x4.below bX2
          have st_t_0 : (v2.alloc (.cells #[.bool n43, .slice a43 m43 e43, .slice b43 o43 y43, .bool n44, .slice a44 m44 e44, .slice b44 o44 y44] 31)).cell? ⟨w.heap.size, 0, none⟩ = some (.int .i64 a1) := by rw [← hX2]; exact x_t.c0
          have st_t_1 : (v2.alloc (.cells #[.bool n43, .slice a43 m43 e43, .slice b43 o43 y43, .bool n44, .slice a44 m44 e44, .slice b44 o44 y44] 31)).cell? ⟨w.heap.size, 1, none⟩ = some (.int .i64 a2) := by rw [← hX2]; exact x_t.c1
          have st_t_2 : (v2.alloc (.cells #[.bool n43, .slice a43 m43 e43, .slice b43 o43 y43, .bool n44, .slice a44 m44 e44, .slice b44 o44 y44] 31)).cell? ⟨w.heap.size, 2, none⟩ = some (.int .i64 b1) := by rw [← hX2]; exact x_t.c2
          have st_t_3 : (v2.alloc (.cells #[.bool n43, .slice a43 m43 e43, .slice b43 o43 y43, .bool n44, .slice a44 m44 e44, .slice b44 o44 y44] 31)).cell? ⟨w.heap.size, 3, none⟩ = some (.int .i64 b2) := by rw [← hX2]; exact x_t.c3
          have st_t_4 : (v2.alloc (.cells #[.bool n43, .slice a43 m43 e43, .slice b43 o43 y43, .bool n44, .slice a44 m44 e44, .slice b44 o44 y44] 31)).cell? ⟨w.heap.size, 4, none⟩ = some (.int .i64 c1) := by rw [← hX2]; exact x_t.c4
          have st_t_5 : (v2.alloc (.cells #[.bool n43, .slice a43 m43 e43, .slice b43 o43 y43, .bool n44, .slice a44 m44 e44, .slice b44 o44 y44] 31)).cell? ⟨w.heap.size, 5, none⟩ = some (.int .i64 c2) := by rw [← hX2]; exact x_t.c5
          have sf_t_0 : (v2.alloc (.cells #[.bool n43, .slice a43 m43 e43, .slice b43 o43 y43, .bool n44, .slice a44 m44 e44, .slice b44 o44 y44] 31)).frozen? ⟨w.heap.size, 0, none⟩ = false := by rw [← hX2]; exact x_t.f0
          have sf_t_1 : (v2.alloc (.cells #[.bool n43, .slice a43 m43 e43, .slice b43 o43 y43, .bool n44, .slice a44 m44 e44, .slice b44 o44 y44] 31)).frozen? ⟨w.heap.size, 1, none⟩ = false := by rw [← hX2]; exact x_t.f1
          have sf_t_2 : (v2.alloc (.cells #[.bool n43, .slice a43 m43 e43, .slice b43 o43 y43, .bool n44, .slice a44 m44 e44, .slice b44 o44 y44] 31)).frozen? ⟨w.heap.size, 2, none⟩ = false := by rw [← hX2]; exact x_t.f2
          have sf_t_3 : (v2.alloc (.cells #[.bool n43, .slice a43 m43 e43, .slice b43 o43 y43, .bool n44, .slice a44 m44 e44, .slice b44 o44 y44] 31)).frozen? ⟨w.heap.size, 3, none⟩ = false := by rw [← hX2]; exact x_t.f3
          have sf_t_4 : (v2.alloc (.cells #[.bool n43, .slice a43 m43 e43, .slice b43 o43 y43, .bool n44, .slice a44 m44 e44, .slice b44 o44 y44] 31)).frozen? ⟨w.heap.size, 4, none⟩ = false := by rw [← hX2]; exact x_t.f4
          have sf_t_5 : (v2.alloc (.cells #[.bool n43, .slice a43 m43 e43, .slice b43 o43 y43, .bool n44, .slice a44 m44 e44, .slice b44 o44 y44] 31)).frozen? ⟨w.heap.size, 5, none⟩ = false := by rw [← hX2]; exact x_t.f5
          have st_l_0 : (v2.alloc (.cells #[.bool n43, .slice a43 m43 e43, .slice b43 o43 y43, .bool n44, .slice a44 m44 e44, .slice b44 o44 y44] 31)).cell? ⟨w2.heap.size, 0, none⟩ = some (.int .i64 (a1 + s1)) := by rw [← hX2]; exact x_l.c0
          have st_l_1 : (v2.alloc (.cells #[.bool n43, .slice a43 m43 e43, .slice b43 o43 y43, .bool n44, .slice a44 m44 e44, .slice b44 o44 y44] 31)).cell? ⟨w2.heap.size, 1, none⟩ = some (.int .i64 (a2 + s2)) := by rw [← hX2]; exact x_l.c1
          have st_l_2 : (v2.alloc (.cells #[.bool n43, .slice a43 m43 e43, .slice b43 o43 y43, .bool n44, .slice a44 m44 e44, .slice b44 o44 y44] 31)).cell? ⟨w2.heap.size, 2, none⟩ = some (.int .i64 (b1 + s1)) := by rw [← hX2]; exact x_l.c2
          have st_l_3 : (v2.alloc (.cells #[.bool n43, .slice a43 m43 e43, .slice b43 o43 y43, .bool n44, .slice a44 m44 e44, .slice b44 o44 y44] 31)).cell? ⟨w2.heap.size, 3, none⟩ = some (.int .i64 (b2 + s2)) := by rw [← hX2]; exact x_l.c3
          have st_l_4 : (v2.alloc (.cells #[.bool n43, .slice a43 m43 e43, .slice b43 o43 y43, .bool n44, .slice a44 m44 e44, .slice b44 o44 y44] 31)).cell? ⟨w2.heap.size, 4, none⟩ = some (.int .i64 (c1 + s1)) := by rw [← hX2]; exact x_l.c4
          have st_l_5 : (v2.alloc (.cells #[.bool n43, .slice a43 m43 e43, .slice b43 o43 y43, .bool n44, .slice a44 m44 e44, .slice b44 o44 y44] 31)).cell? ⟨w2.heap.size, 5, none⟩ = some (.int .i64 (c2 + s2)) := by rw [← hX2]; exact x_l.c5
          have sf_l_0 : (v2.alloc (.cells #[.bool n43, .slice a43 m43 e43, .slice b43 o43 y43, .bool n44, .slice a44 m44 e44, .slice b44 o44 y44] 31)).frozen? ⟨w2.heap.size, 0, none⟩ = false := by rw [← hX2]; exact x_l.f0
          have sf_l_1 : (v2.alloc (.cells #[.bool n43, .slice a43 m43 e43, .slice b43 o43 y43, .bool n44, .slice a44 m44 e44, .slice b44 o44 y44] 31)).frozen? ⟨w2.heap.size, 1, none⟩ = false := by rw [← hX2]; exact x_l.f1
          have sf_l_2 : (v2.alloc (.cells #[.bool n43, .slice a43 m43 e43, .slice b43 o43 y43, .bool n44, .slice a44 m44 e44, .slice b44 o44 y44] 31)).frozen? ⟨w2.heap.size, 2, none⟩ = false := by rw [← hX2]; exact x_l.f2
          have sf_l_3 : (v2.alloc (.cells #[.bool n43, .slice a43 m43 e43, .slice b43 o43 y43, .bool n44, .slice a44 m44 e44, .slice b44 o44 y44] 31)).frozen? ⟨w2.heap.size, 3, none⟩ = false := by rw [← hX2]; exact x_l.f3
          have sf_l_4 : (v2.alloc (.cells #[.bool n43, .slice a43 m43 e43, .slice b43 o43 y43, .bool n44, .slice a44 m44 e44, .slice b44 o44 y44] 31)).frozen? ⟨w2.heap.size, 4, none⟩ = false := by rw [← hX2]; exact x_l.f4
          have sf_l_5 : (v2.alloc (.cells #[.bool n43, .slice a43 m43 e43, .slice b43 o43 y43, .bool n44, .slice a44 m44 e44, .slice b44 o44 y44] 31)).frozen? ⟨w2.heap.size, 5, none⟩ = false := by rw [← hX2]; exact x_l.f5
          have st_s_0 : (v2.alloc (.cells #[.bool n43, .slice a43 m43 e43, .slice b43 o43 y43, .bool n44, .slice a44 m44 e44, .slice b44 o44 y44] 31)).cell? ⟨w.heap.size + 1, 0, none⟩ = some (.int .i64 s1) := by rw [← hX2]; exact x_s.c0
          have st_s_1 : (v2.alloc (.cells #[.bool n43, .slice a43 m43 e43, .slice b43 o43 y43, .bool n44, .slice a44 m44 e44, .slice b44 o44 y44] 31)).cell? ⟨w.heap.size + 1, 1, none⟩ = some (.int .i64 s2) := by rw [← hX2]; exact x_s.c1
          have sf_s_0 : (v2.alloc (.cells #[.bool n43, .slice a43 m43 e43, .slice b43 o43 y43, .bool n44, .slice a44 m44 e44, .slice b44 o44 y44] 31)).frozen? ⟨w.heap.size + 1, 0, none⟩ = false := by rw [← hX2]; exact x_s.f0
          have sf_s_1 : (v2.alloc (.cells #[.bool n43, .slice a43 m43 e43, .slice b43 o43 y43, .bool n44, .slice a44 m44 e44, .slice b44 o44 y44] 31)).frozen? ⟨w.heap.size + 1, 1, none⟩ = false := by rw [← hX2]; exact x_s.f1
          go_wp2_with (go_at_call 13; fail)
          rw [← hX2]
          clear hX2 st_t_0 st_t_1 st_t_2 st_t_3 st_t_4 st_t_5 sf_t_0 sf_t_1 sf_t_2 sf_t_3 sf_t_4 sf_t_5 st_l_0 st_l_1 st_l_2 st_l_3 st_l_4 st_l_5 sf_l_0 sf_l_1 sf_l_2 sf_l_3 sf_l_4 sf_l_5 st_s_0 st_s_1 sf_s_0 sf_s_1
          refine ((hR.out a1 a2 b1 b2 c1 c2 X2 Ra Rb Rc).1 hh _ _ EA.out EB.out).mono ?_
          rintro e v3 ⟨n45, a45, m45, e45, b45, o45, y45, rfl, x5, bv3⟩
          have zbv3 := bv3.size
          replace x_t := x_t.on bv3
          replace x_s := x_s.on bv3
          replace x_l := x_l.on bv3
          replace BB := also BB bv3
          replace x1 := x1.below bv3
          replace x2 := x2.below bv3
          replace x_c7 := x_c7.on bv3
          replace x3 := x3.below bv3
          replace x4 := x4.below bv3
          replace x_c9 := x_c9.on bv3
          replace x5 := x5.qi 10 (by decide) (by decide) ZA.out ZB.out
          obtain ⟨X3, hX3, bX3, x_c11, sX3⟩ := bs_3 v3 (.bool n45) (.slice a45 m45 e45) (.slice b45 o45 y45) 29
          have zbX3 := bX3.size
          replace x_t := x_t.on bX3
          replace x_s := x_s.on bX3
          replace x_l := x_l.on bX3
          replace BB := also BB bX3
          replace x1 := x1.below bX3
          replace x2 := x2.below bX3
          replace x_c7 := x_c7.on bX3
          replace x3 := x3.below bX3
          replace x4 := x4.below bX3
          replace x_c9 := x_c9.on bX3
          replace x5 := x5.below bX3
          have st_t_0 : (v3.alloc (.cells #[.bool n45, .slice a45 m45 e45, .slice b45 o45 y45] 29)).cell? ⟨w.heap.size, 0, none⟩ = some (.int .i64 a1) := by rw [← hX3]; exact x_t.c0
          have st_t_1 : (v3.alloc (.cells #[.bool n45, .slice a45 m45 e45, .slice b45 o45 y45] 29)).cell? ⟨w.heap.size, 1, none⟩ = some (.int .i64 a2) := by rw [← hX3]; exact x_t.c1
          have st_t_2 : (v3.alloc (.cells #[.bool n45, .slice a45 m45 e45, .slice b45 o45 y45] 29)).cell? ⟨w.heap.size, 2, none⟩ = some (.int .i64 b1) := by rw [← hX3]; exact x_t.c2
          have st_t_3 : (v3.alloc (.cells #[.bool n45, .slice a45 m45 e45, .slice b45 o45 y45] 29)).cell? ⟨w.heap.size, 3, none⟩ = some (.int .i64 b2) := by rw [← hX3]; exact x_t.c3
          have st_t_4 : (v3.alloc (.cells #[.bool n45, .slice a45 m45 e45, .slice b45 o45 y45] 29)).cell? ⟨w.heap.size, 4, none⟩ = some (.int .i64 c1) := by rw [← hX3]; exact x_t.c4
          have st_t_5 : (v3.alloc (.cells #[.bool n45, .slice a45 m45 e45, .slice b45 o45 y45] 29)).cell? ⟨w.heap.size, 5, none⟩ = some (.int .i64 c2) := by rw [← hX3]; exact x_t.c5
          have sf_t_0 : (v3.alloc (.cells #[.bool n45, .slice a45 m45 e45, .slice b45 o45 y45] 29)).frozen? ⟨w.heap.size, 0, none⟩ = false := by rw [← hX3]; exact x_t.f0
          have sf_t_1 : (v3.alloc (.cells #[.bool n45, .slice a45 m45 e45, .slice b45 o45 y45] 29)).frozen? ⟨w.heap.size, 1, none⟩ = false := by rw [← hX3]; exact x_t.f1
          have sf_t_2 : (v3.alloc (.cells #[.bool n45, .slice a45 m45 e45, .slice b45 o45 y45] 29)).frozen? ⟨w.heap.size, 2, none⟩ = false := by rw [← hX3]; exact x_t.f2
          have sf_t_3 : (v3.alloc (.cells #[.bool n45, .slice a45 m45 e45, .slice b45 o45 y45] 29)).frozen? ⟨w.heap.size, 3, none⟩ = false := by rw [← hX3]; exact x_t.f3
          have sf_t_4 : (v3.alloc (.cells #[.bool n45, .slice a45 m45 e45, .slice b45 o45 y45] 29)).frozen? ⟨w.heap.size, 4, none⟩ = false := by rw [← hX3]; exact x_t.f4
          have sf_t_5 : (v3.alloc (.cells #[.bool n45, .slice a45 m45 e45, .slice b45 o45 y45] 29)).frozen? ⟨w.heap.size, 5, none⟩ = false := by rw [← hX3]; exact x_t.f5
          have st_l_0 : (v3.alloc (.cells #[.bool n45, .slice a45 m45 e45, .slice b45 o45 y45] 29)).cell? ⟨w2.heap.size, 0, none⟩ = some (.int .i64 (a1 + s1)) := by rw [← hX3]; exact x_l.c0
          have st_l_1 : (v3.alloc (.cells #[.bool n45, .slice a45 m45 e45, .slice b45 o45 y45] 29)).cell? ⟨w2.heap.size, 1, none⟩ = some (.int .i64 (a2 + s2)) := by rw [← hX3]; exact x_l.c1
          have st_l_2 : (v3.alloc (.cells #[.bool n45, .slice a45 m45 e45, .slice b45 o45 y45] 29)).cell? ⟨w2.heap.size, 2, none⟩ = some (.int .i64 (b1 + s1)) := by rw [← hX3]; exact x_l.c2
          have st_l_3 : (v3.alloc (.cells #[.bool n45, .slice a45 m45 e45, .slice b45 o45 y45] 29)).cell? ⟨w2.heap.size, 3, none⟩ = some (.int .i64 (b2 + s2)) := by rw [← hX3]; exact x_l.c3
          have st_l_4 : (v3.alloc (.cells #[.bool n45, .slice a45 m45 e45, .slice b45 o45 y45] 29)).cell? ⟨w2.heap.size, 4, none⟩ = some (.int .i64 (c1 + s1)) := by rw [← hX3]; exact x_l.c4
          have st_l_5 : (v3.alloc (.cells #[.bool n45, .slice a45 m45 e45, .slice b45 o45 y45] 29)).cell? ⟨w2.heap.size, 5, none⟩ = some (.int .i64 (c2 + s2)) := by rw [← hX3]; exact x_l.c5
          have sf_l_0 : (v3.alloc (.cells #[.bool n45, .slice a45 m45 e45, .slice b45 o45 y45] 29)).frozen? ⟨w2.heap.size, 0, none⟩ = false := by rw [← hX3]; exact x_l.f0
          have sf_l_1 : (v3.alloc (.cells #[.bool n45, .slice a45 m45 e45, .slice b45 o45 y45] 29)).frozen? ⟨w2.heap.size, 1, none⟩ = false := by rw [← hX3]; exact x_l.f1
          have sf_l_2 : (v3.alloc (.cells #[.bool n45, .slice a45 m45 e45, .slice b45 o45 y45] 29)).frozen? ⟨w2.heap.size, 2, none⟩ = false := by rw [← hX3]; exact x_l.f2
          have sf_l_3 : (v3.alloc (.cells #[.bool n45, .slice a45 m45 e45, .slice b45 o45 y45] 29)).frozen? ⟨w2.heap.size, 3, none⟩ = false := by rw [← hX3]; exact x_l.f3
          have sf_l_4 : (v3.alloc (.cells #[.bool n45, .slice a45 m45 e45, .slice b45 o45 y45] 29)).frozen? ⟨w2.heap.size, 4, none⟩ = false := by rw [← hX3]; exact x_l.f4
          have sf_l_5 : (v3.alloc (.cells #[.bool n45, .slice a45 m45 e45, .slice b45 o45 y45] 29)).frozen? ⟨w2.heap.size, 5, none⟩ = false := by rw [← hX3]; exact x_l.f5
          have st_s_0 : (v3.alloc (.cells #[.bool n45, .slice a45 m45 e45, .slice b45 o45 y45] 29)).cell? ⟨w.heap.size + 1, 0, none⟩ = some (.int .i64 s1) := by rw [← hX3]; exact x_s.c0
          have st_s_1 : (v3.alloc (.cells #[.bool n45, .slice a45 m45 e45, .slice b45 o45 y45] 29)).cell? ⟨w.heap.size + 1, 1, none⟩ = some (.int .i64 s2) := by rw [← hX3]; exact x_s.c1
          have sf_s_0 : (v3.alloc (.cells #[.bool n45, .slice a45 m45 e45, .slice b45 o45 y45] 29)).frozen? ⟨w.heap.size + 1, 0, none⟩ = false := by rw [← hX3]; exact x_s.f0
          have sf_s_1 : (v3.alloc (.cells #[.bool n45, .slice a45 m45 e45, .slice b45 o45 y45] 29)).frozen? ⟨w.heap.size + 1, 1, none⟩ = false := by rw [← hX3]; exact x_s.f1
          go_wp2_with (go_at_call 13; fail)
          rw [← hX3]
          clear hX3 st_t_0 st_t_1 st_t_2 st_t_3 st_t_4 st_t_5 sf_t_0 sf_t_1 sf_t_2 sf_t_3 sf_t_4 sf_t_5 st_l_0 st_l_1 st_l_2 st_l_3 st_l_4 st_l_5 sf_l_0 sf_l_1 sf_l_2 sf_l_3 sf_l_4 sf_l_5 st_s_0 st_s_1 sf_s_0 sf_s_1
          refine ((hR.out (a1 + s1) (a2 + s2) (b1 + s1) (b2 + s2) (c1 + s1) (c2 + s2) X3 Ma Mb Mc).1 HMH.out _ _ MA.out MB.out).mono ?_
          rintro e v4 ⟨n46, a46, m46, e46, b46, o46, y46, rfl, x6, bv4⟩
          have zbv4 := bv4.size
          replace x_t := x_t.on bv4
          replace x_s := x_s.on bv4
          replace x_l := x_l.on bv4
          replace BB := also BB bv4
          replace x1 := x1.below bv4
          replace x2 := x2.below bv4
          replace x_c7 := x_c7.on bv4
          replace x3 := x3.below bv4
          replace x4 := x4.below bv4
          replace x_c9 := x_c9.on bv4
          replace x5 := x5.below bv4
          replace x_c11 := x_c11.on bv4
          obtain ⟨X4, hX4, bX4, x_c13, sX4⟩ := bs_3 v4 (.bool n46) (.slice a46 m46 e46) (.slice b46 o46 y46) 29
          have zbX4 := bX4.size
          replace x_t := x_t.on bX4
          replace x_s := x_s.on bX4
          replace x_l := x_l.on bX4
          replace BB := also BB bX4
          replace x1 := x1.below bX4
          replace x2 := x2.below bX4
          replace x_c7 := x_c7.on bX4
          replace x3 := x3.below bX4
          replace x4 := x4.below bX4
          replace x_c9 := x_c9.on bX4
          replace x5 := x5.below bX4
          replace x_c11 := x_c11.on bX4
          replace x6 := x6.below bX4
          go_wp2
          rw [← hX4]
          clear hX4
          have dd1 : Below X4.heap.size X4 X4.drew := (Below.refl _ _).drew
          have zdd1 := dd1.size
          replace x_t := x_t.on dd1
          replace x_s := x_s.on dd1
          replace x_l := x_l.on dd1
          replace BB := also BB dd1
          replace x1 := x1.below dd1
          replace x2 := x2.below dd1
          replace x_c7 := x_c7.on dd1
          replace x3 := x3.below dd1
          replace x4 := x4.below dd1
          replace x_c9 := x_c9.on dd1
          replace x5 := x5.below dd1
          replace x_c11 := x_c11.on dd1
          replace x6 := x6.below dd1
          replace x_c13 := x_c13.on dd1
          refine wp_region_held_drew (S := (fun w' => w'.cell? ⟨v2.heap.size, 0, none⟩ = some (.bool n43) ∧ w'.cell? ⟨v2.heap.size, 1, none⟩ = some (.slice a43 m43 e43) ∧ w'.cell? ⟨v2.heap.size, 2, none⟩ = some (.slice b43 o43 y43) ∧ w'.cell? ⟨v2.heap.size, 3, none⟩ = some (.bool n44) ∧ w'.cell? ⟨v2.heap.size, 4, none⟩ = some (.slice a44 m44 e44) ∧ w'.cell? ⟨v2.heap.size, 5, none⟩ = some (.slice b44 o44 y44) ∧ w'.cell? ⟨v1.heap.size, 0, none⟩ = some (.bool n41) ∧ w'.cell? ⟨v1.heap.size, 1, none⟩ = some (.slice a41 m41 e41) ∧ w'.cell? ⟨v1.heap.size, 2, none⟩ = some (.slice b41 o41 y41) ∧ w'.cell? ⟨v1.heap.size, 3, none⟩ = some (.bool n42) ∧ w'.cell? ⟨v1.heap.size, 4, none⟩ = some (.slice a42 m42 e42) ∧ w'.cell? ⟨v1.heap.size, 5, none⟩ = some (.slice b42 o42 y42) ∧ w'.cell? ⟨w.heap.size + 1, 0, none⟩ = some (.int .i64 s1) ∧ w'.cell? ⟨w.heap.size + 1, 1, none⟩ = some (.int .i64 s2) ∧ w'.cell? ⟨v4.heap.size, 0, none⟩ = some (.bool n46) ∧ w'.cell? ⟨v4.heap.size, 1, none⟩ = some (.slice a46 m46 e46) ∧ w'.cell? ⟨v4.heap.size, 2, none⟩ = some (.slice b46 o46 y46) ∧ w'.cell? ⟨v3.heap.size, 0, none⟩ = some (.bool n45) ∧ w'.cell? ⟨v3.heap.size, 1, none⟩ = some (.slice a45 m45 e45) ∧ w'.cell? ⟨v3.heap.size, 2, none⟩ = some (.slice b45 o45 y45) ∧ Below w.heap.size w w')) (by kernel_rfl) ?_ (fun hHeld => ?_)
          · exact ⟨x_c9.c0, x_c9.c1, x_c9.c2, x_c9.c3, x_c9.c4, x_c9.c5, x_c7.c0, x_c7.c1, x_c7.c2, x_c7.c3, x_c7.c4, x_c7.c5, x_s.c0, x_s.c1, x_c13.c0, x_c13.c1, x_c13.c2, x_c11.c0, x_c11.c1, x_c11.c2, BB⟩
          refine take_yes (i := 0) (v := ?vz0) rfl (by kernel_rfl) (by kernel_rfl) (by kernel_rfl) (fun _ _ _ h => h) (by rfl) (by assumption) ?hyz0 ?restz0
          case hyz0 => (intro w hSw; (try dsimp only at hSw); first | (go_simp; done) | (go_simp; with_reducible rfl))
          simp only [Act.put, List.setIfInBounds_toArray, List.set_cons_zero, List.set_cons_succ]
          refine take_yes (i := 1) (v := ?vz1) rfl (by kernel_rfl) (by kernel_rfl) (by kernel_rfl) (fun _ _ _ h => h) (by rfl) (by assumption) ?hyz1 ?restz1
          case hyz1 => (intro w hSw; (try dsimp only at hSw); first | (go_simp; done) | (go_simp; with_reducible rfl))
          simp only [Act.put, List.setIfInBounds_toArray, List.set_cons_zero, List.set_cons_succ]
          refine take_yes (i := 2) (v := ?vz2) rfl (by kernel_rfl) (by kernel_rfl) (by kernel_rfl) (fun _ _ _ h => h) (by rfl) (by assumption) ?hyz2 ?restz2
          case hyz2 => (intro w hSw; (try dsimp only at hSw); first | (go_simp; done) | (go_simp; with_reducible rfl))
          simp only [Act.put, List.setIfInBounds_toArray, List.set_cons_zero, List.set_cons_succ]
          refine take_yes (i := 3) (v := ?vz3) rfl (by kernel_rfl) (by kernel_rfl) (by kernel_rfl) (fun _ _ _ h => h) (by rfl) (by assumption) ?hyz3 ?restz3
          case hyz3 => (intro w hSw; (try dsimp only at hSw); first | (go_simp; done) | (go_simp; with_reducible rfl))
          simp only [Act.put, List.setIfInBounds_toArray, List.set_cons_zero, List.set_cons_succ]
          refine take_yes (i := 4) (v := ?vz4) rfl (by kernel_rfl) (by kernel_rfl) (by kernel_rfl) (fun _ _ _ h => h) (by rfl) (by assumption) ?hyz4 ?restz4
          case hyz4 => (intro w hSw; (try dsimp only at hSw); first | (go_simp; done) | (go_simp; with_reducible rfl))
          simp only [Act.put, List.setIfInBounds_toArray, List.set_cons_zero, List.set_cons_succ]
          refine take_yes (i := 5) (v := ?vz5) rfl (by kernel_rfl) (by kernel_rfl) (by kernel_rfl) (fun _ _ _ h => h) (by rfl) (by assumption) ?hyz5 ?restz5
          case hyz5 => (intro w hSw; (try dsimp only at hSw); first | (go_simp; done) | (go_simp; with_reducible rfl))
          simp only [Act.put, List.setIfInBounds_toArray, List.set_cons_zero, List.set_cons_succ]
          refine take_yes (i := 6) (v := ?vz6) rfl (by kernel_rfl) (by kernel_rfl) (by kernel_rfl) (fun _ _ _ h => h) (by rfl) (by assumption) ?hyz6 ?restz6
          case hyz6 => (intro w hSw; (try dsimp only at hSw); first | (go_simp; done) | (go_simp; with_reducible rfl))
          simp only [Act.put, List.setIfInBounds_toArray, List.set_cons_zero, List.set_cons_succ]
          refine take_yes (i := 7) (v := ?vz7) rfl (by kernel_rfl) (by kernel_rfl) (by kernel_rfl) (fun _ _ _ h => h) (by rfl) (by assumption) ?hyz7 ?restz7
          case hyz7 => (intro w hSw; (try dsimp only at hSw); first | (go_simp; done) | (go_simp; with_reducible rfl))
          simp only [Act.put, List.setIfInBounds_toArray, List.set_cons_zero, List.set_cons_succ]
          refine take_yes (i := 8) (v := ?vz8) rfl (by kernel_rfl) (by kernel_rfl) (by kernel_rfl) (fun _ _ _ h => h) (by rfl) (by assumption) ?hyz8 ?restz8
          case hyz8 => (intro w hSw; (try dsimp only at hSw); first | (go_simp; done) | (go_simp; with_reducible rfl))
          simp only [Act.put, List.setIfInBounds_toArray, List.set_cons_zero, List.set_cons_succ]
          refine take_yes (i := 10) (v := ?vz10) rfl (by kernel_rfl) (by kernel_rfl) (by kernel_rfl) (fun _ _ _ h => h) (by rfl) (by assumption) ?hyz10 ?restz10
          case hyz10 => (intro w hSw; (try dsimp only at hSw); first | (go_simp; done) | (go_simp; with_reducible rfl))
          simp only [Act.put, List.setIfInBounds_toArray, List.set_cons_zero, List.set_cons_succ]
          refine take_yes (i := 11) (v := ?vz11) rfl (by kernel_rfl) (by kernel_rfl) (by kernel_rfl) (fun _ _ _ h => h) (by rfl) (by assumption) ?hyz11 ?restz11
          case hyz11 => (intro w hSw; (try dsimp only at hSw); first | (go_simp; done) | (go_simp; with_reducible rfl))
          simp only [Act.put, List.setIfInBounds_toArray, List.set_cons_zero, List.set_cons_succ]
          refine take_call (i := 9) rfl (by kernel_rfl) (fun Kc hK => ?_)
          go_simp
          (go_at_call 16; refine (rqOfP n41 a41 m41 e41 b41 o41 y41 N1 D1 10 _ x1 Hd1.out).mono ?_; rintro e y50 ⟨s50, d50, l50, c50, t50, g50, h50, k50, rfl, q50, f50, by50⟩)
          refine hK.out _ _ ?_ (fun hHeld => ?_)
          · exact ⟨cell_on by50 hHeld.1, cell_on by50 hHeld.2.1, cell_on by50 hHeld.2.2.1, cell_on by50 hHeld.2.2.2.1, cell_on by50 hHeld.2.2.2.2.1, cell_on by50 hHeld.2.2.2.2.2.1, cell_on by50 hHeld.2.2.2.2.2.2.1, cell_on by50 hHeld.2.2.2.2.2.2.2.1, cell_on by50 hHeld.2.2.2.2.2.2.2.2.1, cell_on by50 hHeld.2.2.2.2.2.2.2.2.2.1, cell_on by50 hHeld.2.2.2.2.2.2.2.2.2.2.1, cell_on by50 hHeld.2.2.2.2.2.2.2.2.2.2.2.1, cell_on by50 hHeld.2.2.2.2.2.2.2.2.2.2.2.2.1, cell_on by50 hHeld.2.2.2.2.2.2.2.2.2.2.2.2.2.1, cell_on by50 hHeld.2.2.2.2.2.2.2.2.2.2.2.2.2.2.1, cell_on by50 hHeld.2.2.2.2.2.2.2.2.2.2.2.2.2.2.2.1, cell_on by50 hHeld.2.2.2.2.2.2.2.2.2.2.2.2.2.2.2.2.1, cell_on by50 hHeld.2.2.2.2.2.2.2.2.2.2.2.2.2.2.2.2.2.1, cell_on by50 hHeld.2.2.2.2.2.2.2.2.2.2.2.2.2.2.2.2.2.2.1, cell_on by50 hHeld.2.2.2.2.2.2.2.2.2.2.2.2.2.2.2.2.2.2.2.1, also hHeld.2.2.2.2.2.2.2.2.2.2.2.2.2.2.2.2.2.2.2.2 by50⟩
          clear hK Kc
          have zby50 := by50.size
          replace x_t := x_t.on by50
          replace x_s := x_s.on by50
          replace x_l := x_l.on by50
          replace BB := also BB by50
          replace x1 := x1.below by50
          replace x2 := x2.below by50
          replace x_c7 := x_c7.on by50
          replace x3 := x3.below by50
          replace x4 := x4.below by50
          replace x_c9 := x_c9.on by50
          replace x5 := x5.below by50
          replace x_c11 := x_c11.on by50
          replace x6 := x6.below by50
          replace x_c13 := x_c13.on by50
          refine take_call (i := 12) rfl (by kernel_rfl) (fun Kc hK => ?_)
          go_simp
          (go_at_call 15; refine (rqLong s1 _ (r2x Rs.out).1 (r2x Rs.out).2).mono ?_; rintro e y51 ⟨s51, d51, l51, c51, t51, g51, h51, k51, rfl, q51, f51, by51⟩)
          refine hK.out _ _ ?_ (fun hHeld => ?_)
          · exact ⟨cell_on by51 hHeld.1, cell_on by51 hHeld.2.1, cell_on by51 hHeld.2.2.1, cell_on by51 hHeld.2.2.2.1, cell_on by51 hHeld.2.2.2.2.1, cell_on by51 hHeld.2.2.2.2.2.1, cell_on by51 hHeld.2.2.2.2.2.2.1, cell_on by51 hHeld.2.2.2.2.2.2.2.1, cell_on by51 hHeld.2.2.2.2.2.2.2.2.1, cell_on by51 hHeld.2.2.2.2.2.2.2.2.2.1, cell_on by51 hHeld.2.2.2.2.2.2.2.2.2.2.1, cell_on by51 hHeld.2.2.2.2.2.2.2.2.2.2.2.1, cell_on by51 hHeld.2.2.2.2.2.2.2.2.2.2.2.2.1, cell_on by51 hHeld.2.2.2.2.2.2.2.2.2.2.2.2.2.1, cell_on by51 hHeld.2.2.2.2.2.2.2.2.2.2.2.2.2.2.1, cell_on by51 hHeld.2.2.2.2.2.2.2.2.2.2.2.2.2.2.2.1, cell_on by51 hHeld.2.2.2.2.2.2.2.2.2.2.2.2.2.2.2.2.1, cell_on by51 hHeld.2.2.2.2.2.2.2.2.2.2.2.2.2.2.2.2.2.1, cell_on by51 hHeld.2.2.2.2.2.2.2.2.2.2.2.2.2.2.2.2.2.2.1, cell_on by51 hHeld.2.2.2.2.2.2.2.2.2.2.2.2.2.2.2.2.2.2.2.1, also hHeld.2.2.2.2.2.2.2.2.2.2.2.2.2.2.2.2.2.2.2.2 by51⟩
          clear hK Kc
          have zby51 := by51.size
          replace x_t := x_t.on by51
          replace x_s := x_s.on by51
          replace x_l := x_l.on by51
          replace BB := also BB by51
          replace x1 := x1.below by51
          replace x2 := x2.below by51
          replace x_c7 := x_c7.on by51
          replace x3 := x3.below by51
          replace x4 := x4.below by51
          replace x_c9 := x_c9.on by51
          replace x5 := x5.below by51
          replace x_c11 := x_c11.on by51
          replace x6 := x6.below by51
          replace x_c13 := x_c13.on by51
          replace q50 := q50.below by51
          refine take_call (i := 13) rfl (by kernel_rfl) (fun Kc hK => ?_)
          go_simp
          (go_at_call 21; refine (rqAdd s50 d50 l50 c50 t50 g50 h50 k50 N1 D1 s51 d51 l51 c51 t51 g51 h51 k51 s1 1 10 _ q50 (q51.more (by decide) (by decide)) (by decide) T1 O1 ET1.out EO1.out).mono ?_; rintro e y52 ⟨s52, d52, l52, c52, t52, g52, h52, k52, rfl, q52, f52, by52⟩)
          refine hK.out _ _ ?_ (fun hHeld => ?_)
          · exact ⟨cell_on by52 hHeld.1, cell_on by52 hHeld.2.1, cell_on by52 hHeld.2.2.1, cell_on by52 hHeld.2.2.2.1, cell_on by52 hHeld.2.2.2.2.1, cell_on by52 hHeld.2.2.2.2.2.1, cell_on by52 hHeld.2.2.2.2.2.2.1, cell_on by52 hHeld.2.2.2.2.2.2.2.1, cell_on by52 hHeld.2.2.2.2.2.2.2.2.1, cell_on by52 hHeld.2.2.2.2.2.2.2.2.2.1, cell_on by52 hHeld.2.2.2.2.2.2.2.2.2.2.1, cell_on by52 hHeld.2.2.2.2.2.2.2.2.2.2.2.1, cell_on by52 hHeld.2.2.2.2.2.2.2.2.2.2.2.2.1, cell_on by52 hHeld.2.2.2.2.2.2.2.2.2.2.2.2.2.1, cell_on by52 hHeld.2.2.2.2.2.2.2.2.2.2.2.2.2.2.1, cell_on by52 hHeld.2.2.2.2.2.2.2.2.2.2.2.2.2.2.2.1, cell_on by52 hHeld.2.2.2.2.2.2.2.2.2.2.2.2.2.2.2.2.1, cell_on by52 hHeld.2.2.2.2.2.2.2.2.2.2.2.2.2.2.2.2.2.1, cell_on by52 hHeld.2.2.2.2.2.2.2.2.2.2.2.2.2.2.2.2.2.2.1, cell_on by52 hHeld.2.2.2.2.2.2.2.2.2.2.2.2.2.2.2.2.2.2.2.1, also hHeld.2.2.2.2.2.2.2.2.2.2.2.2.2.2.2.2.2.2.2.2 by52⟩
          clear hK Kc
          have zby52 := by52.size
          replace x_t := x_t.on by52
          replace x_s := x_s.on by52
          replace x_l := x_l.on by52
          replace BB := also BB by52
          replace x1 := x1.below by52
          replace x2 := x2.below by52
          replace x_c7 := x_c7.on by52
          replace x3 := x3.below by52
          replace x4 := x4.below by52
          replace x_c9 := x_c9.on by52
          replace x5 := x5.below by52
          replace x_c11 := x_c11.on by52
          replace x6 := x6.below by52
          replace x_c13 := x_c13.on by52
          replace q50 := q50.below by52
          replace q51 := q51.below by52
          refine take_call (i := 14) rfl (by kernel_rfl) (fun Kc hK => ?_)
          go_simp
          (go_at_call 14; refine (rqSame n43 a43 m43 e43 b43 o43 y43 P1 Q1 s52 d52 l52 c52 t52 g52 h52 k52 T1 O1 21 _ x3 q52 LP1.out LQ1.out).mono ?_; rintro e y53 ⟨rfl, by53⟩)
          refine hK.out _ _ ?_ (fun hHeld => ?_)
          · exact ⟨cell_on by53 hHeld.1, cell_on by53 hHeld.2.1, cell_on by53 hHeld.2.2.1, cell_on by53 hHeld.2.2.2.1, cell_on by53 hHeld.2.2.2.2.1, cell_on by53 hHeld.2.2.2.2.2.1, cell_on by53 hHeld.2.2.2.2.2.2.1, cell_on by53 hHeld.2.2.2.2.2.2.2.1, cell_on by53 hHeld.2.2.2.2.2.2.2.2.1, cell_on by53 hHeld.2.2.2.2.2.2.2.2.2.1, cell_on by53 hHeld.2.2.2.2.2.2.2.2.2.2.1, cell_on by53 hHeld.2.2.2.2.2.2.2.2.2.2.2.1, cell_on by53 hHeld.2.2.2.2.2.2.2.2.2.2.2.2.1, cell_on by53 hHeld.2.2.2.2.2.2.2.2.2.2.2.2.2.1, cell_on by53 hHeld.2.2.2.2.2.2.2.2.2.2.2.2.2.2.1, cell_on by53 hHeld.2.2.2.2.2.2.2.2.2.2.2.2.2.2.2.1, cell_on by53 hHeld.2.2.2.2.2.2.2.2.2.2.2.2.2.2.2.2.1, cell_on by53 hHeld.2.2.2.2.2.2.2.2.2.2.2.2.2.2.2.2.2.1, cell_on by53 hHeld.2.2.2.2.2.2.2.2.2.2.2.2.2.2.2.2.2.2.1, cell_on by53 hHeld.2.2.2.2.2.2.2.2.2.2.2.2.2.2.2.2.2.2.2.1, also hHeld.2.2.2.2.2.2.2.2.2.2.2.2.2.2.2.2.2.2.2.2 by53⟩
          clear hK Kc
          have zby53 := by53.size
          replace x_t := x_t.on by53
          replace x_s := x_s.on by53
          replace x_l := x_l.on by53
          replace BB := also BB by53
          replace x1 := x1.below by53
          replace x2 := x2.below by53
          replace x_c7 := x_c7.on by53
          replace x3 := x3.below by53
          replace x4 := x4.below by53
          replace x_c9 := x_c9.on by53
          replace x5 := x5.below by53
          replace x_c11 := x_c11.on by53
          replace x6 := x6.below by53
          replace x_c13 := x_c13.on by53
          replace q50 := q50.below by53
          replace q51 := q51.below by53
          replace q52 := q52.below by53
          refine take_yes (i := 15) (v := ?vz15) rfl (by kernel_rfl) (by kernel_rfl) (by kernel_rfl) (fun _ _ _ h => h) (by rfl) (by assumption) ?hyz15 ?restz15
          case hyz15 => (intro w hSw; (try dsimp only at hSw); first | (go_simp; done) | (go_simp; with_reducible rfl))
          simp only [Act.put, List.setIfInBounds_toArray, List.set_cons_zero, List.set_cons_succ]
          refine take_yes (i := 16) (v := ?vz16) rfl (by kernel_rfl) (by kernel_rfl) (by kernel_rfl) (fun _ _ _ h => h) (by rfl) (by assumption) ?hyz16 ?restz16
          case hyz16 => (intro w hSw; (try dsimp only at hSw); first | (go_simp; done) | (go_simp; with_reducible rfl))
          simp only [Act.put, List.setIfInBounds_toArray, List.set_cons_zero, List.set_cons_succ]
          refine take_yes (i := 17) (v := ?vz17) rfl (by kernel_rfl) (by kernel_rfl) (by kernel_rfl) (fun _ _ _ h => h) (by rfl) (by assumption) ?hyz17 ?restz17
          case hyz17 => (intro w hSw; (try dsimp only at hSw); first | (go_simp; done) | (go_simp; with_reducible rfl))
          simp only [Act.put, List.setIfInBounds_toArray, List.set_cons_zero, List.set_cons_succ]
          refine take_yes (i := 18) (v := ?vz18) rfl (by kernel_rfl) (by kernel_rfl) (by kernel_rfl) (fun _ _ _ h => h) (by rfl) (by assumption) ?hyz18 ?restz18
          case hyz18 => (intro w hSw; (try dsimp only at hSw); first | (go_simp; done) | (go_simp; with_reducible rfl))
          simp only [Act.put, List.setIfInBounds_toArray, List.set_cons_zero, List.set_cons_succ]
          refine take_yes (i := 19) (v := ?vz19) rfl (by kernel_rfl) (by kernel_rfl) (by kernel_rfl) (fun _ _ _ h => h) (by rfl) (by assumption) ?hyz19 ?restz19
          case hyz19 => (intro w hSw; (try dsimp only at hSw); first | (go_simp; done) | (go_simp; with_reducible rfl))
          simp only [Act.put, List.setIfInBounds_toArray, List.set_cons_zero, List.set_cons_succ]
          refine take_yes (i := 20) (v := ?vz20) rfl (by kernel_rfl) (by kernel_rfl) (by kernel_rfl) (fun _ _ _ h => h) (by rfl) (by assumption) ?hyz20 ?restz20
          case hyz20 => (intro w hSw; (try dsimp only at hSw); first | (go_simp; done) | (go_simp; with_reducible rfl))
          simp only [Act.put, List.setIfInBounds_toArray, List.set_cons_zero, List.set_cons_succ]
          refine take_yes (i := 22) (v := ?vz22) rfl (by kernel_rfl) (by kernel_rfl) (by kernel_rfl) (fun _ _ _ h => h) (by rfl) (by assumption) ?hyz22 ?restz22
          case hyz22 => (intro w hSw; (try dsimp only at hSw); first | (go_simp; done) | (go_simp; with_reducible rfl))
          simp only [Act.put, List.setIfInBounds_toArray, List.set_cons_zero, List.set_cons_succ]
          refine take_yes (i := 23) (v := ?vz23) rfl (by kernel_rfl) (by kernel_rfl) (by kernel_rfl) (fun _ _ _ h => h) (by rfl) (by assumption) ?hyz23 ?restz23
          case hyz23 => (intro w hSw; (try dsimp only at hSw); first | (go_simp; done) | (go_simp; with_reducible rfl))
          simp only [Act.put, List.setIfInBounds_toArray, List.set_cons_zero, List.set_cons_succ]
          refine take_call (i := 21) rfl (by kernel_rfl) (fun Kc hK => ?_)
          go_simp
          (go_at_call 16; refine (rqOfP n42 a42 m42 e42 b42 o42 y42 N2 D2 10 _ x2 Hd2.out).mono ?_; rintro e y60 ⟨s60, d60, l60, c60, t60, g60, h60, k60, rfl, q60, f60, by60⟩)
          refine hK.out _ _ ?_ (fun hHeld => ?_)
          · exact ⟨cell_on by60 hHeld.1, cell_on by60 hHeld.2.1, cell_on by60 hHeld.2.2.1, cell_on by60 hHeld.2.2.2.1, cell_on by60 hHeld.2.2.2.2.1, cell_on by60 hHeld.2.2.2.2.2.1, cell_on by60 hHeld.2.2.2.2.2.2.1, cell_on by60 hHeld.2.2.2.2.2.2.2.1, cell_on by60 hHeld.2.2.2.2.2.2.2.2.1, cell_on by60 hHeld.2.2.2.2.2.2.2.2.2.1, cell_on by60 hHeld.2.2.2.2.2.2.2.2.2.2.1, cell_on by60 hHeld.2.2.2.2.2.2.2.2.2.2.2.1, cell_on by60 hHeld.2.2.2.2.2.2.2.2.2.2.2.2.1, cell_on by60 hHeld.2.2.2.2.2.2.2.2.2.2.2.2.2.1, cell_on by60 hHeld.2.2.2.2.2.2.2.2.2.2.2.2.2.2.1, cell_on by60 hHeld.2.2.2.2.2.2.2.2.2.2.2.2.2.2.2.1, cell_on by60 hHeld.2.2.2.2.2.2.2.2.2.2.2.2.2.2.2.2.1, cell_on by60 hHeld.2.2.2.2.2.2.2.2.2.2.2.2.2.2.2.2.2.1, cell_on by60 hHeld.2.2.2.2.2.2.2.2.2.2.2.2.2.2.2.2.2.2.1, cell_on by60 hHeld.2.2.2.2.2.2.2.2.2.2.2.2.2.2.2.2.2.2.2.1, also hHeld.2.2.2.2.2.2.2.2.2.2.2.2.2.2.2.2.2.2.2.2 by60⟩
          clear hK Kc
          have zby60 := by60.size
          replace x_t := x_t.on by60
          replace x_s := x_s.on by60
          replace x_l := x_l.on by60
          replace BB := also BB by60
          replace x1 := x1.below by60
          replace x2 := x2.below by60
          replace x_c7 := x_c7.on by60
          replace x3 := x3.below by60
          replace x4 := x4.below by60
          replace x_c9 := x_c9.on by60
          replace x5 := x5.below by60
          replace x_c11 := x_c11.on by60
          replace x6 := x6.below by60
          replace x_c13 := x_c13.on by60
          replace q50 := q50.below by60
          replace q51 := q51.below by60
          replace q52 := q52.below by60
          refine take_call (i := 24) rfl (by kernel_rfl) (fun Kc hK => ?_)
          go_simp
          (go_at_call 15; refine (rqLong s2 _ (r2y Rs.out).1 (r2y Rs.out).2).mono ?_; rintro e y61 ⟨s61, d61, l61, c61, t61, g61, h61, k61, rfl, q61, f61, by61⟩)
          refine hK.out _ _ ?_ (fun hHeld => ?_)
          · exact ⟨cell_on by61 hHeld.1, cell_on by61 hHeld.2.1, cell_on by61 hHeld.2.2.1, cell_on by61 hHeld.2.2.2.1, cell_on by61 hHeld.2.2.2.2.1, cell_on by61 hHeld.2.2.2.2.2.1, cell_on by61 hHeld.2.2.2.2.2.2.1, cell_on by61 hHeld.2.2.2.2.2.2.2.1, cell_on by61 hHeld.2.2.2.2.2.2.2.2.1, cell_on by61 hHeld.2.2.2.2.2.2.2.2.2.1, cell_on by61 hHeld.2.2.2.2.2.2.2.2.2.2.1, cell_on by61 hHeld.2.2.2.2.2.2.2.2.2.2.2.1, cell_on by61 hHeld.2.2.2.2.2.2.2.2.2.2.2.2.1, cell_on by61 hHeld.2.2.2.2.2.2.2.2.2.2.2.2.2.1, cell_on by61 hHeld.2.2.2.2.2.2.2.2.2.2.2.2.2.2.1, cell_on by61 hHeld.2.2.2.2.2.2.2.2.2.2.2.2.2.2.2.1, cell_on by61 hHeld.2.2.2.2.2.2.2.2.2.2.2.2.2.2.2.2.1, cell_on by61 hHeld.2.2.2.2.2.2.2.2.2.2.2.2.2.2.2.2.2.1, cell_on by61 hHeld.2.2.2.2.2.2.2.2.2.2.2.2.2.2.2.2.2.2.1, cell_on by61 hHeld.2.2.2.2.2.2.2.2.2.2.2.2.2.2.2.2.2.2.2.1, also hHeld.2.2.2.2.2.2.2.2.2.2.2.2.2.2.2.2.2.2.2.2 by61⟩
          clear hK Kc
          have zby61 := by61.size
          replace x_t := x_t.on by61
          replace x_s := x_s.on by61
          replace x_l := x_l.on by61
          replace BB := also BB by61
          replace x1 := x1.below by61
          replace x2 := x2.below by61
          replace x_c7 := x_c7.on by61
          replace x3 := x3.below by61
          replace x4 := x4.below by61
          replace x_c9 := x_c9.on by61
          replace x5 := x5.below by61
          replace x_c11 := x_c11.on by61
          replace x6 := x6.below by61
          replace x_c13 := x_c13.on by61
          replace q50 := q50.below by61
          replace q51 := q51.below by61
          replace q52 := q52.below by61
          replace q60 := q60.below by61
          refine take_call (i := 25) rfl (by kernel_rfl) (fun Kc hK => ?_)
          go_simp
          (go_at_call 21; refine (rqAdd s60 d60 l60 c60 t60 g60 h60 k60 N2 D2 s61 d61 l61 c61 t61 g61 h61 k61 s2 1 10 _ q60 (q61.more (by decide) (by decide)) (by decide) T2 O2 ET2.out EO2.out).mono ?_; rintro e y62 ⟨s62, d62, l62, c62, t62, g62, h62, k62, rfl, q62, f62, by62⟩)
          refine hK.out _ _ ?_ (fun hHeld => ?_)
          · exact ⟨cell_on by62 hHeld.1, cell_on by62 hHeld.2.1, cell_on by62 hHeld.2.2.1, cell_on by62 hHeld.2.2.2.1, cell_on by62 hHeld.2.2.2.2.1, cell_on by62 hHeld.2.2.2.2.2.1, cell_on by62 hHeld.2.2.2.2.2.2.1, cell_on by62 hHeld.2.2.2.2.2.2.2.1, cell_on by62 hHeld.2.2.2.2.2.2.2.2.1, cell_on by62 hHeld.2.2.2.2.2.2.2.2.2.1, cell_on by62 hHeld.2.2.2.2.2.2.2.2.2.2.1, cell_on by62 hHeld.2.2.2.2.2.2.2.2.2.2.2.1, cell_on by62 hHeld.2.2.2.2.2.2.2.2.2.2.2.2.1, cell_on by62 hHeld.2.2.2.2.2.2.2.2.2.2.2.2.2.1, cell_on by62 hHeld.2.2.2.2.2.2.2.2.2.2.2.2.2.2.1, cell_on by62 hHeld.2.2.2.2.2.2.2.2.2.2.2.2.2.2.2.1, cell_on by62 hHeld.2.2.2.2.2.2.2.2.2.2.2.2.2.2.2.2.1, cell_on by62 hHeld.2.2.2.2.2.2.2.2.2.2.2.2.2.2.2.2.2.1, cell_on by62 hHeld.2.2.2.2.2.2.2.2.2.2.2.2.2.2.2.2.2.2.1, cell_on by62 hHeld.2.2.2.2.2.2.2.2.2.2.2.2.2.2.2.2.2.2.2.1, also hHeld.2.2.2.2.2.2.2.2.2.2.2.2.2.2.2.2.2.2.2.2 by62⟩
          clear hK Kc
          have zby62 := by62.size
          replace x_t := x_t.on by62
          replace x_s := x_s.on by62
          replace x_l := x_l.on by62
          replace BB := also BB by62
          replace x1 := x1.below by62
          replace x2 := x2.below by62
          replace x_c7 := x_c7.on by62
          replace x3 := x3.below by62
          replace x4 := x4.below by62
          replace x_c9 := x_c9.on by62
          replace x5 := x5.below by62
          replace x_c11 := x_c11.on by62
          replace x6 := x6.below by62
          replace x_c13 := x_c13.on by62
          replace q50 := q50.below by62
          replace q51 := q51.below by62
          replace q52 := q52.below by62
          replace q60 := q60.below by62
          replace q61 := q61.below by62
          refine take_call (i := 26) rfl (by kernel_rfl) (fun Kc hK => ?_)
          go_simp
          (go_at_call 14; refine (rqSame n44 a44 m44 e44 b44 o44 y44 P2 Q2 s62 d62 l62 c62 t62 g62 h62 k62 T2 O2 21 _ x4 q62 LP2.out LQ2.out).mono ?_; rintro e y63 ⟨rfl, by63⟩)
          refine hK.out _ _ ?_ (fun hHeld => ?_)
          · exact ⟨cell_on by63 hHeld.1, cell_on by63 hHeld.2.1, cell_on by63 hHeld.2.2.1, cell_on by63 hHeld.2.2.2.1, cell_on by63 hHeld.2.2.2.2.1, cell_on by63 hHeld.2.2.2.2.2.1, cell_on by63 hHeld.2.2.2.2.2.2.1, cell_on by63 hHeld.2.2.2.2.2.2.2.1, cell_on by63 hHeld.2.2.2.2.2.2.2.2.1, cell_on by63 hHeld.2.2.2.2.2.2.2.2.2.1, cell_on by63 hHeld.2.2.2.2.2.2.2.2.2.2.1, cell_on by63 hHeld.2.2.2.2.2.2.2.2.2.2.2.1, cell_on by63 hHeld.2.2.2.2.2.2.2.2.2.2.2.2.1, cell_on by63 hHeld.2.2.2.2.2.2.2.2.2.2.2.2.2.1, cell_on by63 hHeld.2.2.2.2.2.2.2.2.2.2.2.2.2.2.1, cell_on by63 hHeld.2.2.2.2.2.2.2.2.2.2.2.2.2.2.2.1, cell_on by63 hHeld.2.2.2.2.2.2.2.2.2.2.2.2.2.2.2.2.1, cell_on by63 hHeld.2.2.2.2.2.2.2.2.2.2.2.2.2.2.2.2.2.1, cell_on by63 hHeld.2.2.2.2.2.2.2.2.2.2.2.2.2.2.2.2.2.2.1, cell_on by63 hHeld.2.2.2.2.2.2.2.2.2.2.2.2.2.2.2.2.2.2.2.1, also hHeld.2.2.2.2.2.2.2.2.2.2.2.2.2.2.2.2.2.2.2.2 by63⟩
          clear hK Kc
          have zby63 := by63.size
          replace x_t := x_t.on by63
          replace x_s := x_s.on by63
          replace x_l := x_l.on by63
          replace BB := also BB by63
          replace x1 := x1.below by63
          replace x2 := x2.below by63
          replace x_c7 := x_c7.on by63
          replace x3 := x3.below by63
          replace x4 := x4.below by63
          replace x_c9 := x_c9.on by63
          replace x5 := x5.below by63
          replace x_c11 := x_c11.on by63
          replace x6 := x6.below by63
          replace x_c13 := x_c13.on by63
          replace q50 := q50.below by63
          replace q51 := q51.below by63
          replace q52 := q52.below by63
          replace q60 := q60.below by63
          replace q61 := q61.below by63
          replace q62 := q62.below by63
          refine take_yes (i := 27) (v := ?vz27) rfl (by kernel_rfl) (by kernel_rfl) (by kernel_rfl) (fun _ _ _ h => h) (by rfl) (by assumption) ?hyz27 ?restz27
          case hyz27 => (intro w hSw; (try dsimp only at hSw); first | (go_simp; done) | (go_simp; with_reducible rfl))
          simp only [Act.put, List.setIfInBounds_toArray, List.set_cons_zero, List.set_cons_succ]
          refine take_yes (i := 28) (v := ?vz28) rfl (by kernel_rfl) (by kernel_rfl) (by kernel_rfl) (fun _ _ _ h => h) (by rfl) (by assumption) ?hyz28 ?restz28
          case hyz28 => (intro w hSw; (try dsimp only at hSw); first | (go_simp; done) | (go_simp; with_reducible rfl))
          simp only [Act.put, List.setIfInBounds_toArray, List.set_cons_zero, List.set_cons_succ]
          refine take_yes (i := 29) (v := ?vz29) rfl (by kernel_rfl) (by kernel_rfl) (by kernel_rfl) (fun _ _ _ h => h) (by rfl) (by assumption) ?hyz29 ?restz29
          case hyz29 => (intro w hSw; (try dsimp only at hSw); first | (go_simp; done) | (go_simp; with_reducible rfl))
          simp only [Act.put, List.setIfInBounds_toArray, List.set_cons_zero, List.set_cons_succ]
          refine take_yes (i := 30) (v := ?vz30) rfl (by kernel_rfl) (by kernel_rfl) (by kernel_rfl) (fun _ _ _ h => h) (by rfl) (by assumption) ?hyz30 ?restz30
          case hyz30 => (intro w hSw; (try dsimp only at hSw); first | (go_simp; done) | (go_simp; with_reducible rfl))
          simp only [Act.put, List.setIfInBounds_toArray, List.set_cons_zero, List.set_cons_succ]
          refine take_call (i := 31) rfl (by kernel_rfl) (fun Kc hK => ?_)
          go_simp
          (go_at_call 16; refine (rqOfP n45 a45 m45 e45 b45 o45 y45 A B 10 _ x5 HB0.out).mono ?_; rintro e y70 ⟨s70, d70, l70, c70, t70, g70, h70, k70, rfl, q70, f70, by70⟩)
          refine hK.out _ _ ?_ (fun hHeld => ?_)
          · exact ⟨cell_on by70 hHeld.1, cell_on by70 hHeld.2.1, cell_on by70 hHeld.2.2.1, cell_on by70 hHeld.2.2.2.1, cell_on by70 hHeld.2.2.2.2.1, cell_on by70 hHeld.2.2.2.2.2.1, cell_on by70 hHeld.2.2.2.2.2.2.1, cell_on by70 hHeld.2.2.2.2.2.2.2.1, cell_on by70 hHeld.2.2.2.2.2.2.2.2.1, cell_on by70 hHeld.2.2.2.2.2.2.2.2.2.1, cell_on by70 hHeld.2.2.2.2.2.2.2.2.2.2.1, cell_on by70 hHeld.2.2.2.2.2.2.2.2.2.2.2.1, cell_on by70 hHeld.2.2.2.2.2.2.2.2.2.2.2.2.1, cell_on by70 hHeld.2.2.2.2.2.2.2.2.2.2.2.2.2.1, cell_on by70 hHeld.2.2.2.2.2.2.2.2.2.2.2.2.2.2.1, cell_on by70 hHeld.2.2.2.2.2.2.2.2.2.2.2.2.2.2.2.1, cell_on by70 hHeld.2.2.2.2.2.2.2.2.2.2.2.2.2.2.2.2.1, cell_on by70 hHeld.2.2.2.2.2.2.2.2.2.2.2.2.2.2.2.2.2.1, cell_on by70 hHeld.2.2.2.2.2.2.2.2.2.2.2.2.2.2.2.2.2.2.1, cell_on by70 hHeld.2.2.2.2.2.2.2.2.2.2.2.2.2.2.2.2.2.2.2.1, also hHeld.2.2.2.2.2.2.2.2.2.2.2.2.2.2.2.2.2.2.2.2 by70⟩
          clear hK Kc
          have zby70 := by70.size
          replace x_t := x_t.on by70
          replace x_s := x_s.on by70
          replace x_l := x_l.on by70
          replace BB := also BB by70
          replace x1 := x1.below by70
          replace x2 := x2.below by70
          replace x_c7 := x_c7.on by70
          replace x3 := x3.below by70
          replace x4 := x4.below by70
          replace x_c9 := x_c9.on by70
          replace x5 := x5.below by70
          replace x_c11 := x_c11.on by70
          replace x6 := x6.below by70
          replace x_c13 := x_c13.on by70
          replace q50 := q50.below by70
          replace q51 := q51.below by70
          replace q52 := q52.below by70
          replace q60 := q60.below by70
          replace q61 := q61.below by70
          replace q62 := q62.below by70
          refine take_call (i := 32) rfl (by kernel_rfl) (fun Kc hK => ?_)
          go_simp
          (go_at_call 14; refine (rqSame n46 a46 m46 e46 b46 o46 y46 A B s70 d70 l70 c70 t70 g70 h70 k70 A B 10 _ x6 q70 IA.out IB.out).mono ?_; rintro e y71 ⟨rfl, by71⟩)
          refine hK.out _ _ ?_ (fun hHeld => ?_)
          · exact ⟨cell_on by71 hHeld.1, cell_on by71 hHeld.2.1, cell_on by71 hHeld.2.2.1, cell_on by71 hHeld.2.2.2.1, cell_on by71 hHeld.2.2.2.2.1, cell_on by71 hHeld.2.2.2.2.2.1, cell_on by71 hHeld.2.2.2.2.2.2.1, cell_on by71 hHeld.2.2.2.2.2.2.2.1, cell_on by71 hHeld.2.2.2.2.2.2.2.2.1, cell_on by71 hHeld.2.2.2.2.2.2.2.2.2.1, cell_on by71 hHeld.2.2.2.2.2.2.2.2.2.2.1, cell_on by71 hHeld.2.2.2.2.2.2.2.2.2.2.2.1, cell_on by71 hHeld.2.2.2.2.2.2.2.2.2.2.2.2.1, cell_on by71 hHeld.2.2.2.2.2.2.2.2.2.2.2.2.2.1, cell_on by71 hHeld.2.2.2.2.2.2.2.2.2.2.2.2.2.2.1, cell_on by71 hHeld.2.2.2.2.2.2.2.2.2.2.2.2.2.2.2.1, cell_on by71 hHeld.2.2.2.2.2.2.2.2.2.2.2.2.2.2.2.2.1, cell_on by71 hHeld.2.2.2.2.2.2.2.2.2.2.2.2.2.2.2.2.2.1, cell_on by71 hHeld.2.2.2.2.2.2.2.2.2.2.2.2.2.2.2.2.2.2.1, cell_on by71 hHeld.2.2.2.2.2.2.2.2.2.2.2.2.2.2.2.2.2.2.2.1, also hHeld.2.2.2.2.2.2.2.2.2.2.2.2.2.2.2.2.2.2.2.2 by71⟩
          clear hK Kc
          have zby71 := by71.size
          replace x_t := x_t.on by71
          replace x_s := x_s.on by71
          replace x_l := x_l.on by71
          replace BB := also BB by71
          replace x1 := x1.below by71
          replace x2 := x2.below by71
          replace x_c7 := x_c7.on by71
          replace x3 := x3.below by71
          replace x4 := x4.below by71
          replace x_c9 := x_c9.on by71
          replace x5 := x5.below by71
          replace x_c11 := x_c11.on by71
          replace x6 := x6.below by71
          replace x_c13 := x_c13.on by71
          replace q50 := q50.below by71
          replace q51 := q51.below by71
          replace q52 := q52.below by71
          replace q60 := q60.below by71
          replace q61 := q61.below by71
          replace q62 := q62.below by71
          replace q70 := q70.below by71
          refine take_yes (i := 33) (v := ?vz33) rfl (by kernel_rfl) (by kernel_rfl) (by kernel_rfl) (fun _ _ _ h => h) (by rfl) (by assumption) ?hyz33 ?restz33
          case hyz33 => (intro w hSw; (try dsimp only at hSw); first | (go_simp; done) | (go_simp; with_reducible rfl))
          simp only [Act.put, List.setIfInBounds_toArray, List.set_cons_zero, List.set_cons_succ]
          refine take_yes (i := 34) (v := ?vz34) rfl (by kernel_rfl) (by kernel_rfl) (by kernel_rfl) (fun _ _ _ h => h) (by rfl) (by assumption) ?hyz34 ?restz34
          case hyz34 => (intro w hSw; (try dsimp only at hSw); first | (go_simp; done) | (go_simp; with_reducible rfl))
          simp only [Act.put, List.setIfInBounds_toArray, List.set_cons_zero, List.set_cons_succ]
          refine take_call (i := 35) rfl (by kernel_rfl) (fun Kc hK => ?_)
          go_simp
          (go_at_call 11; refine (hL.out _).mono ?_; rintro e y72 ⟨rfl, by72⟩)
          refine hK.out _ _ ?_ (fun hHeld => ?_)
          · exact ⟨cell_on by72 hHeld.1, cell_on by72 hHeld.2.1, cell_on by72 hHeld.2.2.1, cell_on by72 hHeld.2.2.2.1, cell_on by72 hHeld.2.2.2.2.1, cell_on by72 hHeld.2.2.2.2.2.1, cell_on by72 hHeld.2.2.2.2.2.2.1, cell_on by72 hHeld.2.2.2.2.2.2.2.1, cell_on by72 hHeld.2.2.2.2.2.2.2.2.1, cell_on by72 hHeld.2.2.2.2.2.2.2.2.2.1, cell_on by72 hHeld.2.2.2.2.2.2.2.2.2.2.1, cell_on by72 hHeld.2.2.2.2.2.2.2.2.2.2.2.1, cell_on by72 hHeld.2.2.2.2.2.2.2.2.2.2.2.2.1, cell_on by72 hHeld.2.2.2.2.2.2.2.2.2.2.2.2.2.1, cell_on by72 hHeld.2.2.2.2.2.2.2.2.2.2.2.2.2.2.1, cell_on by72 hHeld.2.2.2.2.2.2.2.2.2.2.2.2.2.2.2.1, cell_on by72 hHeld.2.2.2.2.2.2.2.2.2.2.2.2.2.2.2.2.1, cell_on by72 hHeld.2.2.2.2.2.2.2.2.2.2.2.2.2.2.2.2.2.1, cell_on by72 hHeld.2.2.2.2.2.2.2.2.2.2.2.2.2.2.2.2.2.2.1, cell_on by72 hHeld.2.2.2.2.2.2.2.2.2.2.2.2.2.2.2.2.2.2.2.1, also hHeld.2.2.2.2.2.2.2.2.2.2.2.2.2.2.2.2.2.2.2.2 by72⟩
          clear hK Kc
          have zby72 := by72.size
          replace x_t := x_t.on by72
          replace x_s := x_s.on by72
          replace x_l := x_l.on by72
          replace BB := also BB by72
          replace x1 := x1.below by72
          replace x2 := x2.below by72
          replace x_c7 := x_c7.on by72
          replace x3 := x3.below by72
          replace x4 := x4.below by72
          replace x_c9 := x_c9.on by72
          replace x5 := x5.below by72
          replace x_c11 := x_c11.on by72
          replace x6 := x6.below by72
          replace x_c13 := x_c13.on by72
          replace q50 := q50.below by72
          replace q51 := q51.below by72
          replace q52 := q52.below by72
          replace q60 := q60.below by72
          replace q61 := q61.below by72
          replace q62 := q62.below by72
          replace q70 := q70.below by72
          refine take_yes (i := 36) (v := ?vz36) rfl (by kernel_rfl) (by kernel_rfl) (by kernel_rfl) (fun _ _ _ h => h) (by rfl) (by assumption) ?hyz36 ?restz36
          case hyz36 => (intro w hSw; (try dsimp only at hSw); first | (go_simp; done) | (go_simp; with_reducible rfl))
          simp only [Act.put, List.setIfInBounds_toArray, List.set_cons_zero, List.set_cons_succ]
          refine take_yes (i := 37) (v := ?vz37) rfl (by kernel_rfl) (by kernel_rfl) (by kernel_rfl) (fun _ _ _ h => h) (by rfl) (by assumption) ?hyz37 ?restz37
          case hyz37 => (intro w hSw; (try dsimp only at hSw); first | (go_simp; done) | (go_simp; with_reducible rfl))
          simp only [Act.put, List.setIfInBounds_toArray, List.set_cons_zero, List.set_cons_succ]
          refine wpAnyH_done (by kernel_rfl) ?_ _
          go_wp2
          go_ret
          exact ⟨rfl, BB⟩
end Go.Proofs.YtcaihoomcdbfnaaGreat
