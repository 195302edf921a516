/-
  Proved: zelligelaw01.WideOrders answers true for every two numbers of 128 bits, and leaves its arguments as they were. No condition.
-/
import Derived.Test.YtjkbmpcchlfglaaRefC
import Derived.Test.YtjkbmpcchlfglaaRefE
import Derived.Test.YtjkbmpcchlfglaaWideG
import Derived.Test.YtjkbmpcchlfglaaTwo
import Derived.Deep.RegionHeld3
import Derived.ProofKit
import Derived.OpenShut
import Derived.Lib.SmallJoins
namespace Go.Proofs.Ytjkbmpcchlfglaa.orders
open Go.RowKit Go.Proofs.Ytjkbmpcchlfglaa
open Go.ChangeShapes Go.WideShapes Go.ChangeAt Go.Joins
set_option linter.unusedVariables false

set_option maxHeartbeats 1000000 in
theorem walkA (a : Int) (a0 : -170141183460469231731687303715884105728 ≤ a) (a1 : a < 170141183460469231731687303715884105728) (b : Int) (b0 : -170141183460469231731687303715884105728 ≤ b) (b1 : b < 170141183460469231731687303715884105728) (w : World) (s0 : -9223372036854775808 ≤ a) (s1 : a ≤ 9223372036854775807) (h1 : hi a = 0) (h2 : lo a < 9223372036854775808) :
    Calls Try.prog 5 #[.agg #[.int .i64 (hi a), .int .u64 (lo a)], .agg #[.int .i64 (hi b), .int .u64 (lo b)]] w fun e w' => e = .returned (.bool true) ∧ Below w.heap.size w w' := by
  have H1 : Hid _ := h1
  have H2 : Hid _ := h2
  clear h1 h2
  go_enter Try.func5, Try.ntmps5
  go_wp2
  go_region_held3 (fun w' => w'.cell? ⟨w.heap.size, 0, none⟩ = some (.int .i64 (hi a)) ∧ w'.cell? ⟨w.heap.size, 1, none⟩ = some (.int .u64 (lo a)) ∧ w'.cell? ⟨w.heap.size + 1, 0, none⟩ = some (.int .i64 (hi b)) ∧ w'.cell? ⟨w.heap.size + 1, 1, none⟩ = some (.int .u64 (lo b)) ∧ Below w.heap.size w w') (first | exact keep2 (by assumption) (Made.below (by assumption)) | exact start2 a b w _)
    (first
      | (go_at_call_of 9 (Value.agg #[Value.int IntKind.i64 (hi a), Value.int IntKind.u64 (lo a)]); refine (rof_any a rfl rfl _).mono ?_; rintro e wx ⟨bx, rfl, hx⟩)
      | (go_at_call_of 9 (Value.agg #[Value.int IntKind.i64 (hi b), Value.int IntKind.u64 (lo b)]); refine (rof_any b rfl rfl _).mono ?_; rintro e wy ⟨by', rfl, hy⟩))
  rename_i hH
  have hT := two_xy hH hx hy
  clear hH hx hy
  obtain ⟨c1, c2, c3, c4⟩ := hT.cells
  have h1 := H1.out
  have h2 := H2.out
  have r1 := small_same a s0 s1
  go_wp2_with (first
    | (go_at_call 20; refine (small_yes a (by first | rfl | omega) rfl s0 s1 _).mono ?_; rintro e w' ⟨rfl, hb⟩; have hT := hT.later hb; obtain ⟨c1, c2, c3, c4⟩ := hT.cells; clear hb)
    | (go_at_call 21; refine (cmp_any a b (by first | rfl | omega) rfl rfl rfl a0 a1 b0 b1 _).mono ?_; rintro e w' ⟨rfl, hb⟩; have hT := hT.later hb; obtain ⟨c1, c2, c3, c4⟩ := hT.cells; clear hb)
    | (go_at_call 22; refine (rcmp_any a b bx by' _ hT.rx hT.ry a0 a1 b0 b1).mono ?_; rintro e w' ⟨rfl, n, rfl⟩; have hT := hT.later (below_drewN (Below.refl _ _) n); obtain ⟨c1, c2, c3, c4⟩ := hT.cells)
    | (go_at_call 23; refine (sign_any a (by first | rfl | omega) rfl a0 a1 _).mono ?_; rintro e w' ⟨rfl, hb⟩; have hT := hT.later hb; obtain ⟨c1, c2, c3, c4⟩ := hT.cells; clear hb)
    | (go_at_call 24; refine (rsign_any a bx _ hT.rx a0 a1).mono ?_; rintro e w' ⟨rfl, hw⟩; have hw := hw.symm; subst hw)
    | (go_at_call 16; refine (lives_any _).mono ?_; rintro e w' ⟨rfl, hb⟩; have hT := hT.later hb; obtain ⟨c1, c2, c3, c4⟩ := hT.cells; clear hb))
  go_ret
  exact ⟨rfl, hT.below⟩
set_option maxHeartbeats 1000000 in
theorem walkB (a : Int) (a0 : -170141183460469231731687303715884105728 ≤ a) (a1 : a < 170141183460469231731687303715884105728) (b : Int) (b0 : -170141183460469231731687303715884105728 ≤ b) (b1 : b < 170141183460469231731687303715884105728) (w : World) (s0 : -9223372036854775808 ≤ a) (s1 : a ≤ 9223372036854775807) (h1 : hi a = -1) (h2 : 9223372036854775808 ≤ lo a) :
    Calls Try.prog 5 #[.agg #[.int .i64 (hi a), .int .u64 (lo a)], .agg #[.int .i64 (hi b), .int .u64 (lo b)]] w fun e w' => e = .returned (.bool true) ∧ Below w.heap.size w w' := by
  have H1 : Hid _ := h1
  have H2 : Hid _ := h2
  clear h1 h2
  go_enter Try.func5, Try.ntmps5
  go_wp2
  go_region_held3 (fun w' => w'.cell? ⟨w.heap.size, 0, none⟩ = some (.int .i64 (hi a)) ∧ w'.cell? ⟨w.heap.size, 1, none⟩ = some (.int .u64 (lo a)) ∧ w'.cell? ⟨w.heap.size + 1, 0, none⟩ = some (.int .i64 (hi b)) ∧ w'.cell? ⟨w.heap.size + 1, 1, none⟩ = some (.int .u64 (lo b)) ∧ Below w.heap.size w w') (first | exact keep2 (by assumption) (Made.below (by assumption)) | exact start2 a b w _)
    (first
      | (go_at_call_of 9 (Value.agg #[Value.int IntKind.i64 (hi a), Value.int IntKind.u64 (lo a)]); refine (rof_any a rfl rfl _).mono ?_; rintro e wx ⟨bx, rfl, hx⟩)
      | (go_at_call_of 9 (Value.agg #[Value.int IntKind.i64 (hi b), Value.int IntKind.u64 (lo b)]); refine (rof_any b rfl rfl _).mono ?_; rintro e wy ⟨by', rfl, hy⟩))
  rename_i hH
  have hT := two_xy hH hx hy
  clear hH hx hy
  obtain ⟨c1, c2, c3, c4⟩ := hT.cells
  have h1 := H1.out
  have h2 := H2.out
  have r1 := small_same a s0 s1
  go_wp2_with (first
    | (go_at_call 20; refine (small_yes a (by first | rfl | omega) rfl s0 s1 _).mono ?_; rintro e w' ⟨rfl, hb⟩; have hT := hT.later hb; obtain ⟨c1, c2, c3, c4⟩ := hT.cells; clear hb)
    | (go_at_call 21; refine (cmp_any a b (by first | rfl | omega) rfl rfl rfl a0 a1 b0 b1 _).mono ?_; rintro e w' ⟨rfl, hb⟩; have hT := hT.later hb; obtain ⟨c1, c2, c3, c4⟩ := hT.cells; clear hb)
    | (go_at_call 22; refine (rcmp_any a b bx by' _ hT.rx hT.ry a0 a1 b0 b1).mono ?_; rintro e w' ⟨rfl, n, rfl⟩; have hT := hT.later (below_drewN (Below.refl _ _) n); obtain ⟨c1, c2, c3, c4⟩ := hT.cells)
    | (go_at_call 23; refine (sign_any a (by first | rfl | omega) rfl a0 a1 _).mono ?_; rintro e w' ⟨rfl, hb⟩; have hT := hT.later hb; obtain ⟨c1, c2, c3, c4⟩ := hT.cells; clear hb)
    | (go_at_call 24; refine (rsign_any a bx _ hT.rx a0 a1).mono ?_; rintro e w' ⟨rfl, hw⟩; have hw := hw.symm; subst hw)
    | (go_at_call 16; refine (lives_any _).mono ?_; rintro e w' ⟨rfl, hb⟩; have hT := hT.later hb; obtain ⟨c1, c2, c3, c4⟩ := hT.cells; clear hb))
  go_ret
  exact ⟨rfl, hT.below⟩
set_option maxHeartbeats 1000000 in
theorem walkC (a : Int) (a0 : -170141183460469231731687303715884105728 ≤ a) (a1 : a < 170141183460469231731687303715884105728) (b : Int) (b0 : -170141183460469231731687303715884105728 ≤ b) (b1 : b < 170141183460469231731687303715884105728) (w : World) (hs : ¬ (-9223372036854775808 ≤ a ∧ a ≤ 9223372036854775807)) (h1 : hi a = 0) (h2 : 9223372036854775808 ≤ lo a) :
    Calls Try.prog 5 #[.agg #[.int .i64 (hi a), .int .u64 (lo a)], .agg #[.int .i64 (hi b), .int .u64 (lo b)]] w fun e w' => e = .returned (.bool true) ∧ Below w.heap.size w w' := by
  have H1 : Hid _ := h1
  have H2 : Hid _ := h2
  clear h1 h2
  go_enter Try.func5, Try.ntmps5
  go_wp2
  go_region_held3 (fun w' => w'.cell? ⟨w.heap.size, 0, none⟩ = some (.int .i64 (hi a)) ∧ w'.cell? ⟨w.heap.size, 1, none⟩ = some (.int .u64 (lo a)) ∧ w'.cell? ⟨w.heap.size + 1, 0, none⟩ = some (.int .i64 (hi b)) ∧ w'.cell? ⟨w.heap.size + 1, 1, none⟩ = some (.int .u64 (lo b)) ∧ Below w.heap.size w w') (first | exact keep2 (by assumption) (Made.below (by assumption)) | exact start2 a b w _)
    (first
      | (go_at_call_of 9 (Value.agg #[Value.int IntKind.i64 (hi a), Value.int IntKind.u64 (lo a)]); refine (rof_any a rfl rfl _).mono ?_; rintro e wx ⟨bx, rfl, hx⟩)
      | (go_at_call_of 9 (Value.agg #[Value.int IntKind.i64 (hi b), Value.int IntKind.u64 (lo b)]); refine (rof_any b rfl rfl _).mono ?_; rintro e wy ⟨by', rfl, hy⟩))
  rename_i hH
  have hT := two_xy hH hx hy
  clear hH hx hy
  obtain ⟨c1, c2, c3, c4⟩ := hT.cells
  have h1 := H1.out
  have h2 := H2.out
  have HS : Hid _ := hs
  clear hs
  have hd : decide (lo a < 9223372036854775808) = false := by simpa using h2
  go_wp2_with (first
    | (go_at_call 20; refine (small_no a (by first | rfl | omega) rfl a0 a1 HS.out _).mono ?_; rintro e w' ⟨rfl, hb⟩; have hT := hT.later hb; obtain ⟨c1, c2, c3, c4⟩ := hT.cells; clear hb)
    | (go_at_call 21; refine (cmp_any a b (by first | rfl | omega) rfl rfl rfl a0 a1 b0 b1 _).mono ?_; rintro e w' ⟨rfl, hb⟩; have hT := hT.later hb; obtain ⟨c1, c2, c3, c4⟩ := hT.cells; clear hb)
    | (go_at_call 22; refine (rcmp_any a b bx by' _ hT.rx hT.ry a0 a1 b0 b1).mono ?_; rintro e w' ⟨rfl, n, rfl⟩; have hT := hT.later (below_drewN (Below.refl _ _) n); obtain ⟨c1, c2, c3, c4⟩ := hT.cells)
    | (go_at_call 23; refine (sign_any a (by first | rfl | omega) rfl a0 a1 _).mono ?_; rintro e w' ⟨rfl, hb⟩; have hT := hT.later hb; obtain ⟨c1, c2, c3, c4⟩ := hT.cells; clear hb)
    | (go_at_call 24; refine (rsign_any a bx _ hT.rx a0 a1).mono ?_; rintro e w' ⟨rfl, hw⟩; have hw := hw.symm; subst hw)
    | (go_at_call 16; refine (lives_any _).mono ?_; rintro e w' ⟨rfl, hb⟩; have hT := hT.later hb; obtain ⟨c1, c2, c3, c4⟩ := hT.cells; clear hb))
  go_ret
  exact ⟨rfl, hT.below⟩
set_option maxHeartbeats 1000000 in
theorem walkD (a : Int) (a0 : -170141183460469231731687303715884105728 ≤ a) (a1 : a < 170141183460469231731687303715884105728) (b : Int) (b0 : -170141183460469231731687303715884105728 ≤ b) (b1 : b < 170141183460469231731687303715884105728) (w : World) (hs : ¬ (-9223372036854775808 ≤ a ∧ a ≤ 9223372036854775807)) (h1 : hi a = -1) (h2 : lo a < 9223372036854775808) :
    Calls Try.prog 5 #[.agg #[.int .i64 (hi a), .int .u64 (lo a)], .agg #[.int .i64 (hi b), .int .u64 (lo b)]] w fun e w' => e = .returned (.bool true) ∧ Below w.heap.size w w' := by
  have H1 : Hid _ := h1
  have H2 : Hid _ := h2
  clear h1 h2
  go_enter Try.func5, Try.ntmps5
  go_wp2
  go_region_held3 (fun w' => w'.cell? ⟨w.heap.size, 0, none⟩ = some (.int .i64 (hi a)) ∧ w'.cell? ⟨w.heap.size, 1, none⟩ = some (.int .u64 (lo a)) ∧ w'.cell? ⟨w.heap.size + 1, 0, none⟩ = some (.int .i64 (hi b)) ∧ w'.cell? ⟨w.heap.size + 1, 1, none⟩ = some (.int .u64 (lo b)) ∧ Below w.heap.size w w') (first | exact keep2 (by assumption) (Made.below (by assumption)) | exact start2 a b w _)
    (first
      | (go_at_call_of 9 (Value.agg #[Value.int IntKind.i64 (hi a), Value.int IntKind.u64 (lo a)]); refine (rof_any a rfl rfl _).mono ?_; rintro e wx ⟨bx, rfl, hx⟩)
      | (go_at_call_of 9 (Value.agg #[Value.int IntKind.i64 (hi b), Value.int IntKind.u64 (lo b)]); refine (rof_any b rfl rfl _).mono ?_; rintro e wy ⟨by', rfl, hy⟩))
  rename_i hH
  have hT := two_xy hH hx hy
  clear hH hx hy
  obtain ⟨c1, c2, c3, c4⟩ := hT.cells
  have h1 := H1.out
  have h2 := H2.out
  have HS : Hid _ := hs
  clear hs
  have hd : decide (9223372036854775808 ≤ lo a) = false := by simpa using h2
  go_wp2_with (first
    | (go_at_call 20; refine (small_no a (by first | rfl | omega) rfl a0 a1 HS.out _).mono ?_; rintro e w' ⟨rfl, hb⟩; have hT := hT.later hb; obtain ⟨c1, c2, c3, c4⟩ := hT.cells; clear hb)
    | (go_at_call 21; refine (cmp_any a b (by first | rfl | omega) rfl rfl rfl a0 a1 b0 b1 _).mono ?_; rintro e w' ⟨rfl, hb⟩; have hT := hT.later hb; obtain ⟨c1, c2, c3, c4⟩ := hT.cells; clear hb)
    | (go_at_call 22; refine (rcmp_any a b bx by' _ hT.rx hT.ry a0 a1 b0 b1).mono ?_; rintro e w' ⟨rfl, n, rfl⟩; have hT := hT.later (below_drewN (Below.refl _ _) n); obtain ⟨c1, c2, c3, c4⟩ := hT.cells)
    | (go_at_call 23; refine (sign_any a (by first | rfl | omega) rfl a0 a1 _).mono ?_; rintro e w' ⟨rfl, hb⟩; have hT := hT.later hb; obtain ⟨c1, c2, c3, c4⟩ := hT.cells; clear hb)
    | (go_at_call 24; refine (rsign_any a bx _ hT.rx a0 a1).mono ?_; rintro e w' ⟨rfl, hw⟩; have hw := hw.symm; subst hw)
    | (go_at_call 16; refine (lives_any _).mono ?_; rintro e w' ⟨rfl, hb⟩; have hT := hT.later hb; obtain ⟨c1, c2, c3, c4⟩ := hT.cells; clear hb))
  go_ret
  exact ⟨rfl, hT.below⟩
set_option maxHeartbeats 1000000 in
theorem walkE (a : Int) (a0 : -170141183460469231731687303715884105728 ≤ a) (a1 : a < 170141183460469231731687303715884105728) (b : Int) (b0 : -170141183460469231731687303715884105728 ≤ b) (b1 : b < 170141183460469231731687303715884105728) (w : World) (hs : ¬ (-9223372036854775808 ≤ a ∧ a ≤ 9223372036854775807)) (h1 : (hi a == 0) = false) (h2 : (hi a == -1) = false) :
    Calls Try.prog 5 #[.agg #[.int .i64 (hi a), .int .u64 (lo a)], .agg #[.int .i64 (hi b), .int .u64 (lo b)]] w fun e w' => e = .returned (.bool true) ∧ Below w.heap.size w w' := by
  have H1 : Hid _ := h1
  have H2 : Hid _ := h2
  clear h1 h2
  go_enter Try.func5, Try.ntmps5
  go_wp2
  go_region_held3 (fun w' => w'.cell? ⟨w.heap.size, 0, none⟩ = some (.int .i64 (hi a)) ∧ w'.cell? ⟨w.heap.size, 1, none⟩ = some (.int .u64 (lo a)) ∧ w'.cell? ⟨w.heap.size + 1, 0, none⟩ = some (.int .i64 (hi b)) ∧ w'.cell? ⟨w.heap.size + 1, 1, none⟩ = some (.int .u64 (lo b)) ∧ Below w.heap.size w w') (first | exact keep2 (by assumption) (Made.below (by assumption)) | exact start2 a b w _)
    (first
      | (go_at_call_of 9 (Value.agg #[Value.int IntKind.i64 (hi a), Value.int IntKind.u64 (lo a)]); refine (rof_any a rfl rfl _).mono ?_; rintro e wx ⟨bx, rfl, hx⟩)
      | (go_at_call_of 9 (Value.agg #[Value.int IntKind.i64 (hi b), Value.int IntKind.u64 (lo b)]); refine (rof_any b rfl rfl _).mono ?_; rintro e wy ⟨by', rfl, hy⟩))
  rename_i hH
  have hT := two_xy hH hx hy
  clear hH hx hy
  obtain ⟨c1, c2, c3, c4⟩ := hT.cells
  have h1 := H1.out
  have h2 := H2.out
  have HS : Hid _ := hs
  clear hs
  go_wp2_with (first
    | (go_at_call 20; refine (small_no a (by first | rfl | omega) rfl a0 a1 HS.out _).mono ?_; rintro e w' ⟨rfl, hb⟩; have hT := hT.later hb; obtain ⟨c1, c2, c3, c4⟩ := hT.cells; clear hb)
    | (go_at_call 21; refine (cmp_any a b (by first | rfl | omega) rfl rfl rfl a0 a1 b0 b1 _).mono ?_; rintro e w' ⟨rfl, hb⟩; have hT := hT.later hb; obtain ⟨c1, c2, c3, c4⟩ := hT.cells; clear hb)
    | (go_at_call 22; refine (rcmp_any a b bx by' _ hT.rx hT.ry a0 a1 b0 b1).mono ?_; rintro e w' ⟨rfl, n, rfl⟩; have hT := hT.later (below_drewN (Below.refl _ _) n); obtain ⟨c1, c2, c3, c4⟩ := hT.cells)
    | (go_at_call 23; refine (sign_any a (by first | rfl | omega) rfl a0 a1 _).mono ?_; rintro e w' ⟨rfl, hb⟩; have hT := hT.later hb; obtain ⟨c1, c2, c3, c4⟩ := hT.cells; clear hb)
    | (go_at_call 24; refine (rsign_any a bx _ hT.rx a0 a1).mono ?_; rintro e w' ⟨rfl, hw⟩; have hw := hw.symm; subst hw)
    | (go_at_call 16; refine (lives_any _).mono ?_; rintro e w' ⟨rfl, hb⟩; have hT := hT.later hb; obtain ⟨c1, c2, c3, c4⟩ := hT.cells; clear hb))
  go_ret
  exact ⟨rfl, hT.below⟩
theorem walk (a : Int) (a0 : -170141183460469231731687303715884105728 ≤ a) (a1 : a < 170141183460469231731687303715884105728) (b : Int) (b0 : -170141183460469231731687303715884105728 ≤ b) (b1 : b < 170141183460469231731687303715884105728) (w : World) :
    Calls Try.prog 5 #[.agg #[.int .i64 (hi a), .int .u64 (lo a)], .agg #[.int .i64 (hi b), .int .u64 (lo b)]] w fun e w' => e = .returned (.bool true) ∧ Below w.heap.size w w' := by
  by_cases hs : -9223372036854775808 ≤ a ∧ a ≤ 9223372036854775807
  · by_cases hp : 0 ≤ a
    · exact walkA a a0 a1 b b0 b1 w hs.1 hs.2 (by unfold hi; omega) (by unfold lo; omega)
    · exact walkB a a0 a1 b b0 b1 w hs.1 hs.2 (by unfold hi; omega) (by unfold lo; omega)
  · by_cases h0 : hi a = 0
    · exact walkC a a0 a1 b b0 b1 w hs h0 (by unfold hi at h0; unfold lo; omega)
    · by_cases h1 : hi a = -1
      · exact walkD a a0 a1 b b0 b1 w hs h1 (by unfold hi at h1; unfold lo; omega)
      · exact walkE a a0 a1 b b0 b1 w hs (by simpa using h0) (by simpa using h1)

theorem own : ownKnob Try.prog.godebug = none := by kernel_rfl
theorem cellsWide : Try.prog.cellsOf 24 = 2 := by kernel_rfl
theorem readsWide {H : Type} (enc : TypeId × Value → H) (W : World) (bs : Nat) (sp : Nat → Bool) (hd : Bool) {a b : Int} (wa : (Lit.int .i64 a).wf = true) (wb : (Lit.int .u64 b).wf = true) : DataW.Trod enc Try.prog W bs sp hd 24 (.agg #[.int .i64 a, .int .u64 b]) (.agg [.lit (.int .i64 a), .lit (.int .u64 b)]) [] :=
  shut_agg2 (y0 := (.lit (.int .i64 a), [])) (y1 := (.lit (.int .u64 b), [])) Try.underlying24 (by kernel_rfl) cellsWide ⟨1, by simp [DataW.trod, Try.underlying2, wa]⟩ ⟨1, by simp [DataW.trod, Try.underlying22, wb]⟩
set_option maxRecDepth 100000 in
theorem lifted (os : Os) (started : os.Started) (H : Type) (enc : TypeId × Value → H) :
    ReturnsInHanded {} Try.checked os 5 .any (Rows.wideOrdersSpec.pre6 enc Try.prog Try.f5 Rows.wideOrdersRow.domain false) (Rows.wideOrdersSpec.post enc Try.prog Try.f5 false true false false) := by
  refine returnsInHanded_of_change (C := Try.checked) own started (by kernel_rfl) Try.func5
    (ChangeSpec.witness6 (enc := enc) (C := Try.checked) false ⟨#[], #[.agg #[.int .i64 0, .int .u64 0], .agg #[.int .i64 0, .int .u64 0]], []⟩ 8 (by kernel_rfl) (by kernel_rfl) (by kernel_rfl) (by kernel_rfl)) ?_
  intro W base args ds gs before hval0 hW hcnd _
  have hval : ∀ (j : Nat) t v, Try.f5.params[j]? = some t → args[j]? = some v → Value.okWide Try.prog W .any base t v := hval0
  have hW' := hW
  obtain ⟨p, q, hA0, hV, rfl, hfz, hnd⟩ := hW
  have hA : DataW.TrodAll enc Try.prog W 0 (fun _ => true) true Try.f5.params.toList args.toList ds p := hA0
  rw [Try.params5] at hA hval
  obtain ⟨v0, vs0, d0, ds0, p0, q0, hargs, rfl, rfl, h0, r0⟩ := trodAll_cons hA
  obtain ⟨v1, vs1, d1, ds1, p1, q1, rfl, rfl, rfl, h1, r1⟩ := trodAll_cons r0
  obtain ⟨rfl, rfl, rfl⟩ := trodAll_nil r1
  obtain rfl : args = #[v0, v1] := by cases args; simp_all
  obtain ⟨rfl, rfl⟩ := trodVars_none hV
  obtain ⟨x0, y0, g0, k0, m0, rfl, rfl, rfl, hx0, hy0⟩ := open_agg2 Try.underlying24 (by kernel_rfl) cellsWide (hval 0 24 v0 rfl rfl) h0
  obtain ⟨a0, ex0, rfl, wa0⟩ := DataW.trod_int Try.underlying2 hx0
  obtain ⟨b0, ey0, rfl, wb0⟩ := DataW.trod_int Try.underlying22 hy0
  simp at ex0 ey0
  subst ex0 ey0
  obtain ⟨x1, y1, g1, k1, m1, rfl, rfl, rfl, hx1, hy1⟩ := open_agg2 Try.underlying24 (by kernel_rfl) cellsWide (hval 1 24 v1 rfl rfl) h1
  obtain ⟨a1, ex1, rfl, wa1⟩ := DataW.trod_int Try.underlying2 hx1
  obtain ⟨b1, ey1, rfl, wb1⟩ := DataW.trod_int Try.underlying22 hy1
  simp at ex1 ey1
  subst ex1 ey1
  clear hA0 hval0
  have hwalk := walk (a0 * 18446744073709551616 + b0) (wide_range a0 b0 (bd_i64 wa0).1 (bd_i64 wa0).2 (bd_u64 wb0).1 (bd_u64 wb0).2).1 (wide_range a0 b0 (bd_i64 wa0).1 (bd_i64 wa0).2 (bd_u64 wb0).1 (bd_u64 wb0).2).2 (a1 * 18446744073709551616 + b1) (wide_range a1 b1 (bd_i64 wa1).1 (bd_i64 wa1).2 (bd_u64 wb1).1 (bd_u64 wb1).2).1 (wide_range a1 b1 (bd_i64 wa1).1 (bd_i64 wa1).2 (bd_u64 wb1).1 (bd_u64 wb1).2).2 W
  rw [hi_mk a0 b0 (bd_i64 wa0).1 (bd_i64 wa0).2 (bd_u64 wb0).1 (bd_u64 wb0).2, lo_mk a0 b0 (bd_u64 wb0).1 (bd_u64 wb0).2, hi_mk a1 b1 (bd_i64 wa1).1 (bd_i64 wa1).2 (bd_u64 wb1).1 (bd_u64 wb1).2, lo_mk a1 b1 (bd_u64 wb1).1 (bd_u64 wb1).2] at hwalk
  refine hwalk.mono fun e W' ⟨he, bel⟩ => ?_
  subst he
  exact ⟨_, rfl, _, _, _, [], _, [], hW', trodAll_mk1 (shut_bool Try.underlying4 _), (trodAll_cons_mk (readsWide enc _ _ _ _ wa0 wb0) (trodAll_cons_mk (readsWide enc _ _ _ _ wa1 wb1) trodAll_mk0)), rfl, bel.frame _, fun h => by cases h⟩

/-- The statement. -/
theorem proved : Rows.WideOrdersSaid :=
  OpenClaim.holds_of_wide 5 Try.f5 rfl rfl rfl rfl rfl rfl rfl ⟨rfl, rfl, rfl, rfl, rfl⟩ rfl rfl rfl rfl rfl (by kernel_rfl) Try.func5 (by kernel_rfl)
    (of_decide_eq_true (by kernel_rfl)) (by unfold Func.isWrapper; first | (rw [if_pos (by decide +kernel)]; kernel_rfl) | (rw [if_neg (by decide +kernel)]; exact ⟨rfl, rfl⟩))
    (fun os started H enc _ => lifted os started H enc)
#print axioms proved
end Go.Proofs.Ytjkbmpcchlfglaa.orders
