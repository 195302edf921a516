/-
  Proved: zelligelaw01.WideMuls answers true for every two numbers of 64 bits. No condition.
-/
import Derived.Test.YtjkbmpcchlfglaaRefC
import Derived.Test.YtjkbmpcchlfglaaRefD
import Derived.Test.YtjkbmpcchlfglaaWideF
import Derived.Test.YtjkbmpcchlfglaaTwo
import Derived.Test.YtjkbmpcchlfglaaHeld
import Derived.ProofKit
import Derived.OpenShut
import Derived.Lib.SmallJoins
namespace Go.Proofs.Ytjkbmpcchlfglaa.muls
open Go.RowKit Go.Proofs.Ytjkbmpcchlfglaa
open Go.ChangeShapes Go.WideShapes Go.ChangeAt Go.Joins
set_option linter.unusedVariables false

set_option maxHeartbeats 1000000 in
theorem walk (a : Int) (a0 : -9223372036854775808 ≤ a) (a1 : a ≤ 9223372036854775807) (b : Int) (b0 : -9223372036854775808 ≤ b) (b1 : b ≤ 9223372036854775807) (w : World) :
    Calls Try.prog 4 #[.int .i64 a, .int .i64 b] w fun e w' => e = .returned (.bool true) ∧ Below w.heap.size w w' := by
  have u1 : IntKind.u64.wrap a = lo a := of_lo a
  have hB : Below w.heap.size w w := Below.refl _ _
  by_cases hneg : a < 0
  · skip
    have h1 : hi a = -1 := by unfold hi; omega
    go_enter Try.func4, Try.ntmps4
    go_wp2_with (first
      | (go_at_call 17; refine (of_any _ (by assumption) (by assumption) _).mono ?_; rintro e w1 ⟨rfl, hb⟩; have hB := hB.trans (hb.mono hB.size); clear hb))
    refine wp_region_held_drew (S := (fun w' => w'.cell? ⟨w1.heap.size, 0, none⟩ = some (.int .i64 (-1)) ∧ w'.cell? ⟨w1.heap.size, 1, none⟩ = some (.int .u64 (lo a)) ∧ w'.cell? ⟨w1.heap.size + 1, 0, none⟩ = some (.int .i64 (hi b)) ∧ w'.cell? ⟨w1.heap.size + 1, 1, none⟩ = some (.int .u64 (lo b)) ∧ Below w.heap.size w w')) (by kernel_rfl) ?_ (fun hHeld => ?_)
    · first | exact keep4 (by assumption) (by assumption) | exact keep4 (by assumption) (Made.below (by assumption)) | exact start4 hB _ _ _ _ _
    refine take_yes (i := 0) (v := ?vn0) rfl (by kernel_rfl) (by kernel_rfl) (by kernel_rfl) (fun _ _ _ h => h) (by rfl) (by assumption) ?hyn0 ?restn0
    case hyn0 => (intro w hSw; (try dsimp only at hSw); first | (go_simp; done) | (go_simp; with_reducible rfl))
    simp only [Act.put, List.setIfInBounds_toArray, List.set_cons_zero, List.set_cons_succ]
    refine take_yes (i := 1) (v := ?vn1) rfl (by kernel_rfl) (by kernel_rfl) (by kernel_rfl) (fun _ _ _ h => h) (by rfl) (by assumption) ?hyn1 ?restn1
    case hyn1 => (intro w hSw; (try dsimp only at hSw); first | (go_simp; done) | (go_simp; with_reducible rfl))
    simp only [Act.put, List.setIfInBounds_toArray, List.set_cons_zero, List.set_cons_succ]
    refine take_yes (i := 2) (v := ?vn2) rfl (by kernel_rfl) (by kernel_rfl) (by kernel_rfl) (fun _ _ _ h => h) (by rfl) (by assumption) ?hyn2 ?restn2
    case hyn2 => (intro w hSw; (try dsimp only at hSw); first | (go_simp; done) | (go_simp; with_reducible rfl))
    simp only [Act.put, List.setIfInBounds_toArray, List.set_cons_zero, List.set_cons_succ]
    refine take_yes (i := 3) (v := ?vn3) rfl (by kernel_rfl) (by kernel_rfl) (by kernel_rfl) (fun _ _ _ h => h) (by rfl) (by assumption) ?hyn3 ?restn3
    case hyn3 => (intro w hSw; (try dsimp only at hSw); first | (go_simp; done) | (go_simp; with_reducible rfl))
    simp only [Act.put, List.setIfInBounds_toArray, List.set_cons_zero, List.set_cons_succ]
    refine take_yes (i := 4) (v := ?vn4) rfl (by kernel_rfl) (by kernel_rfl) (by kernel_rfl) (fun _ _ _ h => h) (by rfl) (by assumption) ?hyn4 ?restn4
    case hyn4 => (intro w hSw; (try dsimp only at hSw); first | (go_simp; done) | (go_simp; with_reducible rfl))
    simp only [Act.put, List.setIfInBounds_toArray, List.set_cons_zero, List.set_cons_succ]
    refine take_yes (i := 5) (v := ?vn5) rfl (by kernel_rfl) (by kernel_rfl) (by kernel_rfl) (fun _ _ _ h => h) (by rfl) (by assumption) ?hyn5 ?restn5
    case hyn5 => (intro w hSw; (try dsimp only at hSw); first | (go_simp; done) | (go_simp; with_reducible rfl))
    simp only [Act.put, List.setIfInBounds_toArray, List.set_cons_zero, List.set_cons_succ]
    refine take_yes (i := 6) (v := ?vn6) rfl (by kernel_rfl) (by kernel_rfl) (by kernel_rfl) (fun _ _ _ h => h) (by rfl) (by assumption) ?hyn6 ?restn6
    case hyn6 => (intro w hSw; (try dsimp only at hSw); first | (go_simp; done) | (go_simp; with_reducible rfl))
    simp only [Act.put, List.setIfInBounds_toArray, List.set_cons_zero, List.set_cons_succ]
    refine take_yes (i := 7) (v := ?vn7) rfl (by kernel_rfl) (by kernel_rfl) (by kernel_rfl) (fun _ _ _ h => h) (by rfl) (by assumption) ?hyn7 ?restn7
    case hyn7 => (intro w hSw; (try dsimp only at hSw); first | (go_simp; done) | (go_simp; with_reducible rfl))
    simp only [Act.put, List.setIfInBounds_toArray, List.set_cons_zero, List.set_cons_succ]
    refine take_yes (i := 8) (v := ?vn8) rfl (by kernel_rfl) (by kernel_rfl) (by kernel_rfl) (fun _ _ _ h => h) (by rfl) (by assumption) ?hyn8 ?restn8
    case hyn8 => (intro w hSw; (try dsimp only at hSw); first | (go_simp; done) | (go_simp; with_reducible rfl))
    simp only [Act.put, List.setIfInBounds_toArray, List.set_cons_zero, List.set_cons_succ]
    refine take_yes (i := 9) (v := ?vn9) rfl (by kernel_rfl) (by kernel_rfl) (by kernel_rfl) (fun _ _ _ h => h) (by rfl) (by assumption) ?hyn9 ?restn9
    case hyn9 => (intro w hSw; (try dsimp only at hSw); first | (go_simp; done) | (go_simp; with_reducible rfl))
    simp only [Act.put, List.setIfInBounds_toArray, List.set_cons_zero, List.set_cons_succ]
    refine take_yes (i := 10) (v := ?vn10) rfl (by kernel_rfl) (by kernel_rfl) (by kernel_rfl) (fun _ _ _ h => h) (by rfl) (by assumption) ?hyn10 ?restn10
    case hyn10 => (intro w hSw; (try dsimp only at hSw); first | (go_simp; done) | (go_simp; with_reducible rfl))
    simp only [Act.put, List.setIfInBounds_toArray, List.set_cons_zero, List.set_cons_succ]
    refine take_yes (i := 11) (v := ?vn11) rfl (by kernel_rfl) (by kernel_rfl) (by kernel_rfl) (fun _ _ _ h => h) (by rfl) (by assumption) ?hyn11 ?restn11
    case hyn11 => (intro w hSw; (try dsimp only at hSw); first | (go_simp; done) | (go_simp; with_reducible rfl))
    simp only [Act.put, List.setIfInBounds_toArray, List.set_cons_zero, List.set_cons_succ]
    refine take_yes (i := 12) (v := ?vn12) rfl (by kernel_rfl) (by kernel_rfl) (by kernel_rfl) (fun _ _ _ h => h) (by rfl) (by assumption) ?hyn12 ?restn12
    case hyn12 => (intro w hSw; (try dsimp only at hSw); first | (go_simp; done) | (go_simp; with_reducible rfl))
    simp only [Act.put, List.setIfInBounds_toArray, List.set_cons_zero, List.set_cons_succ]
    refine take_yes (i := 13) (v := ?vn13) rfl (by kernel_rfl) (by kernel_rfl) (by kernel_rfl) (fun _ _ _ h => h) (by rfl) (by assumption) ?hyn13 ?restn13
    case hyn13 => (intro w hSw; (try dsimp only at hSw); first | (go_simp; done) | (go_simp; with_reducible rfl))
    simp only [Act.put, List.setIfInBounds_toArray, List.set_cons_zero, List.set_cons_succ]
    refine take_no (i := 14) rfl (by kernel_rfl) (by kernel_rfl) (by kernel_rfl) (fun _ _ _ h => h) (by rfl) (by assumption) ?_
    simp only [Act.put, List.setIfInBounds_toArray, List.set_cons_zero, List.set_cons_succ]
    refine take_no (i := 15) rfl (by kernel_rfl) (by kernel_rfl) (by kernel_rfl) (fun _ _ _ h => h) (by rfl) (by assumption) ?_
    simp only [Act.put, List.setIfInBounds_toArray, List.set_cons_zero, List.set_cons_succ]
    refine take_no (i := 16) rfl (by kernel_rfl) (by kernel_rfl) (by kernel_rfl) (fun _ _ _ h => h) (by rfl) (by assumption) ?_
    simp only [Act.put, List.setIfInBounds_toArray, List.set_cons_zero, List.set_cons_succ]
    refine take_no (i := 17) rfl (by kernel_rfl) (by kernel_rfl) (by kernel_rfl) (fun _ _ _ h => h) (by rfl) (by assumption) ?_
    simp only [Act.put, List.setIfInBounds_toArray, List.set_cons_zero, List.set_cons_succ]
    refine take_no (i := 18) rfl (by kernel_rfl) (by kernel_rfl) (by kernel_rfl) (fun _ _ _ h => h) (by rfl) (by assumption) ?_
    simp only [Act.put, List.setIfInBounds_toArray, List.set_cons_zero, List.set_cons_succ]
    refine take_no (i := 19) rfl (by kernel_rfl) (by kernel_rfl) (by kernel_rfl) (fun _ _ _ h => h) (by rfl) (by assumption) ?_
    simp only [Act.put, List.setIfInBounds_toArray, List.set_cons_zero, List.set_cons_succ]
    refine take_no (i := 20) rfl (by kernel_rfl) (by kernel_rfl) (by kernel_rfl) (fun _ _ _ h => h) (by rfl) (by assumption) ?_
    simp only [Act.put, List.setIfInBounds_toArray, List.set_cons_zero, List.set_cons_succ]
    refine take_yes (i := 21) (v := ?vn21) rfl (by kernel_rfl) (by kernel_rfl) (by kernel_rfl) (fun _ _ _ h => h) (by rfl) (by assumption) ?hyn21 ?restn21
    case hyn21 => (intro w hSw; (try dsimp only at hSw); first | (go_simp; done) | (go_simp; with_reducible rfl))
    simp only [Act.put, List.setIfInBounds_toArray, List.set_cons_zero, List.set_cons_succ]
    refine take_yes (i := 22) (v := ?vn22) rfl (by kernel_rfl) (by kernel_rfl) (by kernel_rfl) (fun _ _ _ h => h) (by rfl) (by assumption) ?hyn22 ?restn22
    case hyn22 => (intro w hSw; (try dsimp only at hSw); first | (go_simp; done) | (go_simp; with_reducible rfl))
    simp only [Act.put, List.setIfInBounds_toArray, List.set_cons_zero, List.set_cons_succ]
    refine take_yes (i := 23) (v := ?vn23) rfl (by kernel_rfl) (by kernel_rfl) (by kernel_rfl) (fun _ _ _ h => h) (by rfl) (by assumption) ?hyn23 ?restn23
    case hyn23 => (intro w hSw; (try dsimp only at hSw); first | (go_simp; done) | (go_simp; with_reducible rfl))
    simp only [Act.put, List.setIfInBounds_toArray, List.set_cons_zero, List.set_cons_succ]
    refine take_yes (i := 24) (v := ?vn24) rfl (by kernel_rfl) (by kernel_rfl) (by kernel_rfl) (fun _ _ _ h => h) (by rfl) (by assumption) ?hyn24 ?restn24
    case hyn24 => (intro w hSw; (try dsimp only at hSw); first | (go_simp; done) | (go_simp; with_reducible rfl))
    simp only [Act.put, List.setIfInBounds_toArray, List.set_cons_zero, List.set_cons_succ]
    refine take_yes (i := 25) (v := ?vn25) rfl (by kernel_rfl) (by kernel_rfl) (by kernel_rfl) (fun _ _ _ h => h) (by rfl) (by assumption) ?hyn25 ?restn25
    case hyn25 => (intro w hSw; (try dsimp only at hSw); first | (go_simp; done) | (go_simp; with_reducible rfl))
    simp only [Act.put, List.setIfInBounds_toArray, List.set_cons_zero, List.set_cons_succ]
    refine take_yes (i := 27) (v := ?vn27) rfl (by kernel_rfl) (by kernel_rfl) (by kernel_rfl) (fun _ _ _ h => h) (by rfl) (by assumption) ?hyn27 ?restn27
    case hyn27 => (intro w hSw; (try dsimp only at hSw); first | (go_simp; done) | (go_simp; with_reducible rfl))
    simp only [Act.put, List.setIfInBounds_toArray, List.set_cons_zero, List.set_cons_succ]
    refine take_yes (i := 29) (v := ?vn29) rfl (by kernel_rfl) (by kernel_rfl) (by kernel_rfl) (fun _ _ _ h => h) (by rfl) (by assumption) ?hyn29 ?restn29
    case hyn29 => (intro w hSw; (try dsimp only at hSw); first | (go_simp; done) | (go_simp; with_reducible rfl))
    simp only [Act.put, List.setIfInBounds_toArray, List.set_cons_zero, List.set_cons_succ]
    refine take_call (i := 26) rfl (by kernel_rfl) (fun K hK => ?_)
    go_simp
    (first
      | (go_at_call 18; refine (mul_any a b a0 a1 b0 b1 _).mono ?_; rintro e w' ⟨rfl, hb⟩)
      | (go_at_call_of 9 (Value.agg #[Value.int IntKind.i64 (hi b), Value.int IntKind.u64 (lo b)]); refine (rof_any b rfl rfl _).mono ?_; rintro e wy ⟨by', rfl, hy⟩)
      | (go_at_call 9; refine (rof_any a h1.symm rfl _).mono ?_; rintro e wx ⟨bx, rfl, hx⟩)
      | (go_at_call 19; refine (rmul_any a b bx by' _ (hx.row.below hy.below hx.size) hy.row (Nat.lt_of_lt_of_le hx.size hy.below.size) hy.size).mono ?_; rintro e w' ⟨bm, rfl, hm⟩)
      | (go_at_call 11; refine (rwide_any _ bm _ hm.row hm.size).mono ?_; rintro e w' ⟨rfl, hb⟩)
      | (go_at_call 16; refine (lives_any _).mono ?_; rintro e w' ⟨rfl, hb⟩))
    refine hK.out _ _ ?_ (fun hHeld => ?_)
    · first | exact keep4 (by assumption) (by assumption) | exact keep4 (by assumption) (Made.below (by assumption)) | exact start4 hB _ _ _ _ _
    clear hK K
    refine take_call (i := 28) rfl (by kernel_rfl) (fun K hK => ?_)
    go_simp
    (first
      | (go_at_call 18; refine (mul_any a b a0 a1 b0 b1 _).mono ?_; rintro e w' ⟨rfl, hb⟩)
      | (go_at_call_of 9 (Value.agg #[Value.int IntKind.i64 (hi b), Value.int IntKind.u64 (lo b)]); refine (rof_any b rfl rfl _).mono ?_; rintro e wy ⟨by', rfl, hy⟩)
      | (go_at_call 9; refine (rof_any a h1.symm rfl _).mono ?_; rintro e wx ⟨bx, rfl, hx⟩)
      | (go_at_call 19; refine (rmul_any a b bx by' _ (hx.row.below hy.below hx.size) hy.row (Nat.lt_of_lt_of_le hx.size hy.below.size) hy.size).mono ?_; rintro e w' ⟨bm, rfl, hm⟩)
      | (go_at_call 11; refine (rwide_any _ bm _ hm.row hm.size).mono ?_; rintro e w' ⟨rfl, hb⟩)
      | (go_at_call 16; refine (lives_any _).mono ?_; rintro e w' ⟨rfl, hb⟩))
    refine hK.out _ _ ?_ (fun hHeld => ?_)
    · first | exact keep4 (by assumption) (by assumption) | exact keep4 (by assumption) (Made.below (by assumption)) | exact start4 hB _ _ _ _ _
    clear hK K
    refine take_call (i := 30) rfl (by kernel_rfl) (fun K hK => ?_)
    go_simp
    (first
      | (go_at_call 18; refine (mul_any a b a0 a1 b0 b1 _).mono ?_; rintro e w' ⟨rfl, hb⟩)
      | (go_at_call_of 9 (Value.agg #[Value.int IntKind.i64 (hi b), Value.int IntKind.u64 (lo b)]); refine (rof_any b rfl rfl _).mono ?_; rintro e wy ⟨by', rfl, hy⟩)
      | (go_at_call 9; refine (rof_any a h1.symm rfl _).mono ?_; rintro e wx ⟨bx, rfl, hx⟩)
      | (go_at_call 19; refine (rmul_any a b bx by' _ (hx.row.below hy.below hx.size) hy.row (Nat.lt_of_lt_of_le hx.size hy.below.size) hy.size).mono ?_; rintro e w' ⟨bm, rfl, hm⟩)
      | (go_at_call 11; refine (rwide_any _ bm _ hm.row hm.size).mono ?_; rintro e w' ⟨rfl, hb⟩)
      | (go_at_call 16; refine (lives_any _).mono ?_; rintro e w' ⟨rfl, hb⟩))
    refine hK.out _ _ ?_ (fun hHeld => ?_)
    · first | exact keep4 (by assumption) (by assumption) | exact keep4 (by assumption) (Made.below (by assumption)) | exact start4 hB _ _ _ _ _
    clear hK K
    refine take_call (i := 31) rfl (by kernel_rfl) (fun K hK => ?_)
    go_simp
    (first
      | (go_at_call 18; refine (mul_any a b a0 a1 b0 b1 _).mono ?_; rintro e w' ⟨rfl, hb⟩)
      | (go_at_call_of 9 (Value.agg #[Value.int IntKind.i64 (hi b), Value.int IntKind.u64 (lo b)]); refine (rof_any b rfl rfl _).mono ?_; rintro e wy ⟨by', rfl, hy⟩)
      | (go_at_call 9; refine (rof_any a h1.symm rfl _).mono ?_; rintro e wx ⟨bx, rfl, hx⟩)
      | (go_at_call 19; refine (rmul_any a b bx by' _ (hx.row.below hy.below hx.size) hy.row (Nat.lt_of_lt_of_le hx.size hy.below.size) hy.size).mono ?_; rintro e w' ⟨bm, rfl, hm⟩)
      | (go_at_call 11; refine (rwide_any _ bm _ hm.row hm.size).mono ?_; rintro e w' ⟨rfl, hb⟩)
      | (go_at_call 16; refine (lives_any _).mono ?_; rintro e w' ⟨rfl, hb⟩))
    refine hK.out _ _ ?_ (fun hHeld => ?_)
    · first | exact keep4 (by assumption) (by assumption) | exact keep4 (by assumption) (Made.below (by assumption)) | exact start4 hB _ _ _ _ _
    clear hK K
    refine take_call (i := 32) rfl (by kernel_rfl) (fun K hK => ?_)
    go_simp
    (first
      | (go_at_call 18; refine (mul_any a b a0 a1 b0 b1 _).mono ?_; rintro e w' ⟨rfl, hb⟩)
      | (go_at_call_of 9 (Value.agg #[Value.int IntKind.i64 (hi b), Value.int IntKind.u64 (lo b)]); refine (rof_any b rfl rfl _).mono ?_; rintro e wy ⟨by', rfl, hy⟩)
      | (go_at_call 9; refine (rof_any a h1.symm rfl _).mono ?_; rintro e wx ⟨bx, rfl, hx⟩)
      | (go_at_call 19; refine (rmul_any a b bx by' _ (hx.row.below hy.below hx.size) hy.row (Nat.lt_of_lt_of_le hx.size hy.below.size) hy.size).mono ?_; rintro e w' ⟨bm, rfl, hm⟩)
      | (go_at_call 11; refine (rwide_any _ bm _ hm.row hm.size).mono ?_; rintro e w' ⟨rfl, hb⟩)
      | (go_at_call 16; refine (lives_any _).mono ?_; rintro e w' ⟨rfl, hb⟩))
    refine hK.out _ _ ?_ (fun hHeld => ?_)
    · first | exact keep4 (by assumption) (by assumption) | exact keep4 (by assumption) (Made.below (by assumption)) | exact start4 hB _ _ _ _ _
    clear hK K
    refine take_yes (i := 33) (v := ?vn33) rfl (by kernel_rfl) (by kernel_rfl) (by kernel_rfl) (fun _ _ _ h => h) (by rfl) (by assumption) ?hyn33 ?restn33
    case hyn33 => (intro w hSw; (try dsimp only at hSw); first | (go_simp; done) | (go_simp; with_reducible rfl))
    simp only [Act.put, List.setIfInBounds_toArray, List.set_cons_zero, List.set_cons_succ]
    refine take_yes (i := 34) (v := ?vn34) rfl (by kernel_rfl) (by kernel_rfl) (by kernel_rfl) (fun _ _ _ h => h) (by rfl) (by assumption) ?hyn34 ?restn34
    case hyn34 => (intro w hSw; (try dsimp only at hSw); first | (go_simp; done) | (go_simp; with_reducible rfl))
    simp only [Act.put, List.setIfInBounds_toArray, List.set_cons_zero, List.set_cons_succ]
    refine take_yes (i := 35) (v := ?vn35) rfl (by kernel_rfl) (by kernel_rfl) (by kernel_rfl) (fun _ _ _ h => h) (by rfl) (by assumption) ?hyn35 ?restn35
    case hyn35 => (intro w hSw; (try dsimp only at hSw); first | (go_simp; done) | (go_simp; with_reducible rfl))
    simp only [Act.put, List.setIfInBounds_toArray, List.set_cons_zero, List.set_cons_succ]
    refine take_call (i := 36) rfl (by kernel_rfl) (fun K hK => ?_)
    go_simp
    (first
      | (go_at_call 18; refine (mul_any a b a0 a1 b0 b1 _).mono ?_; rintro e w' ⟨rfl, hb⟩)
      | (go_at_call_of 9 (Value.agg #[Value.int IntKind.i64 (hi b), Value.int IntKind.u64 (lo b)]); refine (rof_any b rfl rfl _).mono ?_; rintro e wy ⟨by', rfl, hy⟩)
      | (go_at_call 9; refine (rof_any a h1.symm rfl _).mono ?_; rintro e wx ⟨bx, rfl, hx⟩)
      | (go_at_call 19; refine (rmul_any a b bx by' _ (hx.row.below hy.below hx.size) hy.row (Nat.lt_of_lt_of_le hx.size hy.below.size) hy.size).mono ?_; rintro e w' ⟨bm, rfl, hm⟩)
      | (go_at_call 11; refine (rwide_any _ bm _ hm.row hm.size).mono ?_; rintro e w' ⟨rfl, hb⟩)
      | (go_at_call 16; refine (lives_any _).mono ?_; rintro e w' ⟨rfl, hb⟩))
    refine hK.out _ _ ?_ (fun hHeld => ?_)
    · first | exact keep4 (by assumption) (by assumption) | exact keep4 (by assumption) (Made.below (by assumption)) | exact start4 hB _ _ _ _ _
    clear hK K
    refine take_yes (i := 37) (v := ?vn37) rfl (by kernel_rfl) (by kernel_rfl) (by kernel_rfl) (fun _ _ _ h => h) (by rfl) (by assumption) ?hyn37 ?restn37
    case hyn37 => (intro w hSw; (try dsimp only at hSw); first | (go_simp; done) | (go_simp; with_reducible rfl))
    simp only [Act.put, List.setIfInBounds_toArray, List.set_cons_zero, List.set_cons_succ]
    refine take_yes (i := 38) (v := ?vn38) rfl (by kernel_rfl) (by kernel_rfl) (by kernel_rfl) (fun _ _ _ h => h) (by rfl) (by assumption) ?hyn38 ?restn38
    case hyn38 => (intro w hSw; (try dsimp only at hSw); first | (go_simp; done) | (go_simp; with_reducible rfl))
    simp only [Act.put, List.setIfInBounds_toArray, List.set_cons_zero, List.set_cons_succ]
    refine wpAnyH_done (by kernel_rfl) ?_ _
    go_wp2
    go_ret
    exact ⟨rfl, hHeld.2.2.2.2⟩
  · have hpos : 0 ≤ a := by omega
    have hdf : decide (a < 0) = false := by simpa using hpos
    have h1 : hi a = 0 := by unfold hi; omega
    go_enter Try.func4, Try.ntmps4
    go_wp2_with (first
      | (go_at_call 17; refine (of_any _ (by assumption) (by assumption) _).mono ?_; rintro e w1 ⟨rfl, hb⟩; have hB := hB.trans (hb.mono hB.size); clear hb))
    refine wp_region_held_drew (S := (fun w' => w'.cell? ⟨w1.heap.size, 0, none⟩ = some (.int .i64 0) ∧ w'.cell? ⟨w1.heap.size, 1, none⟩ = some (.int .u64 (lo a)) ∧ w'.cell? ⟨w1.heap.size + 1, 0, none⟩ = some (.int .i64 (hi b)) ∧ w'.cell? ⟨w1.heap.size + 1, 1, none⟩ = some (.int .u64 (lo b)) ∧ Below w.heap.size w w')) (by kernel_rfl) ?_ (fun hHeld => ?_)
    · first | exact keep4 (by assumption) (by assumption) | exact keep4 (by assumption) (Made.below (by assumption)) | exact start4 hB _ _ _ _ _
    refine take_yes (i := 0) (v := ?vp0) rfl (by kernel_rfl) (by kernel_rfl) (by kernel_rfl) (fun _ _ _ h => h) (by rfl) (by assumption) ?hyp0 ?restp0
    case hyp0 => (intro w hSw; (try dsimp only at hSw); first | (go_simp; done) | (go_simp; with_reducible rfl))
    simp only [Act.put, List.setIfInBounds_toArray, List.set_cons_zero, List.set_cons_succ]
    refine take_yes (i := 1) (v := ?vp1) rfl (by kernel_rfl) (by kernel_rfl) (by kernel_rfl) (fun _ _ _ h => h) (by rfl) (by assumption) ?hyp1 ?restp1
    case hyp1 => (intro w hSw; (try dsimp only at hSw); first | (go_simp; done) | (go_simp; with_reducible rfl))
    simp only [Act.put, List.setIfInBounds_toArray, List.set_cons_zero, List.set_cons_succ]
    refine take_yes (i := 2) (v := ?vp2) rfl (by kernel_rfl) (by kernel_rfl) (by kernel_rfl) (fun _ _ _ h => h) (by rfl) (by assumption) ?hyp2 ?restp2
    case hyp2 => (intro w hSw; (try dsimp only at hSw); first | (go_simp; done) | (go_simp; with_reducible rfl))
    simp only [Act.put, List.setIfInBounds_toArray, List.set_cons_zero, List.set_cons_succ]
    refine take_yes (i := 3) (v := ?vp3) rfl (by kernel_rfl) (by kernel_rfl) (by kernel_rfl) (fun _ _ _ h => h) (by rfl) (by assumption) ?hyp3 ?restp3
    case hyp3 => (intro w hSw; (try dsimp only at hSw); first | (go_simp; done) | (go_simp; with_reducible rfl))
    simp only [Act.put, List.setIfInBounds_toArray, List.set_cons_zero, List.set_cons_succ]
    refine take_yes (i := 4) (v := ?vp4) rfl (by kernel_rfl) (by kernel_rfl) (by kernel_rfl) (fun _ _ _ h => h) (by rfl) (by assumption) ?hyp4 ?restp4
    case hyp4 => (intro w hSw; (try dsimp only at hSw); first | (go_simp; done) | (go_simp; with_reducible rfl))
    simp only [Act.put, List.setIfInBounds_toArray, List.set_cons_zero, List.set_cons_succ]
    refine take_yes (i := 5) (v := ?vp5) rfl (by kernel_rfl) (by kernel_rfl) (by kernel_rfl) (fun _ _ _ h => h) (by rfl) (by assumption) ?hyp5 ?restp5
    case hyp5 => (intro w hSw; (try dsimp only at hSw); first | (go_simp; done) | (go_simp; with_reducible rfl))
    simp only [Act.put, List.setIfInBounds_toArray, List.set_cons_zero, List.set_cons_succ]
    refine take_yes (i := 6) (v := ?vp6) rfl (by kernel_rfl) (by kernel_rfl) (by kernel_rfl) (fun _ _ _ h => h) (by rfl) (by assumption) ?hyp6 ?restp6
    case hyp6 => (intro w hSw; (try dsimp only at hSw); first | (go_simp; done) | (go_simp; with_reducible rfl))
    simp only [Act.put, List.setIfInBounds_toArray, List.set_cons_zero, List.set_cons_succ]
    refine take_yes (i := 7) (v := ?vp7) rfl (by kernel_rfl) (by kernel_rfl) (by kernel_rfl) (fun _ _ _ h => h) (by rfl) (by assumption) ?hyp7 ?restp7
    case hyp7 => (intro w hSw; (try dsimp only at hSw); first | (go_simp; done) | (go_simp; with_reducible rfl))
    simp only [Act.put, List.setIfInBounds_toArray, List.set_cons_zero, List.set_cons_succ]
    refine take_yes (i := 8) (v := ?vp8) rfl (by kernel_rfl) (by kernel_rfl) (by kernel_rfl) (fun _ _ _ h => h) (by rfl) (by assumption) ?hyp8 ?restp8
    case hyp8 => (intro w hSw; (try dsimp only at hSw); first | (go_simp; done) | (go_simp; with_reducible rfl))
    simp only [Act.put, List.setIfInBounds_toArray, List.set_cons_zero, List.set_cons_succ]
    refine take_no (i := 9) rfl (by kernel_rfl) (by kernel_rfl) (by kernel_rfl) (fun _ _ _ h => h) (by rfl) (by assumption) ?_
    simp only [Act.put, List.setIfInBounds_toArray, List.set_cons_zero, List.set_cons_succ]
    refine take_no (i := 10) rfl (by kernel_rfl) (by kernel_rfl) (by kernel_rfl) (fun _ _ _ h => h) (by rfl) (by assumption) ?_
    simp only [Act.put, List.setIfInBounds_toArray, List.set_cons_zero, List.set_cons_succ]
    refine take_no (i := 11) rfl (by kernel_rfl) (by kernel_rfl) (by kernel_rfl) (fun _ _ _ h => h) (by rfl) (by assumption) ?_
    simp only [Act.put, List.setIfInBounds_toArray, List.set_cons_zero, List.set_cons_succ]
    refine take_yes (i := 12) (v := ?vp12) rfl (by kernel_rfl) (by kernel_rfl) (by kernel_rfl) (fun _ _ _ h => h) (by rfl) (by assumption) ?hyp12 ?restp12
    case hyp12 => (intro w hSw; (try dsimp only at hSw); first | (go_simp; done) | (go_simp; with_reducible rfl))
    simp only [Act.put, List.setIfInBounds_toArray, List.set_cons_zero, List.set_cons_succ]
    refine take_yes (i := 13) (v := ?vp13) rfl (by kernel_rfl) (by kernel_rfl) (by kernel_rfl) (fun _ _ _ h => h) (by rfl) (by assumption) ?hyp13 ?restp13
    case hyp13 => (intro w hSw; (try dsimp only at hSw); first | (go_simp; done) | (go_simp; with_reducible rfl))
    simp only [Act.put, List.setIfInBounds_toArray, List.set_cons_zero, List.set_cons_succ]
    refine take_yes (i := 14) (v := ?vp14) rfl (by kernel_rfl) (by kernel_rfl) (by kernel_rfl) (fun _ _ _ h => h) (by rfl) (by assumption) ?hyp14 ?restp14
    case hyp14 => (intro w hSw; (try dsimp only at hSw); first | (go_simp; done) | (go_simp; with_reducible rfl))
    simp only [Act.put, List.setIfInBounds_toArray, List.set_cons_zero, List.set_cons_succ]
    refine take_yes (i := 15) (v := ?vp15) rfl (by kernel_rfl) (by kernel_rfl) (by kernel_rfl) (fun _ _ _ h => h) (by rfl) (by assumption) ?hyp15 ?restp15
    case hyp15 => (intro w hSw; (try dsimp only at hSw); first | (go_simp; done) | (go_simp; with_reducible rfl))
    simp only [Act.put, List.setIfInBounds_toArray, List.set_cons_zero, List.set_cons_succ]
    refine take_yes (i := 16) (v := ?vp16) rfl (by kernel_rfl) (by kernel_rfl) (by kernel_rfl) (fun _ _ _ h => h) (by rfl) (by assumption) ?hyp16 ?restp16
    case hyp16 => (intro w hSw; (try dsimp only at hSw); first | (go_simp; done) | (go_simp; with_reducible rfl))
    simp only [Act.put, List.setIfInBounds_toArray, List.set_cons_zero, List.set_cons_succ]
    refine take_yes (i := 17) (v := ?vp17) rfl (by kernel_rfl) (by kernel_rfl) (by kernel_rfl) (fun _ _ _ h => h) (by rfl) (by assumption) ?hyp17 ?restp17
    case hyp17 => (intro w hSw; (try dsimp only at hSw); first | (go_simp; done) | (go_simp; with_reducible rfl))
    simp only [Act.put, List.setIfInBounds_toArray, List.set_cons_zero, List.set_cons_succ]
    refine take_yes (i := 18) (v := ?vp18) rfl (by kernel_rfl) (by kernel_rfl) (by kernel_rfl) (fun _ _ _ h => h) (by rfl) (by assumption) ?hyp18 ?restp18
    case hyp18 => (intro w hSw; (try dsimp only at hSw); first | (go_simp; done) | (go_simp; with_reducible rfl))
    simp only [Act.put, List.setIfInBounds_toArray, List.set_cons_zero, List.set_cons_succ]
    refine take_yes (i := 19) (v := ?vp19) rfl (by kernel_rfl) (by kernel_rfl) (by kernel_rfl) (fun _ _ _ h => h) (by rfl) (by assumption) ?hyp19 ?restp19
    case hyp19 => (intro w hSw; (try dsimp only at hSw); first | (go_simp; done) | (go_simp; with_reducible rfl))
    simp only [Act.put, List.setIfInBounds_toArray, List.set_cons_zero, List.set_cons_succ]
    refine take_yes (i := 20) (v := ?vp20) rfl (by kernel_rfl) (by kernel_rfl) (by kernel_rfl) (fun _ _ _ h => h) (by rfl) (by assumption) ?hyp20 ?restp20
    case hyp20 => (intro w hSw; (try dsimp only at hSw); first | (go_simp; done) | (go_simp; with_reducible rfl))
    simp only [Act.put, List.setIfInBounds_toArray, List.set_cons_zero, List.set_cons_succ]
    refine take_yes (i := 21) (v := ?vp21) rfl (by kernel_rfl) (by kernel_rfl) (by kernel_rfl) (fun _ _ _ h => h) (by rfl) (by assumption) ?hyp21 ?restp21
    case hyp21 => (intro w hSw; (try dsimp only at hSw); first | (go_simp; done) | (go_simp; with_reducible rfl))
    simp only [Act.put, List.setIfInBounds_toArray, List.set_cons_zero, List.set_cons_succ]
    refine take_yes (i := 22) (v := ?vp22) rfl (by kernel_rfl) (by kernel_rfl) (by kernel_rfl) (fun _ _ _ h => h) (by rfl) (by assumption) ?hyp22 ?restp22
    case hyp22 => (intro w hSw; (try dsimp only at hSw); first | (go_simp; done) | (go_simp; with_reducible rfl))
    simp only [Act.put, List.setIfInBounds_toArray, List.set_cons_zero, List.set_cons_succ]
    refine take_yes (i := 23) (v := ?vp23) rfl (by kernel_rfl) (by kernel_rfl) (by kernel_rfl) (fun _ _ _ h => h) (by rfl) (by assumption) ?hyp23 ?restp23
    case hyp23 => (intro w hSw; (try dsimp only at hSw); first | (go_simp; done) | (go_simp; with_reducible rfl))
    simp only [Act.put, List.setIfInBounds_toArray, List.set_cons_zero, List.set_cons_succ]
    refine take_yes (i := 24) (v := ?vp24) rfl (by kernel_rfl) (by kernel_rfl) (by kernel_rfl) (fun _ _ _ h => h) (by rfl) (by assumption) ?hyp24 ?restp24
    case hyp24 => (intro w hSw; (try dsimp only at hSw); first | (go_simp; done) | (go_simp; with_reducible rfl))
    simp only [Act.put, List.setIfInBounds_toArray, List.set_cons_zero, List.set_cons_succ]
    refine take_yes (i := 25) (v := ?vp25) rfl (by kernel_rfl) (by kernel_rfl) (by kernel_rfl) (fun _ _ _ h => h) (by rfl) (by assumption) ?hyp25 ?restp25
    case hyp25 => (intro w hSw; (try dsimp only at hSw); first | (go_simp; done) | (go_simp; with_reducible rfl))
    simp only [Act.put, List.setIfInBounds_toArray, List.set_cons_zero, List.set_cons_succ]
    refine take_yes (i := 27) (v := ?vp27) rfl (by kernel_rfl) (by kernel_rfl) (by kernel_rfl) (fun _ _ _ h => h) (by rfl) (by assumption) ?hyp27 ?restp27
    case hyp27 => (intro w hSw; (try dsimp only at hSw); first | (go_simp; done) | (go_simp; with_reducible rfl))
    simp only [Act.put, List.setIfInBounds_toArray, List.set_cons_zero, List.set_cons_succ]
    refine take_yes (i := 29) (v := ?vp29) rfl (by kernel_rfl) (by kernel_rfl) (by kernel_rfl) (fun _ _ _ h => h) (by rfl) (by assumption) ?hyp29 ?restp29
    case hyp29 => (intro w hSw; (try dsimp only at hSw); first | (go_simp; done) | (go_simp; with_reducible rfl))
    simp only [Act.put, List.setIfInBounds_toArray, List.set_cons_zero, List.set_cons_succ]
    refine take_call (i := 26) rfl (by kernel_rfl) (fun K hK => ?_)
    go_simp
    (first
      | (go_at_call 18; refine (mul_any a b a0 a1 b0 b1 _).mono ?_; rintro e w' ⟨rfl, hb⟩)
      | (go_at_call_of 9 (Value.agg #[Value.int IntKind.i64 (hi b), Value.int IntKind.u64 (lo b)]); refine (rof_any b rfl rfl _).mono ?_; rintro e wy ⟨by', rfl, hy⟩)
      | (go_at_call 9; refine (rof_any a h1.symm rfl _).mono ?_; rintro e wx ⟨bx, rfl, hx⟩)
      | (go_at_call 19; refine (rmul_any a b bx by' _ (hx.row.below hy.below hx.size) hy.row (Nat.lt_of_lt_of_le hx.size hy.below.size) hy.size).mono ?_; rintro e w' ⟨bm, rfl, hm⟩)
      | (go_at_call 11; refine (rwide_any _ bm _ hm.row hm.size).mono ?_; rintro e w' ⟨rfl, hb⟩)
      | (go_at_call 16; refine (lives_any _).mono ?_; rintro e w' ⟨rfl, hb⟩))
    refine hK.out _ _ ?_ (fun hHeld => ?_)
    · first | exact keep4 (by assumption) (by assumption) | exact keep4 (by assumption) (Made.below (by assumption)) | exact start4 hB _ _ _ _ _
    clear hK K
    refine take_call (i := 28) rfl (by kernel_rfl) (fun K hK => ?_)
    go_simp
    (first
      | (go_at_call 18; refine (mul_any a b a0 a1 b0 b1 _).mono ?_; rintro e w' ⟨rfl, hb⟩)
      | (go_at_call_of 9 (Value.agg #[Value.int IntKind.i64 (hi b), Value.int IntKind.u64 (lo b)]); refine (rof_any b rfl rfl _).mono ?_; rintro e wy ⟨by', rfl, hy⟩)
      | (go_at_call 9; refine (rof_any a h1.symm rfl _).mono ?_; rintro e wx ⟨bx, rfl, hx⟩)
      | (go_at_call 19; refine (rmul_any a b bx by' _ (hx.row.below hy.below hx.size) hy.row (Nat.lt_of_lt_of_le hx.size hy.below.size) hy.size).mono ?_; rintro e w' ⟨bm, rfl, hm⟩)
      | (go_at_call 11; refine (rwide_any _ bm _ hm.row hm.size).mono ?_; rintro e w' ⟨rfl, hb⟩)
      | (go_at_call 16; refine (lives_any _).mono ?_; rintro e w' ⟨rfl, hb⟩))
    refine hK.out _ _ ?_ (fun hHeld => ?_)
    · first | exact keep4 (by assumption) (by assumption) | exact keep4 (by assumption) (Made.below (by assumption)) | exact start4 hB _ _ _ _ _
    clear hK K
    refine take_call (i := 30) rfl (by kernel_rfl) (fun K hK => ?_)
    go_simp
    (first
      | (go_at_call 18; refine (mul_any a b a0 a1 b0 b1 _).mono ?_; rintro e w' ⟨rfl, hb⟩)
      | (go_at_call_of 9 (Value.agg #[Value.int IntKind.i64 (hi b), Value.int IntKind.u64 (lo b)]); refine (rof_any b rfl rfl _).mono ?_; rintro e wy ⟨by', rfl, hy⟩)
      | (go_at_call 9; refine (rof_any a h1.symm rfl _).mono ?_; rintro e wx ⟨bx, rfl, hx⟩)
      | (go_at_call 19; refine (rmul_any a b bx by' _ (hx.row.below hy.below hx.size) hy.row (Nat.lt_of_lt_of_le hx.size hy.below.size) hy.size).mono ?_; rintro e w' ⟨bm, rfl, hm⟩)
      | (go_at_call 11; refine (rwide_any _ bm _ hm.row hm.size).mono ?_; rintro e w' ⟨rfl, hb⟩)
      | (go_at_call 16; refine (lives_any _).mono ?_; rintro e w' ⟨rfl, hb⟩))
    refine hK.out _ _ ?_ (fun hHeld => ?_)
    · first | exact keep4 (by assumption) (by assumption) | exact keep4 (by assumption) (Made.below (by assumption)) | exact start4 hB _ _ _ _ _
    clear hK K
    refine take_call (i := 31) rfl (by kernel_rfl) (fun K hK => ?_)
    go_simp
    (first
      | (go_at_call 18; refine (mul_any a b a0 a1 b0 b1 _).mono ?_; rintro e w' ⟨rfl, hb⟩)
      | (go_at_call_of 9 (Value.agg #[Value.int IntKind.i64 (hi b), Value.int IntKind.u64 (lo b)]); refine (rof_any b rfl rfl _).mono ?_; rintro e wy ⟨by', rfl, hy⟩)
      | (go_at_call 9; refine (rof_any a h1.symm rfl _).mono ?_; rintro e wx ⟨bx, rfl, hx⟩)
      | (go_at_call 19; refine (rmul_any a b bx by' _ (hx.row.below hy.below hx.size) hy.row (Nat.lt_of_lt_of_le hx.size hy.below.size) hy.size).mono ?_; rintro e w' ⟨bm, rfl, hm⟩)
      | (go_at_call 11; refine (rwide_any _ bm _ hm.row hm.size).mono ?_; rintro e w' ⟨rfl, hb⟩)
      | (go_at_call 16; refine (lives_any _).mono ?_; rintro e w' ⟨rfl, hb⟩))
    refine hK.out _ _ ?_ (fun hHeld => ?_)
    · first | exact keep4 (by assumption) (by assumption) | exact keep4 (by assumption) (Made.below (by assumption)) | exact start4 hB _ _ _ _ _
    clear hK K
    refine take_call (i := 32) rfl (by kernel_rfl) (fun K hK => ?_)
    go_simp
    (first
      | (go_at_call 18; refine (mul_any a b a0 a1 b0 b1 _).mono ?_; rintro e w' ⟨rfl, hb⟩)
      | (go_at_call_of 9 (Value.agg #[Value.int IntKind.i64 (hi b), Value.int IntKind.u64 (lo b)]); refine (rof_any b rfl rfl _).mono ?_; rintro e wy ⟨by', rfl, hy⟩)
      | (go_at_call 9; refine (rof_any a h1.symm rfl _).mono ?_; rintro e wx ⟨bx, rfl, hx⟩)
      | (go_at_call 19; refine (rmul_any a b bx by' _ (hx.row.below hy.below hx.size) hy.row (Nat.lt_of_lt_of_le hx.size hy.below.size) hy.size).mono ?_; rintro e w' ⟨bm, rfl, hm⟩)
      | (go_at_call 11; refine (rwide_any _ bm _ hm.row hm.size).mono ?_; rintro e w' ⟨rfl, hb⟩)
      | (go_at_call 16; refine (lives_any _).mono ?_; rintro e w' ⟨rfl, hb⟩))
    refine hK.out _ _ ?_ (fun hHeld => ?_)
    · first | exact keep4 (by assumption) (by assumption) | exact keep4 (by assumption) (Made.below (by assumption)) | exact start4 hB _ _ _ _ _
    clear hK K
    refine take_yes (i := 33) (v := ?vp33) rfl (by kernel_rfl) (by kernel_rfl) (by kernel_rfl) (fun _ _ _ h => h) (by rfl) (by assumption) ?hyp33 ?restp33
    case hyp33 => (intro w hSw; (try dsimp only at hSw); first | (go_simp; done) | (go_simp; with_reducible rfl))
    simp only [Act.put, List.setIfInBounds_toArray, List.set_cons_zero, List.set_cons_succ]
    refine take_yes (i := 34) (v := ?vp34) rfl (by kernel_rfl) (by kernel_rfl) (by kernel_rfl) (fun _ _ _ h => h) (by rfl) (by assumption) ?hyp34 ?restp34
    case hyp34 => (intro w hSw; (try dsimp only at hSw); first | (go_simp; done) | (go_simp; with_reducible rfl))
    simp only [Act.put, List.setIfInBounds_toArray, List.set_cons_zero, List.set_cons_succ]
    refine take_yes (i := 35) (v := ?vp35) rfl (by kernel_rfl) (by kernel_rfl) (by kernel_rfl) (fun _ _ _ h => h) (by rfl) (by assumption) ?hyp35 ?restp35
    case hyp35 => (intro w hSw; (try dsimp only at hSw); first | (go_simp; done) | (go_simp; with_reducible rfl))
    simp only [Act.put, List.setIfInBounds_toArray, List.set_cons_zero, List.set_cons_succ]
    refine take_call (i := 36) rfl (by kernel_rfl) (fun K hK => ?_)
    go_simp
    (first
      | (go_at_call 18; refine (mul_any a b a0 a1 b0 b1 _).mono ?_; rintro e w' ⟨rfl, hb⟩)
      | (go_at_call_of 9 (Value.agg #[Value.int IntKind.i64 (hi b), Value.int IntKind.u64 (lo b)]); refine (rof_any b rfl rfl _).mono ?_; rintro e wy ⟨by', rfl, hy⟩)
      | (go_at_call 9; refine (rof_any a h1.symm rfl _).mono ?_; rintro e wx ⟨bx, rfl, hx⟩)
      | (go_at_call 19; refine (rmul_any a b bx by' _ (hx.row.below hy.below hx.size) hy.row (Nat.lt_of_lt_of_le hx.size hy.below.size) hy.size).mono ?_; rintro e w' ⟨bm, rfl, hm⟩)
      | (go_at_call 11; refine (rwide_any _ bm _ hm.row hm.size).mono ?_; rintro e w' ⟨rfl, hb⟩)
      | (go_at_call 16; refine (lives_any _).mono ?_; rintro e w' ⟨rfl, hb⟩))
    refine hK.out _ _ ?_ (fun hHeld => ?_)
    · first | exact keep4 (by assumption) (by assumption) | exact keep4 (by assumption) (Made.below (by assumption)) | exact start4 hB _ _ _ _ _
    clear hK K
    refine take_yes (i := 37) (v := ?vp37) rfl (by kernel_rfl) (by kernel_rfl) (by kernel_rfl) (fun _ _ _ h => h) (by rfl) (by assumption) ?hyp37 ?restp37
    case hyp37 => (intro w hSw; (try dsimp only at hSw); first | (go_simp; done) | (go_simp; with_reducible rfl))
    simp only [Act.put, List.setIfInBounds_toArray, List.set_cons_zero, List.set_cons_succ]
    refine take_yes (i := 38) (v := ?vp38) rfl (by kernel_rfl) (by kernel_rfl) (by kernel_rfl) (fun _ _ _ h => h) (by rfl) (by assumption) ?hyp38 ?restp38
    case hyp38 => (intro w hSw; (try dsimp only at hSw); first | (go_simp; done) | (go_simp; with_reducible rfl))
    simp only [Act.put, List.setIfInBounds_toArray, List.set_cons_zero, List.set_cons_succ]
    refine wpAnyH_done (by kernel_rfl) ?_ _
    go_wp2
    go_ret
    exact ⟨rfl, hHeld.2.2.2.2⟩

theorem own : ownKnob Try.prog.godebug = none := by kernel_rfl
set_option maxRecDepth 100000 in
theorem lifted (os : Os) (started : os.Started) (H : Type) (enc : TypeId × Value → H) :
    ReturnsInHanded {} Try.checked os 4 .any (Rows.wideMulsSpec.pre6 enc Try.prog Try.f4 Rows.wideMulsRow.domain false) (Rows.wideMulsSpec.post enc Try.prog Try.f4 false true false false) := by
  refine returnsInHanded_of_change (C := Try.checked) own started (by kernel_rfl) Try.func4
    (ChangeSpec.witness6 (enc := enc) (C := Try.checked) false ⟨#[], #[.int .i64 0, .int .i64 0], []⟩ 8 (by kernel_rfl) (by kernel_rfl) (by kernel_rfl) (by kernel_rfl)) ?_
  intro W base args ds gs before hval0 hW hcnd _
  have hval : ∀ (j : Nat) t v, Try.f4.params[j]? = some t → args[j]? = some v → Value.okWide Try.prog W .any base t v := hval0
  have hW' := hW
  obtain ⟨p, q, hA0, hV, rfl, hfz, hnd⟩ := hW
  have hA : DataW.TrodAll enc Try.prog W 0 (fun _ => true) true Try.f4.params.toList args.toList ds p := hA0
  rw [Try.params4] at hA hval
  obtain ⟨v0, vs0, d0, ds0, p0, q0, hargs, rfl, rfl, h0, r0⟩ := trodAll_cons hA
  obtain ⟨v1, vs1, d1, ds1, p1, q1, rfl, rfl, rfl, h1, r1⟩ := trodAll_cons r0
  obtain ⟨rfl, rfl, rfl⟩ := trodAll_nil r1
  obtain rfl : args = #[v0, v1] := by cases args; simp_all
  obtain ⟨rfl, rfl⟩ := trodVars_none hV
  obtain ⟨a0, rfl, rfl, rfl, w0⟩ := open_int Try.underlying2 (hval 0 2 v0 rfl rfl) h0
  obtain ⟨a1, rfl, rfl, rfl, w1⟩ := open_int Try.underlying2 (hval 1 2 v1 rfl rfl) h1
  clear hA0 hval0
  have hwalk := walk a0 (bd_i64 w0).1 (bd_i64 w0).2 a1 (bd_i64 w1).1 (bd_i64 w1).2 W
  refine hwalk.mono fun e W' ⟨he, bel⟩ => ?_
  subst he
  exact ⟨_, rfl, _, _, _, [], _, [], hW', trodAll_mk1 (shut_bool Try.underlying4 _), (trodAll_cons_mk (shut_int Try.underlying2 w0) (trodAll_cons_mk (shut_int Try.underlying2 w1) trodAll_mk0)), rfl, bel.frame _, fun h => by cases h⟩

/-- The statement. -/
theorem proved : Rows.WideMulsSaid :=
  OpenClaim.holds_of_wide 4 Try.f4 rfl rfl rfl rfl rfl rfl rfl ⟨rfl, rfl, rfl, rfl, rfl⟩ rfl rfl rfl rfl rfl (by kernel_rfl) Try.func4 (by kernel_rfl)
    (of_decide_eq_true (by kernel_rfl)) (by unfold Func.isWrapper; first | (rw [if_pos (by decide +kernel)]; kernel_rfl) | (rw [if_neg (by decide +kernel)]; exact ⟨rfl, rfl⟩))
    (fun os started H enc _ => lifted os started H enc)
#print axioms proved
end Go.Proofs.Ytjkbmpcchlfglaa.muls
