/-
  wide.Small: a number as one of 64 bits, if it is one.
-/
import Derived.Test.YtjkbmpcchlfglaaWideF
import Derived.Deep.RegionHeld3
namespace Go.Proofs.Ytjkbmpcchlfglaa
open Go.RowKit
set_option linter.unusedVariables false

theorem small_same (a : Int) (h0 : -9223372036854775808 ≤ a) (h1 : a ≤ 9223372036854775807) : wrap64 (lo a) = a := by unfold wrap64 lo; omega
theorem small_other (a n : Int) (a0 : -170141183460469231731687303715884105728 ≤ a) (a1 : a < 170141183460469231731687303715884105728) (hn : wrap64 (lo a) = n) (h : ¬ (-9223372036854775808 ≤ a ∧ a ≤ 9223372036854775807)) : hi n ≠ hi a := by
  subst hn; unfold wrap64 hi lo; omega
theorem keepBox {n : Nat} {a : Int} {w0 w w' : World} (h : w.cell? ⟨n, 0, none⟩ = some (.int .i64 (hi a)) ∧ w.cell? ⟨n, 1, none⟩ = some (.int .u64 (lo a)) ∧ Below w0.heap.size w0 w) (hb : Below w.heap.size w w') :
    w'.cell? ⟨n, 0, none⟩ = some (.int .i64 (hi a)) ∧ w'.cell? ⟨n, 1, none⟩ = some (.int .u64 (lo a)) ∧ Below w0.heap.size w0 w' :=
  ⟨cell_later hb h.1, cell_later hb h.2.1, h.2.2.trans (hb.mono h.2.2.size)⟩
theorem startBox (a : Int) (w : World) (t : TypeId) : ((w.alloc (.cells #[.int .i64 (hi a), .int .u64 (lo a)] t)).drew).cell? ⟨w.heap.size, 0, none⟩ = some (.int .i64 (hi a)) ∧ ((w.alloc (.cells #[.int .i64 (hi a), .int .u64 (lo a)] t)).drew).cell? ⟨w.heap.size, 1, none⟩ = some (.int .u64 (lo a)) ∧
    Below w.heap.size w ((w.alloc (.cells #[.int .i64 (hi a), .int .u64 (lo a)] t)).drew) := ⟨by simp, by simp, ((Below.refl _ _).alloc (Nat.le_refl _) _).drew⟩

theorem small_yes {ah al : Int} (a : Int) (ha : ah = hi a) (hl : al = lo a) (h0 : -9223372036854775808 ≤ a) (h1 : a ≤ 9223372036854775807) (w : World) :
    Calls Try.prog 20 #[.agg #[.int .i64 ah, .int .u64 al]] w fun e w' => e = .returned (.tuple #[.int .i64 a, .bool true]) ∧ Below w.heap.size w w' := by
  subst ha hl
  have hs := small_same a h0 h1
  go_enter Try.func20, Try.ntmps20
  go_wp2
  go_region_held3 (fun w' => w'.cell? ⟨w.heap.size, 0, none⟩ = some (.int .i64 (hi a)) ∧ w'.cell? ⟨w.heap.size, 1, none⟩ = some (.int .u64 (lo a)) ∧ Below w.heap.size w w') (first | exact keepBox (by assumption) (by assumption) | exact startBox a w _)
    (first | (go_at_call 17; refine (of_any a h0 h1 _).mono ?_; rintro e w' ⟨rfl, hb⟩))
  rename_i hH
  go_wp2
  go_ret2
  exact ⟨rfl, hH.2.2⟩
theorem small_no {ah al : Int} (a : Int) (ha : ah = hi a) (hl : al = lo a) (a0 : -170141183460469231731687303715884105728 ≤ a) (a1 : a < 170141183460469231731687303715884105728) (h : ¬ (-9223372036854775808 ≤ a ∧ a ≤ 9223372036854775807)) (w : World) :
    Calls Try.prog 20 #[.agg #[.int .i64 ah, .int .u64 al]] w fun e w' => e = .returned (.tuple #[.int .i64 0, .bool false]) ∧ Below w.heap.size w w' := by
  subst ha hl
  obtain ⟨n, hn⟩ : ∃ n, wrap64 (lo a) = n := ⟨_, rfl⟩
  have hne : (hi n == hi a) = false := by simpa using small_other a n a0 a1 hn h
  have n0 : -9223372036854775808 ≤ n := by rw [← hn]; unfold wrap64; omega
  have n1 : n ≤ 9223372036854775807 := by rw [← hn]; unfold wrap64; omega
  clear h
  go_enter Try.func20, Try.ntmps20
  go_wp2
  go_region_held3 (fun w' => w'.cell? ⟨w.heap.size, 0, none⟩ = some (.int .i64 (hi a)) ∧ w'.cell? ⟨w.heap.size, 1, none⟩ = some (.int .u64 (lo a)) ∧ Below w.heap.size w w') (first | exact keepBox (by assumption) (by assumption) | exact startBox a w _)
    (first | (go_at_call 17; refine (of_any n n0 n1 _).mono ?_; rintro e w' ⟨rfl, hb⟩))
  rename_i hH
  go_wp2
  go_ret2
  exact ⟨rfl, hH.2.2⟩
end Go.Proofs.Ytjkbmpcchlfglaa
