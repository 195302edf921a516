/-
  What package quad's sign, order and narrowing answer.
-/
import Derived.Test.YtjlndalcaepofaaQuadQ
namespace Go.Proofs.Ytjlndalcaepofaa
open Go.RowKit
set_option linter.unusedVariables false

theorem top_neg (a : Int) (h0 : -57896044618658097711785492504343953926634992332820282019728792003956564819968 ≤ a) (h1 : a < 57896044618658097711785492504343953926634992332820282019728792003956564819968) : wrap64 (q.dg a 3) < 0 ↔ a < 0 := by
  rw [qdg3]; unfold wrap64; omega
theorem isBelow_any {a0 a1 a2 a3 : Int} (a : Int) (ha : Wd a a0 a1 a2 a3) (h0 : -57896044618658097711785492504343953926634992332820282019728792003956564819968 ≤ a) (h1 : a < 57896044618658097711785492504343953926634992332820282019728792003956564819968) (w : World) :
    Calls Try.prog 36 #[.agg #[.int .u64 a0, .int .u64 a1, .int .u64 a2, .int .u64 a3]] w fun e w' => e = .returned (.bool (decide (a < 0))) ∧ Below w.heap.size w w' := by
  obtain ⟨rfl, rfl, rfl, rfl⟩ := ha
  have e : decide (wrap64 (q.dg a 3) < 0) = decide (a < 0) := by rw [decide_eq_decide]; exact top_neg a h0 h1
  clear h0 h1
  go_enter Try.func36, Try.ntmps36
  go_wp2
  go_ret
  exact ⟨rfl, (Below.refl _ _).alloc (Nat.le_refl _) _⟩

theorem split4 (a : Int) : a = q.dg a 0 + q.dg a 1 * 18446744073709551616 + q.dg a 2 * 340282366920938463463374607431768211456 + q.dg a 3 * 6277101735386680763835789423207666416102355444464034512896 + a / 115792089237316195423570985008687907853269984665640564039457584007913129639936 * 115792089237316195423570985008687907853269984665640564039457584007913129639936 := by
  rw [qdg0, qdg1, qdg2, qdg3]; omega
/-- Two numbers in the range with the same words are the same. -/
theorem quad_inj {a b : Int} (h0 : -57896044618658097711785492504343953926634992332820282019728792003956564819968 ≤ a) (h1 : a < 57896044618658097711785492504343953926634992332820282019728792003956564819968) (g0 : -57896044618658097711785492504343953926634992332820282019728792003956564819968 ≤ b) (g1 : b < 57896044618658097711785492504343953926634992332820282019728792003956564819968)
    (e0 : q.dg a 0 = q.dg b 0) (e1 : q.dg a 1 = q.dg b 1) (e2 : q.dg a 2 = q.dg b 2) (e3 : q.dg a 3 = q.dg b 3) : a = b := by
  have ha := split4 a
  have hb := split4 b
  rw [e0, e1, e2, e3] at ha
  omega
theorem ret_int' {a b : Int} (h : a = b) : Ending.returned (.int .i64 a) = .returned (.int .i64 b) := by rw [h]
theorem qsign_any {a0 a1 a2 a3 : Int} (a : Int) (ha : Wd a a0 a1 a2 a3) (h0 : -57896044618658097711785492504343953926634992332820282019728792003956564819968 ≤ a) (h1 : a < 57896044618658097711785492504343953926634992332820282019728792003956564819968) (w : World) :
    Calls Try.prog 23 #[.agg #[.int .u64 a0, .int .u64 a1, .int .u64 a2, .int .u64 a3]] w fun e w' => e = .returned (.int .i64 (cmpI a 0)) ∧ Below w.heap.size w w' := by
  obtain ⟨rfl, rfl, rfl, rfl⟩ := ha
  have HB : Hid _ := fun w => isBelow_any a (wd_self a) h0 h1 w
  have Q4 := quad_eq
  rcases Int.lt_trichotomy a 0 with h | h | h
  · have C : Hid (cmpI a 0 = -1) := by unfold Hid cmpI; rw [if_pos h]
    have D : decide (a < 0) = true := by simpa using h
    clear h0 h1
    go_enter Try.func23, Try.ntmps23
    go_wp2_with (go_at_call 36; refine (HB.out _).mono ?_; rw [D]; rintro e w' ⟨rfl, hb⟩)
    go_ret
    exact ⟨ret_int' C.out.symm, ((Below.refl _ _).alloc (Nat.le_refl _) _).trans (hb.mono (by simp))⟩
  · subst h
    have C : Hid (cmpI 0 0 = 0) := by unfold Hid; decide
    have D : decide ((0 : Int) < 0) = false := by decide
    have Z0 := qdg_0
    clear h0 h1
    go_enter Try.func23, Try.ntmps23
    go_wp2_with (go_at_call 36; refine (HB.out _).mono ?_; rw [D]; rintro e w' ⟨rfl, hb⟩; obtain ⟨hc, hf⟩ := bcell hb)
    go_ret
    exact ⟨ret_int' C.out.symm, ((Below.refl _ _).alloc (Nat.le_refl _) _).trans (hb.mono (by simp))⟩
  · have C : Hid (cmpI a 0 = 1) := by unfold Hid cmpI; rw [if_neg (by omega), if_pos h]
    have D : decide (a < 0) = false := by simp; omega
    have N : (q.dg a 0 == 0 && (q.dg a 1 == 0 && (q.dg a 2 == 0 && q.dg a 3 == 0))) = false := by
      rw [Bool.eq_false_iff]
      intro h'
      simp at h'
      have := split4 a
      omega
    have Q5 := fun w => (Q4 (q.dg a 0) (q.dg a 1) (q.dg a 2) (q.dg a 3) 0 0 0 0 w).trans (by rw [N])
    clear h0 h1 N Q4
    go_enter Try.func23, Try.ntmps23
    go_wp2_with (go_at_call 36; refine (HB.out _).mono ?_; rw [D]; rintro e w' ⟨rfl, hb⟩; obtain ⟨hc, hf⟩ := bcell hb)
    go_ret
    exact ⟨ret_int' C.out.symm, ((Below.refl _ _).alloc (Nat.le_refl _) _).trans (hb.mono (by simp))⟩

theorem cmpI64_any (x y : Int) (w : World) :
    Calls Try.prog 34 #[.int .i64 x, .int .i64 y] w fun e w' => e = .returned (.int .i64 (cmpI x y)) ∧ w' = w := by
  unfold cmpI
  go_enter Try.func34, Try.ntmps34
  go_wp2
  all_goals (go_ret; exact ⟨rfl, rfl⟩)
theorem cmpU64_any (x y : Int) (w : World) :
    Calls Try.prog 35 #[.int .u64 x, .int .u64 y] w fun e w' => e = .returned (.int .i64 (cmpI x y)) ∧ w' = w := by
  unfold cmpI
  go_enter Try.func35, Try.ntmps35
  go_wp2
  all_goals (go_ret; exact ⟨rfl, rfl⟩)
end Go.Proofs.Ytjlndalcaepofaa
