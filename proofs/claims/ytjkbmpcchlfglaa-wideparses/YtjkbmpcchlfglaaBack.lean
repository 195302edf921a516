/-
  There and back: the number of a number's text is the number; how long the text is; which bytes it has. It imports nothing of the program but names.
-/
import Derived.Test.YtjkbmpcchlfglaaWideH
namespace Go.Proofs.Ytjkbmpcchlfglaa
set_option linter.unusedVariables false

theorem digs_rd (k m : Nat) : rd (digs k m) 0 = ((m % 10 ^ k : Nat) : Int) := by
  induction k generalizing m with
  | zero => simp [digs, rd, Nat.mod_one]
  | succ k ih =>
    rw [digs_snoc, rd_append, ih]
    have h : m % 10 ^ (k + 1) = m / 10 % 10 ^ k * 10 + m % 10 := by
      rw [Nat.pow_succ, Nat.mul_comm (10 ^ k) 10, Nat.mod_mul]; omega
    rw [h]
    omega
theorem digs_bytes (k m : Nat) : ∀ c ∈ digs k m, 48 ≤ c ∧ c ≤ 57 := by
  induction k with
  | zero => intro c hc; simp [digs] at hc
  | succ k ih =>
    intro c hc
    rw [digs, List.mem_cons] at hc
    rcases hc with rfl | hc
    · have := Nat.mod_lt (m / 10 ^ k) (show 0 < 10 by decide); omega
    · exact ih c hc
theorem nums_str (l : List Int) (h : ∀ c ∈ l, 0 ≤ c ∧ c < 256) : nums (strOfNums l) = l := by
  unfold nums strOfNums
  simp only [List.map_map]
  conv => rhs; rw [← List.map_id l]
  refine List.map_congr_left fun c hc => ?_
  obtain ⟨a, b⟩ := h c hc
  simp only [Function.comp_apply, id]
  rw [UInt8.toNat_ofNat']
  omega
theorem showI_bytes (a : Int) : ∀ c ∈ showI a, 0 ≤ c ∧ c < 256 := by
  intro c hc
  unfold showI at hc
  rw [List.mem_append] at hc
  rcases hc with hc | hc
  · split at hc
    · simp at hc; omega
    · simp at hc
  · have := digs_bytes _ _ c hc; omega
theorem nums_show (a : Int) : nums (showS a) = showI a := nums_str _ (showI_bytes a)
theorem ndig_le (m : Nat) (h : m ≤ 170141183460469231731687303715884105728) : ndig m ≤ 39 ∧ 1 ≤ ndig m ∧ m < 10 ^ ndig m := by
  have hl := isLen_ndig m (by omega)
  refine ⟨?_, hl.1, hl.2.1⟩
  rcases Nat.lt_or_ge 39 (ndig m) with h39 | h39
  · rcases hl.2.2 with e | e
    · omega
    · have := Nat.pow_le_pow_right (n := 10) (by decide) (show 39 ≤ ndig m - 1 by omega)
      omega
  · exact h39
theorem show_size (a : Int) (h0 : -170141183460469231731687303715884105728 ≤ a) (h1 : a < 170141183460469231731687303715884105728) : (showS a).size ≤ 40 := by
  have := ndig_le a.natAbs (by omega)
  unfold showS
  rw [strOfNums_size]
  unfold showI
  rw [List.length_append, digs_length]
  split <;> simp <;> omega
theorem digs_head (k m : Nat) (hk : 1 ≤ k) : ∃ c l, digs k m = c :: l ∧ 48 ≤ c ∧ c ≤ 57 := by
  obtain ⟨k, rfl⟩ : ∃ k', k = k' + 1 := ⟨k - 1, by omega⟩
  refine ⟨_, _, rfl, ?_, ?_⟩
  · omega
  · have := Nat.mod_lt (m / 10 ^ k) (show 0 < 10 by decide); omega
theorem read_show (a : Int) (h0 : -170141183460469231731687303715884105728 ≤ a) (h1 : a < 170141183460469231731687303715884105728) : readI (showS a) = a := by
  obtain ⟨l1, l2, l3⟩ := ndig_le a.natAbs (by omega)
  unfold readI
  rw [nums_show]
  unfold showI
  by_cases h : a < 0
  · rw [if_pos h]
    simp only [List.cons_append, List.nil_append, List.head?_cons, List.tail_cons, if_true]
    rw [digs_rd, Nat.mod_eq_of_lt l3]; omega
  · rw [if_neg h]
    obtain ⟨c, l, e, c0, c1⟩ := digs_head (ndig a.natAbs) a.natAbs l2
    rw [List.nil_append, if_neg (by rw [e]; simp; omega), digs_rd, Nat.mod_eq_of_lt l3]; omega
end Go.Proofs.Ytjkbmpcchlfglaa
