/-
  Digits to the base 65536, cut, joined, held against each other. It imports nothing of the program.
-/
import Derived.Test.YteoepelmapjhcaaDoorLenAhf
import Derived.Test.YteoepelmapjhcaaDoorSubAhf
import Derived.Test.YteoepelmapjhcaaDoorMulAhf
namespace Go.Proofs.YteoepelmapjhcaaDoor.hf
open Go.RowKit
set_option linter.unusedVariables false

theorem dg_div (v : Int) (i j : Nat) : dg (v / 65536 ^ i) j = dg v (i + j) := by
  unfold dg
  have hp := p256 i
  rw [Int.pow_add, Int.ediv_ediv, if_neg (by omega)]
  omega
theorem dcells_take (n m : Nat) (v : Int) (h : m ≤ n) : (dcells n v).take m = dcells m v := by
  unfold dcells
  rw [← List.map_take, List.take_range, Nat.min_eq_left h]
theorem dcells_drop (n i : Nat) (v : Int) : (dcells n v).drop i = dcells (n - i) (v / 65536 ^ i) := by
  refine List.ext_getElem? fun j => ?_
  rw [List.getElem?_drop]
  by_cases h : i + j < n
  · rw [dcells_at _ _ _ h, dcells_at _ _ _ (by omega), dg_div]
  · rw [List.getElem?_eq_none (by rw [dcells_length]; omega), List.getElem?_eq_none (by rw [dcells_length]; omega)]
theorem dcells_join (n m : Nat) (u v : Int) : dcells n u ++ dcells m v = dcells (n + m) (u % 65536 ^ n + v * 65536 ^ n) := by
  refine List.ext_getElem? fun j => ?_
  by_cases h : j < n
  · rw [List.getElem?_append_left (by rw [dcells_length]; exact h), dcells_at _ _ _ h, dcells_at _ _ _ (by omega)]
    have h1 := Int.mul_ediv_add_emod u (65536 ^ n)
    rw [dg_congr (u := u) (v := u % 65536 ^ n + v * 65536 ^ n) (i := n) (u / 65536 ^ n - v) (by rw [Int.sub_mul]; have : u / 65536 ^ n * (65536 : Int) ^ n = 65536 ^ n * (u / 65536 ^ n) := Int.mul_comm _ _; omega) h]
  · rw [List.getElem?_append_right (by rw [dcells_length]; omega), dcells_length]
    by_cases h2 : j < n + m
    · rw [dcells_at _ _ _ (by omega), dcells_at _ _ _ h2]
      have hp := p256 n
      have a := Int.emod_nonneg u (Int.ne_of_gt hp)
      have a' := Int.emod_lt_of_pos u hp
      have e : (u % 65536 ^ n + v * 65536 ^ n) / 65536 ^ n = v := by
        rw [Int.add_mul_ediv_right _ _ (Int.ne_of_gt hp), Int.ediv_eq_zero_of_lt a a']; omega
      have := dg_div (u % 65536 ^ n + v * 65536 ^ n) n (j - n)
      rw [e, show n + (j - n) = j by omega] at this
      rw [this]
    · rw [List.getElem?_eq_none (by rw [dcells_length]; omega), List.getElem?_eq_none (by rw [dcells_length]; omega)]
theorem dcells_zero (n : Nat) : dcells n 0 = List.replicate n (.int .i64 0) := by
  refine List.ext_getElem? fun j => ?_
  by_cases h : j < n
  · rw [dcells_at _ _ _ h, List.getElem?_replicate, if_pos h]; simp [dg]
  · rw [List.getElem?_eq_none (by rw [dcells_length]; omega), List.getElem?_eq_none (by simp; omega)]
theorem dcells_succ (t : Nat) (a : Int) : dcells (t + 1) a = dcells t a ++ [.int .i64 (dg a t)] := by
  unfold dcells; rw [List.range_succ, List.map_append]; rfl
/-- Any digits are some number's. -/
theorem digits_num : ∀ zs : List Int, (∀ z ∈ zs, 0 ≤ z ∧ z < 65536) → ∃ u : Nat, u < 65536 ^ zs.length ∧ zs.map (Value.int .i64) = dcells zs.length (u : Int)
  | [], _ => ⟨0, by simp, by simp [dcells]⟩
  | z :: zs, h => by
    obtain ⟨u, hu, e⟩ := digits_num zs (fun x hx => h x (List.mem_cons_of_mem _ hx))
    obtain ⟨h0, h1⟩ := h z (List.mem_cons_self ..)
    refine ⟨z.toNat + 65536 * u, ?_, ?_⟩
    · rw [List.length_cons, Nat.pow_succ]
      have : z.toNat < 65536 := by omega
      omega
    · rw [List.map_cons, List.length_cons, e]
      have e1 : [Value.int .i64 z] = dcells 1 z := by
        simp [dcells, List.range_succ, dg]
        omega
      have := dcells_join 1 zs.length z u
      rw [← e1] at this
      rw [show zs.length + 1 = 1 + zs.length by omega, show ((z.toNat + 65536 * u : Nat) : Int) = z % 65536 ^ 1 + u * 65536 ^ 1 by simp; omega]
      exact this
/-- Number by number: the length of a number's digits without noughts at the end. -/
theorem take_len {u n : Nat} (h : u < 65536 ^ n) : (dcells n (u : Int)).take (nlen u) = dcells (nlen u) (u : Int) := dcells_take _ _ _ (nlen_le h)
theorem nlen_eq_zero {u : Nat} : nlen u = 0 ↔ u = 0 := by
  refine ⟨fun h => ?_, fun h => by rw [h, nlen_zero]⟩
  have := nlen_lt u
  rw [h] at this
  simpa using this
/-- Two numbers, held against each other from the highest digit on. -/
theorem div_step (u k : Nat) : u / 65536 ^ k = 65536 * (u / 65536 ^ (k + 1)) + u / 65536 ^ k % 65536 := by
  rw [Nat.pow_succ, ← Nat.div_div_eq_div_mul]; omega
theorem lt_of_top {u v k : Nat} (h : u / 65536 ^ (k + 1) = v / 65536 ^ (k + 1)) (hd : dg (u : Int) k < dg (v : Int) k) : u < v := by
  rw [dg_nat, dg_nat] at hd
  have h1 := div_step u k
  have h2 := div_step v k
  rcases Nat.lt_or_ge u v with l | l
  · exact l
  · have := Nat.div_le_div_right (c := 65536 ^ k) l
    omega
theorem eq_of_top {u v k : Nat} (h : u / 65536 ^ (k + 1) = v / 65536 ^ (k + 1)) (hd : dg (u : Int) k = dg (v : Int) k) : u / 65536 ^ k = v / 65536 ^ k := by
  rw [dg_nat, dg_nat] at hd
  have h1 := div_step u k
  have h2 := div_step v k
  omega
theorem quot_digit (v d : Int) (k : Nat) (hd : 0 < d) : (v / 65536 ^ (k + 1) % d * 65536 + dg v k) / d = dg (v / d) k := by
  rw [(long_div v d k hd).1]
  have hp := p256 k
  have hp1 := p256 (k + 1)
  have e1 : v / d / 65536 ^ k = v / 65536 ^ k / d := by rw [Int.ediv_ediv, if_neg (by omega), Int.ediv_ediv, if_neg (by omega), Int.mul_comm]
  have e2 : v / d / 65536 ^ (k + 1) = v / 65536 ^ (k + 1) / d := by rw [Int.ediv_ediv, if_neg (by omega), Int.ediv_ediv, if_neg (by omega), Int.mul_comm]
  have e3 : ∀ x : Int, x / 65536 ^ (k + 1) = x / 65536 ^ k / 65536 := fun x => by rw [Int.pow_succ, Int.ediv_ediv, if_neg (by omega)]; omega
  unfold dg
  rw [← e2, e3, ← e1]
  omega
/-- Cells from place k on those of u, below it those of v. -/
def xim (n k : Nat) (u v : Int) : List Value := fill n (fun j => decide (k ≤ j)) u v
theorem xim_length (n k : Nat) (u v : Int) : (xim n k u v).length = n := fill_length _ _ _ _
theorem xim_at (n k : Nat) (u v : Int) (i : Nat) (h : i < n) (hk : i < k) : (xim n k u v)[i]? = some (.int .i64 (dg v i)) := by
  rw [xim, fill_at _ _ _ _ _ h]; simp; omega
theorem xim_set (n k : Nat) (u v : Int) : (xim n (k + 1) u v).set k (.int .i64 (dg u k)) = xim n k u v := by
  unfold xim
  rw [fill_set]
  refine fill_congr fun j _ => ?_
  have : (decide (k + 1 ≤ j) || j == k) = decide (k ≤ j) := by rw [Bool.eq_iff_iff]; simp; omega
  rw [this]
theorem xim_full (n : Nat) (u v : Int) : xim n n u v = dcells n v := by
  unfold xim fill dcells
  refine List.map_congr_left fun j hj => ?_
  have : ¬ n ≤ j := by have : j < n := by simpa using hj
                       omega
  simp [this]
theorem xim_zero (n : Nat) (u v : Int) : xim n 0 u v = dcells n u := by unfold xim fill dcells; simp
theorem pow_nat (k : Nat) : 0 < 65536 ^ k := Nat.pow_pos (by decide)
theorem dg_lt_int (v : Int) (k : Nat) (h0 : 0 ≤ v) (h : v < 65536 ^ k) : dg v k = 0 := by
  unfold dg; rw [Int.ediv_eq_zero_of_lt h0 h]; rfl
end Go.Proofs.YteoepelmapjhcaaDoor.hf
