/-
  Joined texts, part 5:
  Numbers as digits to the base 256: which digits a sum, a difference, a product has. It imports nothing of the program.
  Numbers as digits to the base 18446744073709551616: which digits a sum, a difference, a product has. It imports nothing of the program.
  The arithmetic of a product, digit by digit. It imports nothing of the program.
  Plain arithmetic of numbers of two words: what word a sum, a difference and a product have. It imports nothing of the program.
  Plain arithmetic of numbers of four words. It imports nothing of the program.
  What package quad's sum, difference and negation answer, as words.
  What package quad's product answers, as words.
  What package quad's product of words without signs answers.
-/
import Derived.Test.YtnemailhijkemaaP4
import Derived.WalkKit
import Derived.Laws.Bits64b
import Derived.Test.YtnemailhijkemaaP1
import Derived.Test.YtnemailhijkemaaRows
import Derived.WalkSpells
import Derived.StillTactics
import Derived.Laws.Pointers
import Derived.Laws.Externs
import Derived.Shelf.Spec.BitsCarry
import Derived.RowKit3
import Derived.Deep.RegionHeld3
import Derived.Deep.QuietTactic
import Derived.BigQuiet
import Derived.RegionTactic
import Derived.Deep.RegionWith
namespace Go.Proofs.Ytnemailhijkemaa.lq
open Go.RowKit

/-- Digit i of v, to the base 256 (of a number below nought: of v modulo as many digits as you like). -/
def dg (v : Int) (i : Nat) : Int := v / 256 ^ i % 256
theorem dg_range (v : Int) (i : Nat) : 0 ≤ dg v i ∧ dg v i < 256 := by unfold dg; omega
theorem p256 (i : Nat) : (0 : Int) < 256 ^ i := Int.pow_pos (by decide)
/-- n digits: at the places that p names those of u, at the others those of v. -/
def fill (n : Nat) (p : Nat → Bool) (u v : Int) : List Value := (List.range n).map fun j => .int .i64 (if p j then dg u j else dg v j)
def dcells (n : Nat) (v : Int) : List Value := (List.range n).map fun j => .int .i64 (dg v j)
def mix (n i : Nat) (u v : Int) : List Value := fill n (fun j => decide (j < i)) u v
theorem fill_length (n : Nat) (p : Nat → Bool) (u v : Int) : (fill n p u v).length = n := by simp [fill]
theorem mix_length (n i : Nat) (u v : Int) : (mix n i u v).length = n := fill_length _ _ _ _
theorem dcells_length (n : Nat) (v : Int) : (dcells n v).length = n := by simp [dcells]
theorem dcells_at (n : Nat) (v : Int) (i : Nat) (h : i < n) : (dcells n v)[i]? = some (.int .i64 (dg v i)) := by simp [dcells, h]
theorem fill_at (n : Nat) (p : Nat → Bool) (u v : Int) (i : Nat) (h : i < n) : (fill n p u v)[i]? = some (.int .i64 (if p i then dg u i else dg v i)) := by simp [fill, h]
theorem mix_at (n k : Nat) (u v : Int) (i : Nat) (h : i < n) (hk : k ≤ i) : (mix n k u v)[i]? = some (.int .i64 (dg v i)) := by
  rw [mix, fill_at _ _ _ _ _ h]; simp; omega
theorem fill_congr {n : Nat} {p q : Nat → Bool} {u v u' v' : Int} (h : ∀ j, j < n → (if p j then dg u j else dg v j) = (if q j then dg u' j else dg v' j)) : fill n p u v = fill n q u' v' := by
  unfold fill
  refine List.map_congr_left fun j hj => ?_
  rw [h j (by simpa using hj)]
theorem fill_set (n : Nat) (p : Nat → Bool) (u v : Int) (i : Nat) : (fill n p u v).set i (.int .i64 (dg u i)) = fill n (fun j => p j || j == i) u v := by
  refine List.ext_getElem? fun j => ?_
  rw [List.getElem?_set]
  by_cases e : i = j
  · subst e
    by_cases h : i < n
    · rw [if_pos rfl, if_pos (by rw [fill_length]; exact h), fill_at _ _ _ _ _ h]; simp
    · rw [if_pos rfl, if_neg (by rw [fill_length]; exact h), List.getElem?_eq_none (by rw [fill_length]; omega)]
  · by_cases h : j < n
    · rw [if_neg e, fill_at _ _ _ _ _ h, fill_at _ _ _ _ _ h]
      have e' : (j == i) = false := by simp; omega
      simp [e']
    · rw [if_neg e, List.getElem?_eq_none (by simp [fill_length]; omega), List.getElem?_eq_none (by simp [fill_length]; omega)]
theorem mix_set (n i : Nat) (u v : Int) : (mix n i u v).set i (.int .i64 (dg u i)) = mix n (i + 1) u v := by
  unfold mix
  rw [fill_set]
  refine fill_congr fun j _ => ?_
  have : (decide (j < i) || j == i) = decide (j < i + 1) := by rw [Bool.eq_iff_iff]; simp; omega
  rw [this]
theorem mix_zero (n : Nat) (u v : Int) : mix n 0 u v = dcells n v := by unfold mix fill dcells; simp
theorem mix_full (n : Nat) (u v : Int) : mix n n u v = dcells n u := by
  unfold mix fill dcells
  refine List.map_congr_left fun j hj => ?_
  have : j < n := by simpa using hj
  simp [this]
/-- The digits of two numbers that are the same modulo 256^i are the same below place i. -/
theorem dg_congr {u v : Int} {i j : Nat} (t : Int) (h : u = v + t * 256 ^ i) (hj : j < i) : dg u j = dg v j := by
  unfold dg
  obtain ⟨d, rfl⟩ : ∃ d, i = j + 1 + d := ⟨i - (j + 1), by omega⟩
  have e : t * (256 : Int) ^ (j + 1 + d) = (256 * (t * 256 ^ d)) * 256 ^ j := by
    rw [show j + 1 + d = d + 1 + j by omega, Int.pow_add, Int.pow_succ, ← Int.mul_assoc, ← Int.mul_assoc, Int.mul_comm (t * 256 ^ d) 256]
  rw [h, e, Int.add_mul_ediv_right _ _ (Int.ne_of_gt (p256 j))]
  omega
/-- The carry into place i when x and y are added. -/
def carry (x y : Int) (i : Nat) : Int := (x % 256 ^ i + y % 256 ^ i) / 256 ^ i
theorem carry_zero (x y : Int) : carry x y 0 = 0 := by simp [carry]
theorem emod_succ (x : Int) (i : Nat) : x % 256 ^ (i + 1) = dg x i * 256 ^ i + x % 256 ^ i := by
  unfold dg
  have hp := p256 i
  have h1 := Int.mul_ediv_add_emod x (256 ^ i)
  have h2 := Int.mul_ediv_add_emod (x / 256 ^ i) 256
  have b := Int.emod_nonneg x (Int.ne_of_gt hp)
  have b' := Int.emod_lt_of_pos x hp
  have c := Int.emod_nonneg (x / 256 ^ i) (show (256 : Int) ≠ 0 by decide)
  have c' := Int.emod_lt_of_pos (x / 256 ^ i) (show (0 : Int) < 256 by decide)
  have e : x = (x / 256 ^ i % 256 * 256 ^ i + x % 256 ^ i) + (x / 256 ^ i / 256) * 256 ^ (i + 1) := by
    have : (x / 256 ^ i / 256) * (256 : Int) ^ (i + 1) = (256 * (x / 256 ^ i / 256)) * 256 ^ i := by rw [Int.pow_succ, Int.mul_comm ((256 : Int) ^ i) 256, ← Int.mul_assoc, Int.mul_comm _ 256]
    rw [this]
    have h3 : (256 * (x / 256 ^ i / 256)) * (256 : Int) ^ i + x / 256 ^ i % 256 * 256 ^ i = x / 256 ^ i * 256 ^ i := by rw [← Int.add_mul, h2]
    have h4 : x / 256 ^ i * (256 : Int) ^ i = 256 ^ i * (x / 256 ^ i) := Int.mul_comm _ _
    omega
  have l0 : 0 ≤ x / 256 ^ i % 256 * 256 ^ i + x % 256 ^ i := Int.add_nonneg (Int.mul_nonneg c (Int.le_of_lt hp)) b
  have l1 : x / 256 ^ i % 256 * 256 ^ i + x % 256 ^ i < 256 ^ (i + 1) := by
    have : x / 256 ^ i % 256 * (256 : Int) ^ i ≤ 255 * 256 ^ i := Int.mul_le_mul_of_nonneg_right (by omega) (Int.le_of_lt hp)
    rw [Int.pow_succ]
    omega
  have key : x % 256 ^ (i + 1) = (x / 256 ^ i % 256 * 256 ^ i + x % 256 ^ i) % 256 ^ (i + 1) := by
    have := congrArg (· % (256 : Int) ^ (i + 1)) e
    simpa [Int.add_mul_emod_self_right] using this
  rw [key, Int.emod_eq_of_lt l0 l1]
theorem carry_sum (x y : Int) (i : Nat) : (x % 256 ^ (i + 1) + y % 256 ^ (i + 1)) / 256 ^ i = carry x y i + dg x i + dg y i := by
  rw [emod_succ, emod_succ]
  unfold carry
  have e : dg x i * 256 ^ i + x % 256 ^ i + (dg y i * 256 ^ i + y % 256 ^ i) = (x % 256 ^ i + y % 256 ^ i) + (dg x i + dg y i) * 256 ^ i := by rw [Int.add_mul]; omega
  rw [e, Int.add_mul_ediv_right _ _ (Int.ne_of_gt (p256 i))]
  omega
theorem carry_succ (x y : Int) (i : Nat) : carry x y (i + 1) = (carry x y i + dg x i + dg y i) / 256 := by
  rw [← carry_sum]
  show (x % 256 ^ (i + 1) + y % 256 ^ (i + 1)) / 256 ^ (i + 1) = _
  have hp := p256 i
  rw [Int.pow_succ, Int.ediv_ediv, if_neg (by omega)]
  omega
theorem add_digit (x y : Int) (i : Nat) : (carry x y i + dg x i + dg y i) % 256 = dg (x + y) i := by
  unfold dg carry
  have hp := p256 i
  have h1 := Int.mul_ediv_add_emod x (256 ^ i)
  have h2 := Int.mul_ediv_add_emod y (256 ^ i)
  have e : x + y = (x % 256 ^ i + y % 256 ^ i) + (x / 256 ^ i + y / 256 ^ i) * 256 ^ i := by
    have a1 : x / 256 ^ i * (256 : Int) ^ i = 256 ^ i * (x / 256 ^ i) := Int.mul_comm _ _
    have a2 : y / 256 ^ i * (256 : Int) ^ i = 256 ^ i * (y / 256 ^ i) := Int.mul_comm _ _
    rw [Int.add_mul]; omega
  have e2 : (x + y) / 256 ^ i = (x % 256 ^ i + y % 256 ^ i) / 256 ^ i + (x / 256 ^ i + y / 256 ^ i) := by
    conv => lhs; rw [e]
    exact Int.add_mul_ediv_right _ _ (Int.ne_of_gt hp)
  rw [e2]
  omega
theorem carry_range (x y : Int) (i : Nat) : 0 ≤ carry x y i ∧ carry x y i ≤ 1 := by
  unfold carry
  have hp := p256 i
  have a := Int.emod_nonneg x (Int.ne_of_gt hp)
  have a' := Int.emod_lt_of_pos x hp
  have b := Int.emod_nonneg y (Int.ne_of_gt hp)
  have b' := Int.emod_lt_of_pos y hp
  refine ⟨Int.ediv_nonneg (by omega) (by omega), ?_⟩
  have : (x % 256 ^ i + y % 256 ^ i) / 256 ^ i < 2 := Int.ediv_lt_of_lt_mul hp (by omega)
  omega
end Go.Proofs.Ytnemailhijkemaa.lq

namespace Go.Proofs.Ytnemailhijkemaa.lq.q
open Go.RowKit

/-- Digit i of v, to the base 18446744073709551616 (of a number below nought: of v modulo as many digits as you like). -/
def dg (v : Int) (i : Nat) : Int := v / 18446744073709551616 ^ i % 18446744073709551616
theorem dg_range (v : Int) (i : Nat) : 0 ≤ dg v i ∧ dg v i < 18446744073709551616 := by unfold dg; omega
theorem p256 (i : Nat) : (0 : Int) < 18446744073709551616 ^ i := Int.pow_pos (by decide)
/-- n digits: at the places that p names those of u, at the others those of v. -/
def fill (n : Nat) (p : Nat → Bool) (u v : Int) : List Value := (List.range n).map fun j => .int .u64 (if p j then dg u j else dg v j)
def dcells (n : Nat) (v : Int) : List Value := (List.range n).map fun j => .int .u64 (dg v j)
def mix (n i : Nat) (u v : Int) : List Value := fill n (fun j => decide (j < i)) u v
theorem fill_length (n : Nat) (p : Nat → Bool) (u v : Int) : (fill n p u v).length = n := by simp [fill]
theorem mix_length (n i : Nat) (u v : Int) : (mix n i u v).length = n := fill_length _ _ _ _
theorem dcells_length (n : Nat) (v : Int) : (dcells n v).length = n := by simp [dcells]
theorem dcells_at (n : Nat) (v : Int) (i : Nat) (h : i < n) : (dcells n v)[i]? = some (.int .u64 (dg v i)) := by simp [dcells, h]
theorem fill_at (n : Nat) (p : Nat → Bool) (u v : Int) (i : Nat) (h : i < n) : (fill n p u v)[i]? = some (.int .u64 (if p i then dg u i else dg v i)) := by simp [fill, h]
theorem mix_at (n k : Nat) (u v : Int) (i : Nat) (h : i < n) (hk : k ≤ i) : (mix n k u v)[i]? = some (.int .u64 (dg v i)) := by
  rw [mix, fill_at _ _ _ _ _ h]; simp; omega
theorem fill_congr {n : Nat} {p q : Nat → Bool} {u v u' v' : Int} (h : ∀ j, j < n → (if p j then dg u j else dg v j) = (if q j then dg u' j else dg v' j)) : fill n p u v = fill n q u' v' := by
  unfold fill
  refine List.map_congr_left fun j hj => ?_
  rw [h j (by simpa using hj)]
theorem fill_set (n : Nat) (p : Nat → Bool) (u v : Int) (i : Nat) : (fill n p u v).set i (.int .u64 (dg u i)) = fill n (fun j => p j || j == i) u v := by
  refine List.ext_getElem? fun j => ?_
  rw [List.getElem?_set]
  by_cases e : i = j
  · subst e
    by_cases h : i < n
    · rw [if_pos rfl, if_pos (by rw [fill_length]; exact h), fill_at _ _ _ _ _ h]; simp
    · rw [if_pos rfl, if_neg (by rw [fill_length]; exact h), List.getElem?_eq_none (by rw [fill_length]; omega)]
  · by_cases h : j < n
    · rw [if_neg e, fill_at _ _ _ _ _ h, fill_at _ _ _ _ _ h]
      have e' : (j == i) = false := by simp; omega
      simp [e']
    · rw [if_neg e, List.getElem?_eq_none (by simp [fill_length]; omega), List.getElem?_eq_none (by simp [fill_length]; omega)]
theorem mix_set (n i : Nat) (u v : Int) : (mix n i u v).set i (.int .u64 (dg u i)) = mix n (i + 1) u v := by
  unfold mix
  rw [fill_set]
  refine fill_congr fun j _ => ?_
  have : (decide (j < i) || j == i) = decide (j < i + 1) := by rw [Bool.eq_iff_iff]; simp; omega
  rw [this]
theorem mix_zero (n : Nat) (u v : Int) : mix n 0 u v = dcells n v := by unfold mix fill dcells; simp
theorem mix_full (n : Nat) (u v : Int) : mix n n u v = dcells n u := by
  unfold mix fill dcells
  refine List.map_congr_left fun j hj => ?_
  have : j < n := by simpa using hj
  simp [this]
/-- The digits of two numbers that are the same modulo 18446744073709551616^i are the same below place i. -/
theorem dg_congr {u v : Int} {i j : Nat} (t : Int) (h : u = v + t * 18446744073709551616 ^ i) (hj : j < i) : dg u j = dg v j := by
  unfold dg
  obtain ⟨d, rfl⟩ : ∃ d, i = j + 1 + d := ⟨i - (j + 1), by omega⟩
  have e : t * (18446744073709551616 : Int) ^ (j + 1 + d) = (18446744073709551616 * (t * 18446744073709551616 ^ d)) * 18446744073709551616 ^ j := by
    rw [show j + 1 + d = d + 1 + j by omega, Int.pow_add, Int.pow_succ, ← Int.mul_assoc, ← Int.mul_assoc, Int.mul_comm (t * 18446744073709551616 ^ d) 18446744073709551616]
  rw [h, e, Int.add_mul_ediv_right _ _ (Int.ne_of_gt (p256 j))]
  omega
/-- The carry into place i when x and y are added. -/
def carry (x y : Int) (i : Nat) : Int := (x % 18446744073709551616 ^ i + y % 18446744073709551616 ^ i) / 18446744073709551616 ^ i
theorem carry_zero (x y : Int) : carry x y 0 = 0 := by simp [carry]
theorem emod_succ (x : Int) (i : Nat) : x % 18446744073709551616 ^ (i + 1) = dg x i * 18446744073709551616 ^ i + x % 18446744073709551616 ^ i := by
  unfold dg
  have hp := p256 i
  have h1 := Int.mul_ediv_add_emod x (18446744073709551616 ^ i)
  have h2 := Int.mul_ediv_add_emod (x / 18446744073709551616 ^ i) 18446744073709551616
  have b := Int.emod_nonneg x (Int.ne_of_gt hp)
  have b' := Int.emod_lt_of_pos x hp
  have c := Int.emod_nonneg (x / 18446744073709551616 ^ i) (show (18446744073709551616 : Int) ≠ 0 by decide)
  have c' := Int.emod_lt_of_pos (x / 18446744073709551616 ^ i) (show (0 : Int) < 18446744073709551616 by decide)
  have e : x = (x / 18446744073709551616 ^ i % 18446744073709551616 * 18446744073709551616 ^ i + x % 18446744073709551616 ^ i) + (x / 18446744073709551616 ^ i / 18446744073709551616) * 18446744073709551616 ^ (i + 1) := by
    have : (x / 18446744073709551616 ^ i / 18446744073709551616) * (18446744073709551616 : Int) ^ (i + 1) = (18446744073709551616 * (x / 18446744073709551616 ^ i / 18446744073709551616)) * 18446744073709551616 ^ i := by rw [Int.pow_succ, Int.mul_comm ((18446744073709551616 : Int) ^ i) 18446744073709551616, ← Int.mul_assoc, Int.mul_comm _ 18446744073709551616]
    rw [this]
    have h3 : (18446744073709551616 * (x / 18446744073709551616 ^ i / 18446744073709551616)) * (18446744073709551616 : Int) ^ i + x / 18446744073709551616 ^ i % 18446744073709551616 * 18446744073709551616 ^ i = x / 18446744073709551616 ^ i * 18446744073709551616 ^ i := by rw [← Int.add_mul, h2]
    have h4 : x / 18446744073709551616 ^ i * (18446744073709551616 : Int) ^ i = 18446744073709551616 ^ i * (x / 18446744073709551616 ^ i) := Int.mul_comm _ _
    omega
  have l0 : 0 ≤ x / 18446744073709551616 ^ i % 18446744073709551616 * 18446744073709551616 ^ i + x % 18446744073709551616 ^ i := Int.add_nonneg (Int.mul_nonneg c (Int.le_of_lt hp)) b
  have l1 : x / 18446744073709551616 ^ i % 18446744073709551616 * 18446744073709551616 ^ i + x % 18446744073709551616 ^ i < 18446744073709551616 ^ (i + 1) := by
    have : x / 18446744073709551616 ^ i % 18446744073709551616 * (18446744073709551616 : Int) ^ i ≤ 18446744073709551615 * 18446744073709551616 ^ i := Int.mul_le_mul_of_nonneg_right (by omega) (Int.le_of_lt hp)
    rw [Int.pow_succ]
    omega
  have key : x % 18446744073709551616 ^ (i + 1) = (x / 18446744073709551616 ^ i % 18446744073709551616 * 18446744073709551616 ^ i + x % 18446744073709551616 ^ i) % 18446744073709551616 ^ (i + 1) := by
    have := congrArg (· % (18446744073709551616 : Int) ^ (i + 1)) e
    simpa [Int.add_mul_emod_self_right] using this
  rw [key, Int.emod_eq_of_lt l0 l1]
theorem carry_sum (x y : Int) (i : Nat) : (x % 18446744073709551616 ^ (i + 1) + y % 18446744073709551616 ^ (i + 1)) / 18446744073709551616 ^ i = carry x y i + dg x i + dg y i := by
  rw [emod_succ, emod_succ]
  unfold carry
  have e : dg x i * 18446744073709551616 ^ i + x % 18446744073709551616 ^ i + (dg y i * 18446744073709551616 ^ i + y % 18446744073709551616 ^ i) = (x % 18446744073709551616 ^ i + y % 18446744073709551616 ^ i) + (dg x i + dg y i) * 18446744073709551616 ^ i := by rw [Int.add_mul]; omega
  rw [e, Int.add_mul_ediv_right _ _ (Int.ne_of_gt (p256 i))]
  omega
theorem carry_succ (x y : Int) (i : Nat) : carry x y (i + 1) = (carry x y i + dg x i + dg y i) / 18446744073709551616 := by
  rw [← carry_sum]
  show (x % 18446744073709551616 ^ (i + 1) + y % 18446744073709551616 ^ (i + 1)) / 18446744073709551616 ^ (i + 1) = _
  have hp := p256 i
  rw [Int.pow_succ, Int.ediv_ediv, if_neg (by omega)]
  omega
theorem add_digit (x y : Int) (i : Nat) : (carry x y i + dg x i + dg y i) % 18446744073709551616 = dg (x + y) i := by
  unfold dg carry
  have hp := p256 i
  have h1 := Int.mul_ediv_add_emod x (18446744073709551616 ^ i)
  have h2 := Int.mul_ediv_add_emod y (18446744073709551616 ^ i)
  have e : x + y = (x % 18446744073709551616 ^ i + y % 18446744073709551616 ^ i) + (x / 18446744073709551616 ^ i + y / 18446744073709551616 ^ i) * 18446744073709551616 ^ i := by
    have a1 : x / 18446744073709551616 ^ i * (18446744073709551616 : Int) ^ i = 18446744073709551616 ^ i * (x / 18446744073709551616 ^ i) := Int.mul_comm _ _
    have a2 : y / 18446744073709551616 ^ i * (18446744073709551616 : Int) ^ i = 18446744073709551616 ^ i * (y / 18446744073709551616 ^ i) := Int.mul_comm _ _
    rw [Int.add_mul]; omega
  have e2 : (x + y) / 18446744073709551616 ^ i = (x % 18446744073709551616 ^ i + y % 18446744073709551616 ^ i) / 18446744073709551616 ^ i + (x / 18446744073709551616 ^ i + y / 18446744073709551616 ^ i) := by
    conv => lhs; rw [e]
    exact Int.add_mul_ediv_right _ _ (Int.ne_of_gt hp)
  rw [e2]
  omega
theorem carry_range (x y : Int) (i : Nat) : 0 ≤ carry x y i ∧ carry x y i ≤ 1 := by
  unfold carry
  have hp := p256 i
  have a := Int.emod_nonneg x (Int.ne_of_gt hp)
  have a' := Int.emod_lt_of_pos x hp
  have b := Int.emod_nonneg y (Int.ne_of_gt hp)
  have b' := Int.emod_lt_of_pos y hp
  refine ⟨Int.ediv_nonneg (by omega) (by omega), ?_⟩
  have : (x % 18446744073709551616 ^ i + y % 18446744073709551616 ^ i) / 18446744073709551616 ^ i < 2 := Int.ediv_lt_of_lt_mul hp (by omega)
  omega
end Go.Proofs.Ytnemailhijkemaa.lq.q

namespace Go.Proofs.Ytnemailhijkemaa.lq.q
set_option linter.unusedVariables false

/-- What stands below place i + k, and over it, when k digits of y have been taken times digit i of x. -/
def tk (O xi y : Int) (i k : Nat) : Int := O % 18446744073709551616 ^ (i + k) + xi * 18446744073709551616 ^ i * (y % 18446744073709551616 ^ k)
def cy (O xi y : Int) (i k : Nat) : Int := tk O xi y i k / 18446744073709551616 ^ (i + k)
theorem pow_ik (i k : Nat) : (18446744073709551616 : Int) ^ (i + k) = 18446744073709551616 ^ i * 18446744073709551616 ^ k := Int.pow_add _ _ _
theorem tk_succ (O xi y : Int) (i k : Nat) : tk O xi y i (k + 1) = tk O xi y i k + (dg O (i + k) + xi * dg y k) * 18446744073709551616 ^ (i + k) := by
  unfold tk
  rw [← Nat.add_assoc, emod_succ, emod_succ, Int.add_mul, Int.mul_add, pow_ik]
  have e : xi * 18446744073709551616 ^ i * (dg y k * 18446744073709551616 ^ k) = xi * dg y k * (18446744073709551616 ^ i * 18446744073709551616 ^ k) := by
    rw [Int.mul_assoc xi, Int.mul_left_comm (18446744073709551616 ^ i) (dg y k), Int.mul_assoc xi (dg y k)]
  rw [e]; omega
theorem cy_sum (O xi y : Int) (i k : Nat) : tk O xi y i (k + 1) / 18446744073709551616 ^ (i + k) = cy O xi y i k + dg O (i + k) + xi * dg y k := by
  rw [tk_succ, Int.add_mul_ediv_right _ _ (Int.ne_of_gt (p256 _))]; unfold cy; omega
theorem cy_succ (O xi y : Int) (i k : Nat) : cy O xi y i (k + 1) = (cy O xi y i k + dg O (i + k) + xi * dg y k) / 18446744073709551616 := by
  rw [← cy_sum]
  show tk O xi y i (k + 1) / 18446744073709551616 ^ (i + k + 1) = _
  have hp := p256 (i + k)
  rw [Int.pow_succ, Int.ediv_ediv, if_neg (by omega)]; omega
theorem mul_digit (O xi y : Int) (i k : Nat) : (cy O xi y i k + dg O (i + k) + xi * dg y k) % 18446744073709551616 = dg (O + xi * 18446744073709551616 ^ i * y) (i + k) := by
  rw [← cy_sum]
  show dg (tk O xi y i (k + 1)) (i + k) = _
  refine (dg_congr (i := i + k + 1) (O / 18446744073709551616 ^ (i + k + 1) + xi * (y / 18446744073709551616 ^ (k + 1))) ?_ (by omega)).symm
  unfold tk
  have h1 := Int.mul_ediv_add_emod O (18446744073709551616 ^ (i + k + 1))
  have h2 := Int.mul_ediv_add_emod y (18446744073709551616 ^ (k + 1))
  have e0 : i + (k + 1) = i + k + 1 := by omega
  rw [e0, Int.add_mul]
  have e1 : O / 18446744073709551616 ^ (i + k + 1) * (18446744073709551616 : Int) ^ (i + k + 1) = 18446744073709551616 ^ (i + k + 1) * (O / 18446744073709551616 ^ (i + k + 1)) := Int.mul_comm _ _
  have e2 : xi * (y / 18446744073709551616 ^ (k + 1)) * (18446744073709551616 : Int) ^ (i + k + 1) = xi * 18446744073709551616 ^ i * (18446744073709551616 ^ (k + 1) * (y / 18446744073709551616 ^ (k + 1))) := by
    rw [← e0, pow_ik i (k + 1)]
    generalize (18446744073709551616 : Int) ^ (k + 1) = K
    rw [Int.mul_assoc xi, Int.mul_assoc xi, Int.mul_left_comm (y / K) (18446744073709551616 ^ i) K, Int.mul_comm (y / K) K]
  have e3 : xi * 18446744073709551616 ^ i * y = xi * 18446744073709551616 ^ i * (18446744073709551616 ^ (k + 1) * (y / 18446744073709551616 ^ (k + 1))) + xi * 18446744073709551616 ^ i * (y % 18446744073709551616 ^ (k + 1)) := by rw [← Int.mul_add, h2]
  rw [e1, e2, e3]; omega
theorem cy_zero (O xi y : Int) (i : Nat) : cy O xi y i 0 = 0 := by
  unfold cy tk
  have hp := p256 i
  have a := Int.emod_nonneg O (Int.ne_of_gt hp)
  have a' := Int.emod_lt_of_pos O hp
  have e : y % (18446744073709551616 : Int) ^ 0 = 0 := by simp [Int.emod_one]
  rw [e]
  simp only [Nat.add_zero, Int.mul_zero, Int.add_zero]
  exact Int.ediv_eq_zero_of_lt a a'
theorem cy_range (O xi y : Int) (i k : Nat) (h0 : 0 ≤ xi) (h1 : xi < 18446744073709551616) : 0 ≤ cy O xi y i k ∧ cy O xi y i k ≤ 18446744073709551615 := by
  unfold cy tk
  have hp := p256 (i + k)
  have hi := p256 i
  have hk := p256 k
  have a := Int.emod_nonneg O (Int.ne_of_gt hp)
  have a' := Int.emod_lt_of_pos O hp
  have b := Int.emod_nonneg y (Int.ne_of_gt hk)
  have b' := Int.emod_lt_of_pos y hk
  have c : 0 ≤ xi * 18446744073709551616 ^ i * (y % 18446744073709551616 ^ k) := Int.mul_nonneg (Int.mul_nonneg h0 (Int.le_of_lt hi)) b
  have c' : xi * 18446744073709551616 ^ i * (y % 18446744073709551616 ^ k) ≤ 18446744073709551615 * 18446744073709551616 ^ (i + k) := by
    rw [pow_ik, ← Int.mul_assoc]
    exact Int.mul_le_mul (Int.mul_le_mul_of_nonneg_right (by omega) (Int.le_of_lt hi)) (by omega) b (Int.mul_nonneg (by decide) (Int.le_of_lt hi))
  refine ⟨Int.ediv_nonneg (by omega) (by omega), ?_⟩
  have : (O % 18446744073709551616 ^ (i + k) + xi * 18446744073709551616 ^ i * (y % 18446744073709551616 ^ k)) / 18446744073709551616 ^ (i + k) < 18446744073709551616 := Int.ediv_lt_of_lt_mul hp (by omega)
  omega
theorem mul_next (x y : Int) (i : Nat) : x % 18446744073709551616 ^ i * y + dg x i * 18446744073709551616 ^ i * y = x % 18446744073709551616 ^ (i + 1) * y := by rw [emod_succ, Int.add_mul]; omega
theorem mix_start (n i : Nat) (O xi y : Int) : mix n i (O + xi * 18446744073709551616 ^ i * y) O = dcells n O := by
  rw [← mix_zero n O O]
  refine fill_congr fun j _ => ?_
  by_cases h : j < i
  · have e : dg (O + xi * 18446744073709551616 ^ i * y) j = dg O j := dg_congr (i := i) (xi * y) (by rw [Int.mul_assoc, Int.mul_comm (18446744073709551616 ^ i) y, ← Int.mul_assoc]) h
    simp [h, e]
  · simp [h]
end Go.Proofs.Ytnemailhijkemaa.lq.q

namespace Go.Proofs.Ytnemailhijkemaa.lq
open Go.RowKit

/-- The high word, with its sign, of a number taken modulo 2^128. -/
def hi (v : Int) : Int := (v / 18446744073709551616 + 9223372036854775808) % 18446744073709551616 - 9223372036854775808
/-- The low word, without a sign. -/
def lo (v : Int) : Int := v % 18446744073709551616

theorem lo_range (v : Int) : 0 ≤ lo v ∧ lo v < 18446744073709551616 := by unfold lo; omega
/-- The borrow, under a name. -/
def bor (x y : Int) : Int := if x < y then 1 else 0
theorem bor_range (x y : Int) : 0 ≤ bor x y ∧ bor x y ≤ 1 := by unfold bor; split <;> decide

theorem hi_0 : (0 : Int) = hi 0 := by decide
theorem lo_0 : (0 : Int) = lo 0 := by decide
theorem add_lo (a b : Int) : (lo a + lo b) % 18446744073709551616 = lo (a + b) := by unfold lo; omega
theorem add_hi (a b : Int) : wrap64 ((IntKind.u64.wrap (hi a) + IntKind.u64.wrap (hi b) + (lo a + lo b) / 18446744073709551616) % 18446744073709551616) = hi (a + b) := by
  rw [IntKind.wrap_u64, IntKind.wrap_u64]; unfold hi lo wrap64; omega
theorem sub_lo (a b : Int) : (lo a - lo b) % 18446744073709551616 = lo (a - b) := by unfold lo; omega
theorem sub_hi (a b : Int) : wrap64 ((IntKind.u64.wrap (hi a) - IntKind.u64.wrap (hi b) - bor (lo a) (lo b)) % 18446744073709551616) = hi (a - b) := by
  rw [IntKind.wrap_u64, IntKind.wrap_u64]; unfold bor wrap64; split <;> (simp only [hi, lo] at *; omega)
theorem mask32 (x : Int) (h0 : 0 ≤ x) (h1 : x < 18446744073709551616) : bits .and .u64 x 4294967295 = x % 4294967296 := by
  obtain ⟨n, rfl⟩ := Int.eq_ofNat_of_zero_le h0
  have h := bits_and_u64_nat n 4294967295 (by omega) (by omega)
  have e : n &&& 4294967295 = n % 4294967296 := Nat.and_two_pow_sub_one_eq_mod n 32
  rw [e] at h
  exact h.trans (by omega)
theorem half_mul (a b : Int) (a0 : 0 ≤ a) (a1 : a < 4294967296) (b0 : 0 ≤ b) (b1 : b < 4294967296) : 0 ≤ a * b ∧ a * b ≤ 18446744065119617025 := by
  refine ⟨Int.mul_nonneg a0 b0, ?_⟩
  have := Int.mul_le_mul (show a ≤ 4294967295 by omega) (show b ≤ 4294967295 by omega) b0 (by decide)
  omega
theorem school (a b c d : Int) : (a * 4294967296 + b) * (c * 4294967296 + d) = a * c * 18446744073709551616 + a * d * 4294967296 + b * c * 4294967296 + b * d := by
  have h1 : a * 4294967296 * (c * 4294967296) = a * c * (4294967296 * 4294967296) := by rw [Int.mul_assoc a, Int.mul_left_comm 4294967296 c, ← Int.mul_assoc]
  have h2 : a * 4294967296 * d = a * d * 4294967296 := by rw [Int.mul_assoc a, Int.mul_comm 4294967296 d, ← Int.mul_assoc]
  have h3 : b * (c * 4294967296) = b * c * 4294967296 := (Int.mul_assoc b c _).symm
  rw [Int.add_mul, Int.mul_add, Int.mul_add, h1, h2, h3]
  omega
theorem mul64_hi (x y : Int) (x0 : 0 ≤ x) (x1 : x < 18446744073709551616) (y0 : 0 ≤ y) (y1 : y < 18446744073709551616) :
    IntKind.u64.wrap (IntKind.u64.wrap (IntKind.u64.wrap (x / 4294967296 * (y / 4294967296)) + IntKind.u64.wrap (IntKind.u64.wrap (x / 4294967296 * bits .and .u64 y 4294967295) + IntKind.u64.wrap (bits .and .u64 x 4294967295 * bits .and .u64 y 4294967295) / 4294967296) / 4294967296) +
      IntKind.u64.wrap (bits .and .u64 (IntKind.u64.wrap (IntKind.u64.wrap (x / 4294967296 * bits .and .u64 y 4294967295) + IntKind.u64.wrap (bits .and .u64 x 4294967295 * bits .and .u64 y 4294967295) / 4294967296)) 4294967295 + IntKind.u64.wrap (bits .and .u64 x 4294967295 * (y / 4294967296))) / 4294967296) = x * y / 18446744073709551616 := by
  rw [mask32 x x0 x1, mask32 y y0 y1, mask32 (IntKind.u64.wrap _) (wrap_u64_nonneg _) (by rw [IntKind.wrap_u64]; omega)]
  have e := school (x / 4294967296) (x % 4294967296) (y / 4294967296) (y % 4294967296)
  have ex : x / 4294967296 * 4294967296 + x % 4294967296 = x := by omega
  have ey : y / 4294967296 * 4294967296 + y % 4294967296 = y := by omega
  rw [ex, ey] at e
  rw [e]
  have b1 := half_mul (x / 4294967296) (y / 4294967296) (by omega) (by omega) (by omega) (by omega)
  have b2 := half_mul (x / 4294967296) (y % 4294967296) (by omega) (by omega) (by omega) (by omega)
  have b3 := half_mul (x % 4294967296) (y / 4294967296) (by omega) (by omega) (by omega) (by omega)
  have b4 := half_mul (x % 4294967296) (y % 4294967296) (by omega) (by omega) (by omega) (by omega)
  clear e ex ey
  generalize x / 4294967296 * (y / 4294967296) = p1 at *
  generalize x / 4294967296 * (y % 4294967296) = p2 at *
  generalize x % 4294967296 * (y / 4294967296) = p3 at *
  generalize x % 4294967296 * (y % 4294967296) = p4 at *
  simp only [IntKind.wrap_u64]
  omega

/-- What is left of a product of two words that were taken without their signs. -/
theorem mul_lo (a b : Int) : IntKind.u64.wrap a * IntKind.u64.wrap b % 18446744073709551616 = lo (a * b) := by
  rw [IntKind.wrap_u64, IntKind.wrap_u64]; unfold lo; exact (Int.mul_emod a b _).symm
theorem ret_tup2 {k l : IntKind} {a b c d : Int} (h : a = c) (h' : b = d) : Ending.returned (.tuple #[.int k a, .int l b]) = .returned (.tuple #[.int k c, .int l d]) := by rw [h, h']
theorem ret_int {k : IntKind} {a b : Int} (h : a = b) : Ending.returned (.int k a) = .returned (.int k b) := by rw [h]

theorem bd_i64 {x : Int} (h : (Lit.int .i64 x).wf = true) : -9223372036854775808 ≤ x ∧ x ≤ 9223372036854775807 := by
  simp [Lit.wf, IntKind.min, IntKind.max, IntKind.signed, IntKind.bits] at h
  exact ⟨by omega, by omega⟩
/-- -1, 0, 1: how two numbers lie. -/
def cmpI (x y : Int) : Int := if x < y then -1 else if y < x then 1 else 0
end Go.Proofs.Ytnemailhijkemaa.lq

namespace Go.Proofs.Ytnemailhijkemaa.lq
open Go.RowKit
set_option linter.unusedVariables false

/-- The four words of a number, modulo 2^256. -/
def Wd (a a0 a1 a2 a3 : Int) : Prop := a0 = q.dg a 0 ∧ a1 = q.dg a 1 ∧ a2 = q.dg a 2 ∧ a3 = q.dg a 3
theorem wd_self (a : Int) : Wd a (q.dg a 0) (q.dg a 1) (q.dg a 2) (q.dg a 3) := ⟨rfl, rfl, rfl, rfl⟩
theorem qdg_0 (j : Nat) : q.dg 0 j = 0 := by simp [q.dg]
theorem qcells (a : Int) : q.dcells 4 a = [.int .u64 (q.dg a 0), .int .u64 (q.dg a 1), .int .u64 (q.dg a 2), .int .u64 (q.dg a 3)] := by simp [q.dcells, List.range, List.range.loop]
theorem qcells_0 : q.dcells 4 0 = [.int .u64 0, .int .u64 0, .int .u64 0, .int .u64 0] := by rw [qcells]; simp [qdg_0]
/-- A row of four. -/
theorem row4 {w : World} {b : Nat} {v0 v1 v2 v3 : Value} (h : Row w b [v0, v1, v2, v3]) : w.cell? ⟨b, 0, none⟩ = some v0 ∧ w.cell? ⟨b, 1, none⟩ = some v1 ∧ w.cell? ⟨b, 2, none⟩ = some v2 ∧ w.cell? ⟨b, 3, none⟩ = some v3 ∧
    w.frozen? ⟨b, 0, none⟩ = false ∧ w.frozen? ⟨b, 1, none⟩ = false ∧ w.frozen? ⟨b, 2, none⟩ = false ∧ w.frozen? ⟨b, 3, none⟩ = false :=
  ⟨h.cell 0 _ rfl, h.cell 1 _ rfl, h.cell 2 _ rfl, h.cell 3 _ rfl, h.free 0 (by simp), h.free 1 (by simp), h.free 2 (by simp), h.free 3 (by simp)⟩
theorem _root_.Go.Proofs.Ytnemailhijkemaa.Row.cells {w : World} {b : Nat} {xs ys : List Value} (h : Row w b xs) (e : xs = ys) : Row w b ys := e ▸ h
/-- The borrow out of the places below i when y is taken off x. -/
def bw (x y : Int) (i : Nat) : Int := -((x % 18446744073709551616 ^ i - y % 18446744073709551616 ^ i) / 18446744073709551616 ^ i)
theorem bw_zero (x y : Int) : bw x y 0 = 0 := by simp [bw, Int.emod_one]
theorem bw_sum (x y : Int) (i : Nat) : (x % 18446744073709551616 ^ (i + 1) - y % 18446744073709551616 ^ (i + 1)) / 18446744073709551616 ^ i = q.dg x i - q.dg y i - bw x y i := by
  rw [q.emod_succ, q.emod_succ]
  unfold bw
  have e : q.dg x i * 18446744073709551616 ^ i + x % 18446744073709551616 ^ i - (q.dg y i * 18446744073709551616 ^ i + y % 18446744073709551616 ^ i) = (x % 18446744073709551616 ^ i - y % 18446744073709551616 ^ i) + (q.dg x i - q.dg y i) * 18446744073709551616 ^ i := by rw [Int.sub_mul]; omega
  rw [e, Int.add_mul_ediv_right _ _ (Int.ne_of_gt (q.p256 i))]
  omega
theorem bw_range (x y : Int) (i : Nat) : 0 ≤ bw x y i ∧ bw x y i ≤ 1 := by
  unfold bw
  have hp := q.p256 i
  have a := Int.emod_nonneg x (Int.ne_of_gt hp)
  have a' := Int.emod_lt_of_pos x hp
  have b := Int.emod_nonneg y (Int.ne_of_gt hp)
  have b' := Int.emod_lt_of_pos y hp
  have h1 : (x % 18446744073709551616 ^ i - y % 18446744073709551616 ^ i) / 18446744073709551616 ^ i < 1 := Int.ediv_lt_of_lt_mul hp (by omega)
  have h2 : -1 ≤ (x % 18446744073709551616 ^ i - y % 18446744073709551616 ^ i) / 18446744073709551616 ^ i := Int.le_ediv_of_mul_le hp (by omega)
  omega
theorem bw_succ (x y : Int) (i : Nat) : bor (q.dg x i) (q.dg y i + bw x y i) = bw x y (i + 1) := by
  have e : bw x y (i + 1) = -((q.dg x i - q.dg y i - bw x y i) / 18446744073709551616) := by
    rw [← bw_sum]
    show -((x % 18446744073709551616 ^ (i + 1) - y % 18446744073709551616 ^ (i + 1)) / 18446744073709551616 ^ (i + 1)) = _
    have hp := q.p256 i
    rw [Int.pow_succ, Int.ediv_ediv, if_neg (by omega)]
    omega
  rw [e]
  have h := bw_range x y i
  have a := q.dg_range x i
  have b := q.dg_range y i
  unfold bor
  split <;> omega
theorem sub_digit (x y : Int) (i : Nat) : (q.dg x i - q.dg y i - bw x y i) % 18446744073709551616 = q.dg (x - y) i := by
  unfold q.dg bw
  have hp := q.p256 i
  have h1 := Int.mul_ediv_add_emod x (18446744073709551616 ^ i)
  have h2 := Int.mul_ediv_add_emod y (18446744073709551616 ^ i)
  have e : x - y = (x % 18446744073709551616 ^ i - y % 18446744073709551616 ^ i) + (x / 18446744073709551616 ^ i - y / 18446744073709551616 ^ i) * 18446744073709551616 ^ i := by
    have a1 : x / 18446744073709551616 ^ i * (18446744073709551616 : Int) ^ i = 18446744073709551616 ^ i * (x / 18446744073709551616 ^ i) := Int.mul_comm _ _
    have a2 : y / 18446744073709551616 ^ i * (18446744073709551616 : Int) ^ i = 18446744073709551616 ^ i * (y / 18446744073709551616 ^ i) := Int.mul_comm _ _
    rw [Int.sub_mul]; omega
  have e2 : (x - y) / 18446744073709551616 ^ i = (x % 18446744073709551616 ^ i - y % 18446744073709551616 ^ i) / 18446744073709551616 ^ i + (x / 18446744073709551616 ^ i - y / 18446744073709551616 ^ i) := by
    conv => lhs; rw [e]
    exact Int.add_mul_ediv_right _ _ (Int.ne_of_gt hp)
  rw [e2]
  omega
end Go.Proofs.Ytnemailhijkemaa.lq

namespace Go.Proofs.Ytnemailhijkemaa.lq
open Go.RowKit
set_option linter.unusedVariables false

theorem add64 (x y c : Int) (hx : 0 ≤ x) (hy : 0 ≤ y) (hc0 : 0 ≤ c) (hc : c ≤ 1) (w : World) : (callFunc 54 #[.int .u64 x, .int .u64 y, .int .u64 c]).run Try.prog w =
    .ok (.value (.tuple #[.int .u64 ((x + y + c) % 18446744073709551616), .int .u64 ((x + y + c) / 18446744073709551616)])) w := by
  rw [run_callFunc_extern Try.func54 (by kernel_rfl) (by kernel_rfl) (by kernel_rfl) (e := add64Entry) (by kernel_rfl), run_add64 x y c hx hy hc0 hc]
  rfl
theorem add64_0 (x y : Int) (hx : 0 ≤ x) (hy : 0 ≤ y) (w : World) : (callFunc 54 #[.int .u64 x, .int .u64 y, .int .u64 0]).run Try.prog w =
    .ok (.value (.tuple #[.int .u64 ((x + y) % 18446744073709551616), .int .u64 ((x + y) / 18446744073709551616)])) w := by
  simpa using add64 x y 0 hx hy (Int.le_refl 0) (by decide) w
theorem sub64 (x y b : Int) (hx : 0 ≤ x) (hy : 0 ≤ y) (hy' : y < 18446744073709551616) (hb0 : 0 ≤ b) (hb : b ≤ 1) (w : World) : (callFunc 66 #[.int .u64 x, .int .u64 y, .int .u64 b]).run Try.prog w =
    .ok (.value (.tuple #[.int .u64 ((x - y - b) % 18446744073709551616), .int .u64 (bor x (y + b))])) w := by
  obtain ⟨x, rfl⟩ := Int.eq_ofNat_of_zero_le hx
  obtain ⟨y, rfl⟩ := Int.eq_ofNat_of_zero_le hy
  obtain ⟨b, rfl⟩ := Int.eq_ofNat_of_zero_le hb0
  have e1 : (((x + 18446744073709551616 - y - b) % 18446744073709551616 : Nat) : Int) = ((x : Int) - y - b) % 18446744073709551616 := by omega
  have e2 : ((if x < y + b then 1 else 0 : Nat) : Int) = bor x (y + b) := by unfold bor; split <;> split <;> omega
  rw [← e1, ← e2, run_callFunc_extern Try.func66 (by kernel_rfl) (by kernel_rfl) (by kernel_rfl) (e := sub64Entry) (by kernel_rfl), run_sub64 x y b (by omega)]
  rfl

theorem keep_other {w : World} {b c i k : Nat} {u v : Value} (h : w.cell? ⟨b, k, none⟩ = some u) (hne : c ≠ b) : ((w.setCell ⟨c, i, none⟩ v).drew).cell? ⟨b, k, none⟩ = some u :=
  (World.cell?_setCell_other _ _ _ _ (by intro q; simp only [Addr.mk.injEq] at q; omega)).trans h

/-- What holds at the head of each round of the sum's loop: both arguments, the answer's place, the sum so far. -/
structure AddRel (w : World) (x y z : Int) (k : Nat) (wr : World) : Prop where
  ra : Row wr w.heap.size (q.dcells 4 x)
  rb : Row wr (w.heap.size + 1) (q.dcells 4 y)
  rz : Row wr (w.heap.size + 1 + 1) (q.dcells 4 0)
  rs : Row wr (w.heap.size + 1 + 1 + 1) (q.mix 4 k z 0)
  bel : Below w.heap.size w wr
  size : w.heap.size + 1 + 1 + 1 < wr.heap.size
theorem addRel_start (w : World) (x y z : Int) (t : TypeId) : AddRel w x y z 0 ((((w.alloc (.cells #[.int .u64 (q.dg x 0), .int .u64 (q.dg x 1), .int .u64 (q.dg x 2), .int .u64 (q.dg x 3)] t)).alloc (.cells #[.int .u64 (q.dg y 0), .int .u64 (q.dg y 1), .int .u64 (q.dg y 2), .int .u64 (q.dg y 3)] t)).alloc
    (.cells #[.int .u64 0, .int .u64 0, .int .u64 0, .int .u64 0] t)).alloc (.cells #[.int .u64 0, .int .u64 0, .int .u64 0, .int .u64 0] t)) := by
  have h0 := (((Row.new w (q.dcells 4 x) t).alloc (.cells (q.dcells 4 y).toArray t) (by simp <;> omega)).alloc (.cells (q.dcells 4 0).toArray t) (by simp <;> omega)).alloc (.cells (q.dcells 4 0).toArray t) (by simp <;> omega)
  have h1 := ((Row.new (w.alloc (.cells (q.dcells 4 x).toArray t)) (q.dcells 4 y) t).alloc (.cells (q.dcells 4 0).toArray t) (by simp <;> omega)).alloc (.cells (q.dcells 4 0).toArray t) (by simp <;> omega)
  have h2 := (Row.new ((w.alloc (.cells (q.dcells 4 x).toArray t)).alloc (.cells (q.dcells 4 y).toArray t)) (q.dcells 4 0) t).alloc (.cells (q.dcells 4 0).toArray t) (by simp <;> omega)
  have h3 := Row.new (((w.alloc (.cells (q.dcells 4 x).toArray t)).alloc (.cells (q.dcells 4 y).toArray t)).alloc (.cells (q.dcells 4 0).toArray t)) (q.dcells 4 0) t
  simp only [World.size_alloc] at h1 h2 h3
  rw [qcells_0, qcells x, qcells y] at h0 h1 h2 h3
  refine ⟨by rw [qcells]; exact h0, by rw [qcells]; exact h1, by rw [qcells_0]; exact h2, by rw [q.mix_zero, qcells_0]; exact h3, ?_, by simp⟩
  exact ((((Below.refl _ _).alloc (Nat.le_refl _) _).alloc (by simp <;> omega) _).alloc (by simp <;> omega) _).alloc (by simp <;> omega) _
theorem addRel_next {w wr : World} {x y z d : Int} {k : Nat} (h : AddRel w x y z k wr) (hk : k < 4) (e : d = q.dg z k) :
    AddRel w x y z (k + 1) ((wr.setCell ⟨w.heap.size + 1 + 1 + 1, k, none⟩ (.int .u64 d)).drew) := by
  refine ⟨(h.ra.other _ (by omega)).drew, (h.rb.other _ (by omega)).drew, (h.rz.other _ (by omega)).drew, ?_, (h.bel.setCell (by show _ ≤ w.heap.size + 1 + 1 + 1; omega) _).drew, by simpa using h.size⟩
  rw [e, ← q.mix_set]
  exact (h.rs.set k _ (by rw [q.mix_length]; exact hk)).drew

set_option maxHeartbeats 1000000 in
theorem qadd_any {a0 a1 a2 a3 b0 b1 b2 b3 : Int} (a b : Int) (ha : Wd a a0 a1 a2 a3) (hb : Wd b b0 b1 b2 b3) (w : World) :
    Calls Try.prog 35 #[.agg #[.int .u64 a0, .int .u64 a1, .int .u64 a2, .int .u64 a3], .agg #[.int .u64 b0, .int .u64 b1, .int .u64 b2, .int .u64 b3]] w fun e w' =>
      e = .returned (.agg #[.int .u64 (q.dg (a + b) 0), .int .u64 (q.dg (a + b) 1), .int .u64 (q.dg (a + b) 2), .int .u64 (q.dg (a + b) 3)]) ∧ Below w.heap.size w w' := by
  obtain ⟨rfl, rfl, rfl, rfl⟩ := ha
  obtain ⟨rfl, rfl, rfl, rfl⟩ := hb
  go_enter Try.func35, Try.ntmps35
  go_wp2
  go_loopw [6, 8] (fun c i wr => ∃ k : Nat, k ≤ 4 ∧ i = .int .i64 (k : Int) ∧ c = .int .u64 (q.carry a b k) ∧ AddRel w a b (a + b) k wr) (fun _ i _ => 4 - (intOf i).toNat)
  case atStart => exact ⟨0, by omega, rfl, by rw [q.carry_zero], addRel_start w a b _ _⟩
  case round =>
    obtain ⟨k, hk, rfl, rfl, hr⟩ := hrel
    by_cases hlt : k < 4
    · have c1 : wr.cell? ⟨w.heap.size, k, none⟩ = some (.int .u64 (q.dg a k)) := hr.ra.cell k _ (q.dcells_at _ _ _ hlt)
      have c2 : wr.cell? ⟨w.heap.size + 1, k, none⟩ = some (.int .u64 (q.dg b k)) := hr.rb.cell k _ (q.dcells_at _ _ _ hlt)
      have c3 : wr.cell? ⟨w.heap.size + 1 + 1 + 1, k, none⟩ = some (.int .u64 (q.dg 0 k)) := hr.rs.cell k _ (q.mix_at _ _ _ _ _ hlt (Nat.le_refl _))
      have c4 : wr.frozen? ⟨w.heap.size + 1 + 1 + 1, k, none⟩ = false := hr.rs.free k (by rw [q.mix_length]; exact hlt)
      have hl : (k : Int) < 4 := by omega
      obtain ⟨d0, d1⟩ := q.dg_range a k
      obtain ⟨e0, e1⟩ := q.dg_range b k
      obtain ⟨f0, f1⟩ := q.carry_range a b k
      have hn := fun d e => addRel_next (d := d) hr hlt e
      go_wp2
      go_region_held3 (fun w' => w'.cell? ⟨w.heap.size, k, none⟩ = some (.int .u64 (q.dg a k)) ∧ w'.cell? ⟨w.heap.size + 1, k, none⟩ = some (.int .u64 (q.dg b k))) (first | exact ⟨c1, c2⟩ | exact ⟨keep_other c1 (by omega), keep_other c2 (by omega)⟩)
        (simp only [add64 _ _ _ d0 e0 f0 f1])
      go_wp2
      go_roundw
      case rel => exact ⟨k + 1, by omega, by simp, by rw [q.carry_succ, Int.add_comm (q.dg a k + q.dg b k), ← Int.add_assoc], hn _ (by rw [← q.add_digit]; congr 1; omega)⟩
      case measure => simp [intOf]; omega
    · obtain rfl : k = 4 := by omega
      obtain ⟨ra, rb, rz, rs, bel, size⟩ := hr
      rw [q.mix_full, qcells] at rs
      rw [qcells_0] at rz
      obtain ⟨c0, c1, c2, c3, _, _, _, _⟩ := row4 rs
      obtain ⟨z0, z1, z2, z3, y0, y1, y2, y3⟩ := row4 rz
      clear ra rb rs rz
      go_wp2
      refine bodyPost_ret (v := .agg #[.int .u64 (q.dg (a + b) 0), .int .u64 (q.dg (a + b) 1), .int .u64 (q.dg (a + b) 2), .int .u64 (q.dg (a + b) 3)]) (by simp [results, Try.results35, go_sem, *]) rfl ⟨rfl, ?_⟩
      exact (((bel.setCell (by show _ ≤ w.heap.size + 1 + 1; omega) _).setCell (by show _ ≤ w.heap.size + 1 + 1; omega) _).setCell (by show _ ≤ w.heap.size + 1 + 1; omega) _).setCell (by show _ ≤ w.heap.size + 1 + 1; omega) _

set_option maxHeartbeats 1000000 in
theorem qsub_any {a0 a1 a2 a3 b0 b1 b2 b3 : Int} (a b : Int) (ha : Wd a a0 a1 a2 a3) (hb : Wd b b0 b1 b2 b3) (w : World) :
    Calls Try.prog 49 #[.agg #[.int .u64 a0, .int .u64 a1, .int .u64 a2, .int .u64 a3], .agg #[.int .u64 b0, .int .u64 b1, .int .u64 b2, .int .u64 b3]] w fun e w' =>
      e = .returned (.agg #[.int .u64 (q.dg (a - b) 0), .int .u64 (q.dg (a - b) 1), .int .u64 (q.dg (a - b) 2), .int .u64 (q.dg (a - b) 3)]) ∧ Below w.heap.size w w' := by
  obtain ⟨rfl, rfl, rfl, rfl⟩ := ha
  obtain ⟨rfl, rfl, rfl, rfl⟩ := hb
  go_enter Try.func49, Try.ntmps49
  go_wp2
  go_loopw [6, 8] (fun c i wr => ∃ k : Nat, k ≤ 4 ∧ i = .int .i64 (k : Int) ∧ c = .int .u64 (bw a b k) ∧ AddRel w a b (a - b) k wr) (fun _ i _ => 4 - (intOf i).toNat)
  case atStart => exact ⟨0, by omega, rfl, by rw [bw_zero], addRel_start w a b _ _⟩
  case round =>
    obtain ⟨k, hk, rfl, rfl, hr⟩ := hrel
    by_cases hlt : k < 4
    · have c1 : wr.cell? ⟨w.heap.size, k, none⟩ = some (.int .u64 (q.dg a k)) := hr.ra.cell k _ (q.dcells_at _ _ _ hlt)
      have c2 : wr.cell? ⟨w.heap.size + 1, k, none⟩ = some (.int .u64 (q.dg b k)) := hr.rb.cell k _ (q.dcells_at _ _ _ hlt)
      have c3 : wr.cell? ⟨w.heap.size + 1 + 1 + 1, k, none⟩ = some (.int .u64 (q.dg 0 k)) := hr.rs.cell k _ (q.mix_at _ _ _ _ _ hlt (Nat.le_refl _))
      have c4 : wr.frozen? ⟨w.heap.size + 1 + 1 + 1, k, none⟩ = false := hr.rs.free k (by rw [q.mix_length]; exact hlt)
      have hl : (k : Int) < 4 := by omega
      obtain ⟨d0, d1⟩ := q.dg_range a k
      obtain ⟨e0, e1⟩ := q.dg_range b k
      obtain ⟨f0, f1⟩ := bw_range a b k
      have hn := fun d e => addRel_next (d := d) hr hlt e
      go_wp2
      go_region_held3 (fun w' => w'.cell? ⟨w.heap.size, k, none⟩ = some (.int .u64 (q.dg a k)) ∧ w'.cell? ⟨w.heap.size + 1, k, none⟩ = some (.int .u64 (q.dg b k))) (first | exact ⟨c1, c2⟩ | exact ⟨keep_other c1 (by omega), keep_other c2 (by omega)⟩)
        (simp only [sub64 _ _ _ d0 e0 e1 f0 f1])
      go_wp2
      go_roundw
      case rel => exact ⟨k + 1, by omega, by simp, by rw [bw_succ], hn _ (sub_digit _ _ _)⟩
      case measure => simp [intOf]; omega
    · obtain rfl : k = 4 := by omega
      obtain ⟨ra, rb, rz, rs, bel, size⟩ := hr
      rw [q.mix_full, qcells] at rs
      rw [qcells_0] at rz
      obtain ⟨c0, c1, c2, c3, _, _, _, _⟩ := row4 rs
      obtain ⟨z0, z1, z2, z3, y0, y1, y2, y3⟩ := row4 rz
      clear ra rb rs rz
      go_wp2
      refine bodyPost_ret (v := .agg #[.int .u64 (q.dg (a - b) 0), .int .u64 (q.dg (a - b) 1), .int .u64 (q.dg (a - b) 2), .int .u64 (q.dg (a - b) 3)]) (by simp [results, Try.results49, go_sem, *]) rfl ⟨rfl, ?_⟩
      exact (((bel.setCell (by show _ ≤ w.heap.size + 1 + 1; omega) _).setCell (by show _ ≤ w.heap.size + 1 + 1; omega) _).setCell (by show _ ≤ w.heap.size + 1 + 1; omega) _).setCell (by show _ ≤ w.heap.size + 1 + 1; omega) _

end Go.Proofs.Ytnemailhijkemaa.lq

namespace Go.Proofs.Ytnemailhijkemaa.lq
open Go.RowKit
set_option linter.unusedVariables false

theorem pw1 : (18446744073709551616 : Int) ^ 1 = 18446744073709551616 := rfl
theorem pw2 : (18446744073709551616 : Int) ^ 2 = 340282366920938463463374607431768211456 := rfl
theorem pw3 : (18446744073709551616 : Int) ^ 3 = 6277101735386680763835789423207666416102355444464034512896 := rfl
theorem qdg0 (a : Int) : q.dg a 0 = a % 18446744073709551616 := by simp [q.dg]
theorem qdg1 (a : Int) : q.dg a 1 = a / 18446744073709551616 % 18446744073709551616 := by unfold q.dg; rw [pw1]
theorem qdg2 (a : Int) : q.dg a 2 = a / 340282366920938463463374607431768211456 % 18446744073709551616 := by unfold q.dg; rw [pw2]
theorem qdg3 (a : Int) : q.dg a 3 = a / 6277101735386680763835789423207666416102355444464034512896 % 18446744073709551616 := by unfold q.dg; rw [pw3]
theorem hi_q (a : Int) : IntKind.u64.wrap (hi a) = q.dg a 1 := by rw [qdg1, IntKind.wrap_u64]; unfold hi; omega
theorem ret_quad {a0 a1 a2 a3 b0 b1 b2 b3 : Int} (h0 : a0 = b0) (h1 : a1 = b1) (h2 : a2 = b2) (h3 : a3 = b3) : Value.agg #[.int .u64 a0, .int .u64 a1, .int .u64 a2, .int .u64 a3] = .agg #[.int .u64 b0, .int .u64 b1, .int .u64 b2, .int .u64 b3] := by rw [h0, h1, h2, h3]

theorem up_q0 (a : Int) : (0 : Int) = q.dg (a * 340282366920938463463374607431768211456) 0 := by rw [qdg0]; omega
theorem up_q1 (a : Int) : (0 : Int) = q.dg (a * 340282366920938463463374607431768211456) 1 := by rw [qdg1]; omega
theorem up_q2 (a : Int) : lo a = q.dg (a * 340282366920938463463374607431768211456) 2 := by rw [qdg2]; unfold lo; omega
theorem up_q3 (a : Int) : IntKind.u64.wrap (hi a) = q.dg (a * 340282366920938463463374607431768211456) 3 := by rw [qdg3, IntKind.wrap_u64]; unfold hi; omega
theorem upper_any {ah al : Int} (a : Int) (ha : ah = hi a) (hl : al = lo a) (w : World) :
    Calls Try.prog 50 #[.agg #[.int .i64 ah, .int .u64 al]] w fun e w' => e = .returned (.agg #[.int .u64 (q.dg (a * 340282366920938463463374607431768211456) 0), .int .u64 (q.dg (a * 340282366920938463463374607431768211456) 1), .int .u64 (q.dg (a * 340282366920938463463374607431768211456) 2), .int .u64 (q.dg (a * 340282366920938463463374607431768211456) 3)]) ∧ Below w.heap.size w w' := by
  subst ha hl
  have R := ret_quad (up_q0 a) (up_q1 a) (up_q2 a) (up_q3 a)
  rw [← R]
  clear R
  go_enter Try.func50, Try.ntmps50
  go_wp2
  refine bodyPost_ret (v := .agg #[.int .u64 0, .int .u64 0, .int .u64 (lo a), .int .u64 (IntKind.u64.wrap (hi a))]) (by simp [results, Try.results50, go_sem]) rfl ⟨rfl, ?_⟩
  exact ((Below.refl _ _).alloc (Nat.le_refl _) _).alloc (by simp) _

theorem mul64_any (x y : Int) (x0 : 0 ≤ x) (x1 : x < 18446744073709551616) (y0 : 0 ≤ y) (y1 : y < 18446744073709551616) (w : World) :
    Calls Try.prog 67 #[.int .u64 x, .int .u64 y] w fun e w' => e = .returned (.tuple #[.int .u64 (x * y / 18446744073709551616), .int .u64 (x * y % 18446744073709551616)]) ∧ w' = w := by
  go_enter Try.func67, Try.ntmps67
  go_wp2
  go_ret2
  exact ⟨ret_tup2 (mul64_hi x y x0 x1 y0 y1) (IntKind.wrap_u64 _), rfl⟩
theorem prod_range (x y : Int) (x0 : 0 ≤ x) (x1 : x < 18446744073709551616) (y0 : 0 ≤ y) (y1 : y < 18446744073709551616) : 0 ≤ x * y ∧ x * y ≤ 340282366920938463426481119284349108225 := by
  refine ⟨Int.mul_nonneg x0 y0, ?_⟩
  have := Int.mul_le_mul (show x ≤ 18446744073709551615 by omega) (show y ≤ 18446744073709551615 by omega) y0 (by decide)
  omega
theorem mulAdd_hi (p m c : Int) (p0 : 0 ≤ p) (p1 : p ≤ 340282366920938463426481119284349108225) (m0 : 0 ≤ m) (m1 : m < 18446744073709551616) (c0 : 0 ≤ c) (c1 : c < 18446744073709551616) :
    (p / 18446744073709551616 + (p % 18446744073709551616 + m) / 18446744073709551616 + ((p + m) % 18446744073709551616 + c) / 18446744073709551616) = (p + m + c) / 18446744073709551616 := by omega
set_option maxHeartbeats 1000000 in
theorem mulAdd_any (x y m c : Int) (x0 : 0 ≤ x) (x1 : x < 18446744073709551616) (y0 : 0 ≤ y) (y1 : y < 18446744073709551616) (m0 : 0 ≤ m) (m1 : m < 18446744073709551616) (c0 : 0 ≤ c) (c1 : c < 18446744073709551616) (w : World) :
    Calls Try.prog 65 #[.int .u64 x, .int .u64 y, .int .u64 m, .int .u64 c] w fun e w' => e = .returned (.tuple #[.int .u64 ((x * y + m + c) / 18446744073709551616), .int .u64 ((x * y + m + c) % 18446744073709551616)]) ∧ w' = w := by
  obtain ⟨p0, p1⟩ := prod_range x y x0 x1 y0 y1
  have E : Hid _ := mulAdd_hi (x * y) m c p0 p1 m0 m1 c0 c1
  have k0 : 0 ≤ x * y % 18446744073709551616 := by omega
  have k1 : 0 ≤ (x * y + m) % 18446744073709551616 := by omega
  go_enter Try.func65, Try.ntmps65
  go_wp2_with (first
    | (go_at_call 67; refine (mul64_any x y x0 x1 y0 y1 _).mono ?_; rintro e w' ⟨rfl, hw⟩; have hw := hw.symm; subst hw)
    | simp only [add64_0 _ _ k0 m0] | simp only [add64_0 _ _ k1 c0])
  go_ret2
  exact ⟨ret_tup2 E.out rfl, rfl⟩

theorem qdg_high {v : Int} {n j : Nat} (h0 : 0 ≤ v) (h1 : v < 18446744073709551616 ^ n) (hj : n ≤ j) : q.dg v j = 0 := by
  unfold q.dg
  have : v < (18446744073709551616 : Int) ^ j := by
    obtain ⟨d, rfl⟩ : ∃ d, j = n + d := ⟨j - n, by omega⟩
    rw [Int.pow_add]
    have hp := q.p256 n
    have hd := q.p256 d
    have := Int.mul_le_mul_of_nonneg_left (show (1 : Int) ≤ 18446744073709551616 ^ d by omega) (Int.le_of_lt hp)
    omega
  rw [Int.ediv_eq_zero_of_lt h0 this]
  rfl
theorem low_mul {X Y : Int} (i : Nat) (y0 : 0 ≤ Y) (y1 : Y < 340282366920938463463374607431768211456) : 0 ≤ X % 18446744073709551616 ^ i * Y ∧ X % 18446744073709551616 ^ i * Y < 18446744073709551616 ^ (i + 2) := by
  have hp := q.p256 i
  have a := Int.emod_nonneg X (Int.ne_of_gt hp)
  have a' := Int.emod_lt_of_pos X hp
  refine ⟨Int.mul_nonneg a y0, ?_⟩
  rw [Int.pow_add, pw2]
  have h1 := Int.mul_le_mul (show X % 18446744073709551616 ^ i ≤ 18446744073709551616 ^ i by omega) (Int.le_of_lt y1) y0 (Int.le_of_lt hp)
  rcases Int.lt_or_eq_of_le h1 with h | h
  · exact h
  · exfalso
    have h2 := Int.mul_lt_mul_of_pos_left y1 hp
    have h3 := Int.mul_le_mul_of_nonneg_right (show X % 18446744073709551616 ^ i ≤ 18446744073709551616 ^ i by omega) y0
    omega
/-- The last carry of a round is the digit over the round's digits. -/
theorem cy_last {X Y : Int} (i : Nat) (y0 : 0 ≤ Y) (y1 : Y < 340282366920938463463374607431768211456) :
    q.cy (X % 18446744073709551616 ^ i * Y) (q.dg X i) Y i 2 = q.dg (X % 18446744073709551616 ^ i * Y + q.dg X i * 18446744073709551616 ^ i * Y) (i + 2) := by
  obtain ⟨o0, o1⟩ := low_mul (X := X) i y0 y1
  obtain ⟨d0, d1⟩ := q.dg_range X i
  obtain ⟨r0, r1⟩ := q.cy_range (X % 18446744073709551616 ^ i * Y) (q.dg X i) Y i 2 d0 d1
  unfold q.cy q.tk at r0 r1 ⊢
  rw [Int.emod_eq_of_lt o0 o1, Int.emod_eq_of_lt (b := 18446744073709551616 ^ 2) y0 (by rw [pw2]; exact y1)] at r0 r1 ⊢
  generalize hV : X % 18446744073709551616 ^ i * Y + q.dg X i * 18446744073709551616 ^ i * Y = V at *
  show V / 18446744073709551616 ^ (i + 2) = V / 18446744073709551616 ^ (i + 2) % 18446744073709551616
  omega
theorem mix_done {X Y : Int} (i : Nat) (hi : i < 2) (y0 : 0 ≤ Y) (y1 : Y < 340282366920938463463374607431768211456) :
    (q.mix 4 (i + 2) (X % 18446744073709551616 ^ i * Y + q.dg X i * 18446744073709551616 ^ i * Y) (X % 18446744073709551616 ^ i * Y)).set (i + 2) (.int .u64 (q.cy (X % 18446744073709551616 ^ i * Y) (q.dg X i) Y i 2)) = q.dcells 4 (X % 18446744073709551616 ^ (i + 1) * Y) := by
  rw [cy_last i y0 y1, q.mix_set, q.mul_next, ← q.mix_full 4 _ 0]
  obtain ⟨o0, o1⟩ := low_mul (X := X) i y0 y1
  obtain ⟨s0, s1⟩ := low_mul (X := X) (i + 1) y0 y1
  refine q.fill_congr fun j hj => ?_
  by_cases h : j < i + 2 + 1
  · simp [h, hj]
  · simp [h, hj]
    rw [qdg_high o0 o1 (by omega), qdg_high s0 s1 (by omega)]

/-- What holds at the head of each round of both loops of the product: both factors' words in blocks of their own, and a row at the product's. -/
structure MulRel (w : World) (X Y : Int) (bx by' : Nat) (cs : List Value) (wr : World) : Prop where
  rx : Row wr bx (q.dcells 2 X)
  ry : Row wr by' (q.dcells 2 Y)
  rz : Row wr (w.heap.size + 1 + 1) (q.dcells 4 0)
  rp : Row wr (w.heap.size + 1 + 1 + 1 + 1 + 1) cs
  bel : Below w.heap.size w wr
  size : w.heap.size + 1 + 1 + 1 + 1 + 1 < wr.heap.size
theorem MulRel.set {w wr : World} {X Y : Int} {bx by' : Nat} {cs : List Value} (h : MulRel w X Y bx by' cs wr) (hx : bx ≠ w.heap.size + 1 + 1 + 1 + 1 + 1) (hy : by' ≠ w.heap.size + 1 + 1 + 1 + 1 + 1) (i : Nat) (hi : i < cs.length) (v : Value) :
    MulRel w X Y bx by' (cs.set i v) (wr.setCell ⟨w.heap.size + 1 + 1 + 1 + 1 + 1, i, none⟩ v) :=
  ⟨h.rx.other _ (Ne.symm hx), h.ry.other _ (Ne.symm hy), h.rz.other _ (by omega), h.rp.set i v hi, h.bel.setCell (by show _ ≤ w.heap.size + 1 + 1 + 1 + 1 + 1; omega) _, by simpa using h.size⟩
theorem MulRel.drewN {w wr : World} {X Y : Int} {bx by' : Nat} {cs : List Value} (h : MulRel w X Y bx by' cs wr) (n : Nat) : MulRel w X Y bx by' cs (wr.drewN n) :=
  ⟨h.rx.drewN n, h.ry.drewN n, h.rz.drewN n, h.rp.drewN n, below_drewN h.bel n, h.size⟩

end Go.Proofs.Ytnemailhijkemaa.lq

namespace Go.Proofs.Ytnemailhijkemaa.lq
open Go.RowKit
set_option linter.unusedVariables false

theorem keep_set {w : World} {b c i k : Nat} {u v : Value} (h : w.cell? ⟨b, k, none⟩ = some u) (hne : c ≠ b) : ((w.drew).setCell ⟨c, i, none⟩ v).cell? ⟨b, k, none⟩ = some u :=
  (World.cell?_setCell_other _ _ _ _ (by intro q; simp only [Addr.mk.injEq] at q; omega)).trans h
theorem two_cells (X : Int) : q.dcells 2 X = [.int .u64 (q.dg X 0), .int .u64 (q.dg X 1)] := by simp [q.dcells, List.range, List.range.loop]
theorem mul_rows (w : World) (o1 o2 : Obj) (xs ys : List Value) (t t2 : TypeId) :
    let W := ((((((w.alloc o1).alloc o2).alloc (.cells #[.int .u64 0, .int .u64 0, .int .u64 0, .int .u64 0] t)).alloc (.cells xs.toArray t2)).alloc (.cells ys.toArray t2)).drew).alloc (.cells #[.int .u64 0, .int .u64 0, .int .u64 0, .int .u64 0] t)
    Row W (w.heap.size + 1 + 1) (q.dcells 4 0) ∧ Row W (w.heap.size + 1 + 1 + 1) xs ∧ Row W (w.heap.size + 1 + 1 + 1 + 1) ys ∧ Row W (w.heap.size + 1 + 1 + 1 + 1 + 1) (q.dcells 4 0) ∧ Below w.heap.size w W ∧ w.heap.size + 1 + 1 + 1 + 1 + 1 < W.heap.size := by
  intro W
  have h2 := ((((Row.new ((w.alloc o1).alloc o2) (q.dcells 4 0) t).alloc (.cells xs.toArray t2) (by simp <;> omega)).alloc (.cells ys.toArray t2) (by simp <;> omega)).drew).alloc (.cells (q.dcells 4 0).toArray t) (by simp <;> omega)
  have h3 := (((Row.new (((w.alloc o1).alloc o2).alloc (.cells (q.dcells 4 0).toArray t)) xs t2).alloc (.cells ys.toArray t2) (by simp <;> omega)).drew).alloc (.cells (q.dcells 4 0).toArray t) (by simp <;> omega)
  have h4 := ((Row.new ((((w.alloc o1).alloc o2).alloc (.cells (q.dcells 4 0).toArray t)).alloc (.cells xs.toArray t2)) ys t2).drew).alloc (.cells (q.dcells 4 0).toArray t) (by simp <;> omega)
  have h5 := Row.new ((((((w.alloc o1).alloc o2).alloc (.cells (q.dcells 4 0).toArray t)).alloc (.cells xs.toArray t2)).alloc (.cells ys.toArray t2)).drew) (q.dcells 4 0) t
  simp only [World.size_alloc, World.size_drew] at h2 h3 h4 h5
  rw [qcells_0] at h2 h3 h4 h5
  refine ⟨by rw [qcells_0]; exact h2, h3, h4, by rw [qcells_0]; exact h5, ?_, by simp [W]⟩
  exact (((((((Below.refl _ _).alloc (Nat.le_refl _) _).alloc (by simp <;> omega) _).alloc (by simp <;> omega) _).alloc (by simp <;> omega) _).alloc (by simp <;> omega) _).drew).alloc (by simp <;> omega) _
theorem mw_x {l h : Int} {X : Int} (e0 : l = q.dg X 0) (e1 : h = q.dg X 1) : q.dcells 2 X = [.int .u64 l, .int .u64 h] := by rw [two_cells, e0, e1]

theorem MulRel.cells {w wr : World} {X Y : Int} {bx by' : Nat} {cs ds : List Value} (h : MulRel w X Y bx by' cs wr) (e : cs = ds) : MulRel w X Y bx by' ds wr := e ▸ h

set_option maxRecDepth 20000 in
set_option maxHeartbeats 4000000 in
theorem mulWords_any {ah al bh bl : Int} (a b : Int) (ha : ah = hi a) (hal : al = lo a) (hb : bh = hi b) (hbl : bl = lo b) (w : World) :
    Calls Try.prog 48 #[.agg #[.int .i64 ah, .int .u64 al], .agg #[.int .i64 bh, .int .u64 bl]] w fun e w' =>
      e = .returned (.agg #[.int .u64 (q.dg (a % 340282366920938463463374607431768211456 * (b % 340282366920938463463374607431768211456)) 0), .int .u64 (q.dg (a % 340282366920938463463374607431768211456 * (b % 340282366920938463463374607431768211456)) 1), .int .u64 (q.dg (a % 340282366920938463463374607431768211456 * (b % 340282366920938463463374607431768211456)) 2), .int .u64 (q.dg (a % 340282366920938463463374607431768211456 * (b % 340282366920938463463374607431768211456)) 3)]) ∧ Below w.heap.size w w' := by
  subst ha hal hb hbl
  obtain ⟨X, hX⟩ : ∃ X, a % 340282366920938463463374607431768211456 = X := ⟨_, rfl⟩
  obtain ⟨Y, hY⟩ : ∃ Y, b % 340282366920938463463374607431768211456 = Y := ⟨_, rfl⟩
  have x0 : 0 ≤ X := by omega
  have x1 : X < 340282366920938463463374607431768211456 := by omega
  have y0 : 0 ≤ Y := by omega
  have y1 : Y < 340282366920938463463374607431768211456 := by omega
  have eX0 : Hid (lo a = q.dg X 0) := by unfold Hid; rw [qdg0, ← hX]; unfold lo; omega
  have eX1 : Hid (IntKind.u64.wrap (hi a) = q.dg X 1) := by unfold Hid; rw [hi_q, qdg1, qdg1]; omega
  have eY0 : Hid (lo b = q.dg Y 0) := by unfold Hid; rw [qdg0, ← hY]; unfold lo; omega
  have eY1 : Hid (IntKind.u64.wrap (hi b) = q.dg Y 1) := by unfold Hid; rw [hi_q, qdg1, qdg1]; omega
  rw [hX, hY]
  clear hX hY
  go_enter Try.func48, Try.ntmps48
  go_wp2
  go_region_held3 (fun w' => w'.cell? ⟨w.heap.size, 0, none⟩ = some (.int .i64 (hi a)) ∧ w'.cell? ⟨w.heap.size, 1, none⟩ = some (.int .u64 (lo a)) ∧ w'.cell? ⟨w.heap.size + 1, 0, none⟩ = some (.int .i64 (hi b)) ∧ w'.cell? ⟨w.heap.size + 1, 1, none⟩ = some (.int .u64 (lo b))) (refine ⟨?_, ?_, ?_, ?_⟩ <;> simp [go_sem]) (fail)
  all_goals rename_i hHeld
  · clear hHeld
    have eO : X % (18446744073709551616 : Int) ^ 0 * Y = 0 := by simp [Int.emod_one]
    have HR : Hid _ := mul_rows w (.cells #[.int .i64 (hi a), .int .u64 (lo a)] 50) (.cells #[.int .i64 (hi b), .int .u64 (lo b)] 50) [.int .u64 (lo a), .int .u64 (IntKind.u64.wrap (hi a))] [.int .u64 (lo b), .int .u64 (IntKind.u64.wrap (hi b))] 54 83
    go_wp2
    go_loopw [23] (fun ii wr => ∃ i : Nat, i ≤ 2 ∧ ii = .int .i64 (i : Int) ∧ MulRel w X Y (w.heap.size + 1 + 1 + 1) (w.heap.size + 1 + 1 + 1 + 1) (q.dcells 4 (X % 18446744073709551616 ^ i * Y)) wr) (fun ii _ => 2 - (intOf ii).toNat)
    case atStart =>
      obtain ⟨r2, r3, r4, r5, bel, sz⟩ := HR.out
      have r3 := r3.cells (mw_x eX0.out eX1.out).symm
      have r4 := r4.cells (mw_x eY0.out eY1.out).symm
      exact ⟨0, by omega, rfl, r3, r4, r2, by rw [eO]; exact r5, bel, sz⟩
    case round =>
      clear HR eO
      obtain ⟨i, hi2, rfl, hr⟩ := hrel
      by_cases hlt : i < 2
      · obtain ⟨wo, rfl⟩ : ∃ wo : World, wo = wr := ⟨_, rfl⟩
        have hl : (i : Int) < 2 := by omega
        go_wp2
        go_loopw [9, 26] (fun c kk wr => ∃ k : Nat, k ≤ 2 ∧ kk = .int .i64 (k : Int) ∧ c = .int .u64 (q.cy (X % 18446744073709551616 ^ i * Y) (q.dg X i) Y i k) ∧ MulRel w X Y (w.heap.size + 1 + 1 + 1) (w.heap.size + 1 + 1 + 1 + 1) (q.mix 4 (i + k) (X % 18446744073709551616 ^ i * Y + q.dg X i * 18446744073709551616 ^ i * Y) (X % 18446744073709551616 ^ i * Y)) wr) (fun _ kk _ => 2 - (intOf kk).toNat)
        case atStart => exact ⟨0, by omega, rfl, by rw [q.cy_zero], hr.cells (q.mix_start 4 i _ _ _).symm⟩
        case round =>
          clear hr
          obtain ⟨k, hk, rfl, rfl, hr⟩ := hrel
          by_cases hlt2 : k < 2
          · have c1 : wr.cell? ⟨w.heap.size + 1 + 1 + 1, i, none⟩ = some (.int .u64 (q.dg X i)) := hr.rx.cell i _ (q.dcells_at _ _ _ hlt)
            have c2 : wr.cell? ⟨w.heap.size + 1 + 1 + 1 + 1, k, none⟩ = some (.int .u64 (q.dg Y k)) := hr.ry.cell k _ (q.dcells_at _ _ _ hlt2)
            have c3 : wr.cell? ⟨w.heap.size + 1 + 1 + 1 + 1 + 1, i + k, none⟩ = some (.int .u64 (q.dg (X % 18446744073709551616 ^ i * Y) (i + k))) := hr.rp.cell (i + k) _ (q.mix_at _ _ _ _ _ (by omega) (Nat.le_refl _))
            have c4 : wr.frozen? ⟨w.heap.size + 1 + 1 + 1 + 1 + 1, i + k, none⟩ = false := hr.rp.free (i + k) (by rw [q.mix_length]; omega)
            have hn := hr.set (by omega) (by omega) (i + k) (by rw [q.mix_length]; omega) (.int .u64 (q.dg (X % 18446744073709551616 ^ i * Y + q.dg X i * 18446744073709551616 ^ i * Y) (i + k)))
            rw [q.mix_set] at hn
            obtain ⟨O, hO⟩ : ∃ O, X % 18446744073709551616 ^ i * Y = O := ⟨_, rfl⟩
            rw [hO] at c3 hn ⊢
            obtain ⟨e0, e1⟩ := q.dg_range X i
            obtain ⟨d0, d1⟩ := q.dg_range Y k
            obtain ⟨g0, g1⟩ := q.dg_range O (i + k)
            obtain ⟨f0, f1'⟩ := q.cy_range O (q.dg X i) Y i k e0 e1
            have f1 : q.cy O (q.dg X i) Y i k < 18446744073709551616 := by omega
            have eD : (q.dg X i * q.dg Y k + q.dg O (i + k) + q.cy O (q.dg X i) Y i k) % 18446744073709551616 = q.dg (O + q.dg X i * 18446744073709551616 ^ i * Y) (i + k) := by rw [← q.mul_digit]; congr 1; omega
            have eC : (q.dg X i * q.dg Y k + q.dg O (i + k) + q.cy O (q.dg X i) Y i k) / 18446744073709551616 = q.cy O (q.dg X i) Y i (k + 1) := by rw [q.cy_succ]; congr 1; omega
            have HN : Hid _ := hn
            have HC : Hid _ := eC
            have HD : Hid _ := eD
            have hik : (i : Int) + (k : Int) < 4 := by omega
            have hik0 : (0 : Int) ≤ (i : Int) + (k : Int) := by omega
            have ht : ((i : Int) + (k : Int)).toNat = i + k := by omega
            have hk2 : (k : Int) < 2 := by omega
            have HO : Hid _ := hO
            clear hO hr hn eD eC f1'
            have hwr : IntKind.i64.wrap ((i : Int) + (k : Int)) = (i : Int) + (k : Int) := IntWalk.i64_in _ ⟨by omega, by omega⟩
            go_wp2
            refine wp_region_held_drew (S := (fun w' => w'.cell? ⟨w.heap.size + 1 + 1 + 1, i, none⟩ = some (.int .u64 (q.dg X i)) ∧ w'.cell? ⟨w.heap.size + 1 + 1 + 1 + 1, k, none⟩ = some (.int .u64 (q.dg Y k)))) (by kernel_rfl) ?_ (fun hHeld => ?_)
            · first | exact ⟨c1, c2⟩ | exact ⟨keep_other c1 (by omega), keep_other c2 (by omega)⟩ | exact ⟨keep_set c1 (by omega), keep_set c2 (by omega)⟩
            refine take_yes (i := 0) (v := ?vx0) rfl (by kernel_rfl) (by kernel_rfl) (by kernel_rfl) (fun _ _ _ h => h) (by rfl) (by assumption) ?hyx0 ?restx0
            case hyx0 => (intro w hSw; (try dsimp only at hSw); first | (go_simp; done) | (go_simp; with_reducible rfl))
            simp only [Act.put, List.setIfInBounds_toArray, List.set_cons_zero, List.set_cons_succ]
            refine take_yes (i := 1) (v := ?vx1) rfl (by kernel_rfl) (by kernel_rfl) (by kernel_rfl) (fun _ _ _ h => h) (by rfl) (by assumption) ?hyx1 ?restx1
            case hyx1 => (intro w hSw; (try dsimp only at hSw); first | (go_simp; done) | (go_simp; with_reducible rfl))
            simp only [Act.put, List.setIfInBounds_toArray, List.set_cons_zero, List.set_cons_succ]
            refine take_yes (i := 2) (v := ?vx2) rfl (by kernel_rfl) (by kernel_rfl) (by kernel_rfl) (fun _ _ _ h => h) (by rfl) (by assumption) ?hyx2 ?restx2
            case hyx2 => (intro w hSw; (try dsimp only at hSw); first | (go_simp; done) | (go_simp; with_reducible rfl))
            simp only [Act.put, List.setIfInBounds_toArray, List.set_cons_zero, List.set_cons_succ]
            refine take_yes (i := 3) (v := ?vx3) rfl (by kernel_rfl) (by kernel_rfl) (by kernel_rfl) (fun _ _ _ h => h) (by rfl) (by assumption) ?hyx3 ?restx3
            case hyx3 => (intro w hSw; (try dsimp only at hSw); first | (go_simp; done) | (go_simp; with_reducible rfl))
            simp only [Act.put, List.setIfInBounds_toArray, List.set_cons_zero, List.set_cons_succ]
            refine take_yes (i := 4) (v := ?vx4) rfl (by kernel_rfl) (by kernel_rfl) (by kernel_rfl) (fun _ _ _ h => h) (by rfl) (by assumption) ?hyx4 ?restx4
            case hyx4 => (intro w hSw; (try dsimp only at hSw); first | (go_simp; done) | (go_simp; with_reducible rfl))
            simp only [Act.put, List.setIfInBounds_toArray, List.set_cons_zero, List.set_cons_succ]
            refine take_yes (i := 5) (v := ?vx5) rfl (by kernel_rfl) (by kernel_rfl) (by kernel_rfl) (fun _ _ _ h => h) (by rfl) (by assumption) ?hyx5 ?restx5
            case hyx5 => (intro w hSw; (try dsimp only at hSw); first | (go_simp; done) | (go_simp; with_reducible rfl))
            simp only [Act.put, List.setIfInBounds_toArray, List.set_cons_zero, List.set_cons_succ]
            refine take_yes (i := 6) (v := ?vx6) rfl (by kernel_rfl) (by kernel_rfl) (by kernel_rfl) (fun _ _ _ h => h) (by rfl) (by assumption) ?hyx6 ?restx6
            case hyx6 => (intro w hSw; (try dsimp only at hSw); first | (go_simp; done) | (go_simp; with_reducible rfl))
            simp only [Act.put, List.setIfInBounds_toArray, List.set_cons_zero, List.set_cons_succ]
            refine take_yes (i := 7) (v := ?vx7) rfl (by kernel_rfl) (by kernel_rfl) (by kernel_rfl) (fun _ _ _ h => h) (by rfl) (by assumption) ?hyx7 ?restx7
            case hyx7 => (intro w hSw; (try dsimp only at hSw); first | (go_simp; done) | (go_simp; with_reducible rfl))
            simp only [Act.put, List.setIfInBounds_toArray, List.set_cons_zero, List.set_cons_succ]
            refine take_yes (i := 8) (v := ?vx8) rfl (by kernel_rfl) (by kernel_rfl) (by kernel_rfl) (fun _ _ _ h => h) (by rfl) (by assumption) ?hyx8 ?restx8
            case hyx8 => (intro w hSw; (try dsimp only at hSw); first | (go_simp; done) | (go_simp; with_reducible rfl))
            simp only [Act.put, List.setIfInBounds_toArray, List.set_cons_zero, List.set_cons_succ]
            refine take_yes (i := 9) (v := ?vx9) rfl (by kernel_rfl) (by kernel_rfl) (by kernel_rfl) (fun _ _ _ h => h) (by rfl) (by assumption) ?hyx9 ?restx9
            case hyx9 => (intro w hSw; (try dsimp only at hSw); first | (go_simp; done) | (go_simp; with_reducible rfl))
            simp only [Act.put, List.setIfInBounds_toArray, List.set_cons_zero, List.set_cons_succ]
            refine take_yes (i := 10) (v := ?vx10) rfl (by kernel_rfl) (by kernel_rfl) (by kernel_rfl) (fun _ _ _ h => h) (by rfl) (by assumption) ?hyx10 ?restx10
            case hyx10 => (intro w hSw; (try dsimp only at hSw); first | (go_simp; done) | (go_simp; with_reducible rfl))
            simp only [Act.put, List.setIfInBounds_toArray, List.set_cons_zero, List.set_cons_succ]
            refine take_yes (i := 11) (v := ?vx11) rfl (by kernel_rfl) (by kernel_rfl) (by kernel_rfl) (fun _ _ _ h => h) (by rfl) (by assumption) ?hyx11 ?restx11
            case hyx11 => (intro w hSw; (try dsimp only at hSw); first | (go_simp; done) | (go_simp; with_reducible rfl))
            simp only [Act.put, List.setIfInBounds_toArray, List.set_cons_zero, List.set_cons_succ]
            refine take_yes (i := 12) (v := ?vx12) rfl (by kernel_rfl) (by kernel_rfl) (by kernel_rfl) (fun _ _ _ h => h) (by rfl) (by assumption) ?hyx12 ?restx12
            case hyx12 => (intro w hSw; (try dsimp only at hSw); first | (go_simp; done) | (go_simp; with_reducible rfl))
            simp only [Act.put, List.setIfInBounds_toArray, List.set_cons_zero, List.set_cons_succ]
            refine take_yes (i := 14) (v := ?vx14) rfl (by kernel_rfl) (by kernel_rfl) (by kernel_rfl) (fun _ _ _ h => h) (by rfl) (by assumption) ?hyx14 ?restx14
            case hyx14 => (intro w hSw; (try dsimp only at hSw); first | (go_simp; done) | (go_simp; with_reducible rfl))
            simp only [Act.put, List.setIfInBounds_toArray, List.set_cons_zero, List.set_cons_succ]
            refine take_call (i := 13) rfl (by kernel_rfl) (fun K hK => ?_)
            go_simp
            refine hK.out _ _ ?_ (fun hHeld => ?_)
            · first | exact ⟨c1, c2⟩ | exact ⟨keep_other c1 (by omega), keep_other c2 (by omega)⟩ | exact ⟨keep_set c1 (by omega), keep_set c2 (by omega)⟩
            clear hK K
            refine take_call (i := 15) rfl (by kernel_rfl) (fun K hK => ?_)
            go_simp
            (go_at_call 65; refine (mulAdd_any _ _ _ _ e0 e1 d0 d1 g0 g1 f0 f1 _).mono ?_; rintro e w' ⟨rfl, hw⟩; have hw := hw.symm; subst hw)
            refine hK.out _ _ ?_ (fun hHeld => ?_)
            · first | exact ⟨c1, c2⟩ | exact ⟨keep_other c1 (by omega), keep_other c2 (by omega)⟩ | exact ⟨keep_set c1 (by omega), keep_set c2 (by omega)⟩
            clear hK K
            refine take_yes (i := 16) (v := ?vx16) rfl (by kernel_rfl) (by kernel_rfl) (by kernel_rfl) (fun _ _ _ h => h) (by rfl) (by assumption) ?hyx16 ?restx16
            case hyx16 => (intro w hSw; (try dsimp only at hSw); first | (go_simp; done) | (go_simp; with_reducible rfl))
            simp only [Act.put, List.setIfInBounds_toArray, List.set_cons_zero, List.set_cons_succ]
            refine take_yes (i := 17) (v := ?vx17) rfl (by kernel_rfl) (by kernel_rfl) (by kernel_rfl) (fun _ _ _ h => h) (by rfl) (by assumption) ?hyx17 ?restx17
            case hyx17 => (intro w hSw; (try dsimp only at hSw); first | (go_simp; done) | (go_simp; with_reducible rfl))
            simp only [Act.put, List.setIfInBounds_toArray, List.set_cons_zero, List.set_cons_succ]
            refine take_yes (i := 18) (v := ?vx18) rfl (by kernel_rfl) (by kernel_rfl) (by kernel_rfl) (fun _ _ _ h => h) (by rfl) (by assumption) ?hyx18 ?restx18
            case hyx18 => (intro w hSw; (try dsimp only at hSw); first | (go_simp; done) | (go_simp; with_reducible rfl))
            simp only [Act.put, List.setIfInBounds_toArray, List.set_cons_zero, List.set_cons_succ]
            refine take_yes (i := 19) (v := ?vx19) rfl (by kernel_rfl) (by kernel_rfl) (by kernel_rfl) (fun _ _ _ h => h) (by rfl) (by assumption) ?hyx19 ?restx19
            case hyx19 => (intro w hSw; (try dsimp only at hSw); first | (go_simp; done) | (go_simp; with_reducible rfl))
            simp only [Act.put, List.setIfInBounds_toArray, List.set_cons_zero, List.set_cons_succ]
            refine take_yes (i := 20) (v := ?vx20) rfl (by kernel_rfl) (by kernel_rfl) (by kernel_rfl) (fun _ _ _ h => h) (by rfl) (by assumption) ?hyx20 ?restx20
            case hyx20 => (intro w hSw; (try dsimp only at hSw); first | (go_simp; done) | (go_simp; with_reducible rfl))
            simp only [Act.put, List.setIfInBounds_toArray, List.set_cons_zero, List.set_cons_succ]
            refine take_call (i := 21) rfl (by kernel_rfl) (fun K hK => ?_)
            go_simp
            refine hK.out _ _ ?_ (fun hHeld => ?_)
            · first | exact ⟨c1, c2⟩ | exact ⟨keep_other c1 (by omega), keep_other c2 (by omega)⟩ | exact ⟨keep_set c1 (by omega), keep_set c2 (by omega)⟩
            clear hK K
            refine wpAnyH_done (by kernel_rfl) ?_ _
            all_goals
              go_wp2
              go_roundw
              case rel => exact ⟨k + 1, by omega, by simp, by rw [HC.out], by rw [← Nat.add_assoc, HD.out]; first | exact HN.out.drewN 1 | exact HN.out⟩
              case measure => simp [intOf]; omega
          · obtain rfl : k = 2 := by omega
            have hn := hr.set (by omega) (by omega) (i + 2) (by rw [q.mix_length]; omega) (.int .u64 (q.cy (X % 18446744073709551616 ^ i * Y) (q.dg X i) Y i 2))
            rw [mix_done i hlt y0 y1] at hn
            have c3 : wr.cell? ⟨w.heap.size + 1 + 1 + 1 + 1 + 1, i + 2, none⟩ = some (.int .u64 (q.dg (X % 18446744073709551616 ^ i * Y) (i + 2))) := hr.rp.cell (i + 2) _ (q.mix_at _ _ _ _ _ (by omega) (Nat.le_refl _))
            have c4 : wr.frozen? ⟨w.heap.size + 1 + 1 + 1 + 1 + 1, i + 2, none⟩ = false := hr.rp.free (i + 2) (by rw [q.mix_length]; omega)
            clear hr
            go_wp2
            go_roundw
            case rel => exact ⟨i + 1, by omega, by simp, hn⟩
            case measure => simp [intOf]; omega
      · obtain rfl : i = 2 := by omega
        have eXY : X % 18446744073709551616 ^ 2 * Y = X * Y := by rw [pw2, Int.emod_eq_of_lt x0 x1]
        obtain ⟨rx, ry, rz, rp, bel, size⟩ := hr
        rw [eXY, qcells] at rp
        rw [qcells_0] at rz
        obtain ⟨c0, c1, c2, c3, _, _, _, _⟩ := row4 rp
        obtain ⟨z0, z1, z2, z3, u0, u1, u2, u3⟩ := row4 rz
        clear rx ry rp rz eXY
        go_wp2
        refine bodyPost_ret (v := .agg #[.int .u64 (q.dg (X * Y) 0), .int .u64 (q.dg (X * Y) 1), .int .u64 (q.dg (X * Y) 2), .int .u64 (q.dg (X * Y) 3)]) (by simp [results, Try.results48, go_sem, *]) rfl ⟨rfl, ?_⟩
        exact (((bel.setCell (by show _ ≤ w.heap.size + 1 + 1; omega) _).setCell (by show _ ≤ w.heap.size + 1 + 1; omega) _).setCell (by show _ ≤ w.heap.size + 1 + 1; omega) _).setCell (by show _ ≤ w.heap.size + 1 + 1; omega) _
  · clear hHeld
    have eO : X % (18446744073709551616 : Int) ^ 0 * Y = 0 := by simp [Int.emod_one]
    have HR : Hid _ := mul_rows w (.cells #[.int .i64 (hi a), .int .u64 (lo a)] 50) (.cells #[.int .i64 (hi b), .int .u64 (lo b)] 50) [.int .u64 (lo b), .int .u64 (IntKind.u64.wrap (hi b))] [.int .u64 (lo a), .int .u64 (IntKind.u64.wrap (hi a))] 54 83
    go_wp2
    go_loopw [23] (fun ii wr => ∃ i : Nat, i ≤ 2 ∧ ii = .int .i64 (i : Int) ∧ MulRel w X Y (w.heap.size + 1 + 1 + 1 + 1) (w.heap.size + 1 + 1 + 1) (q.dcells 4 (X % 18446744073709551616 ^ i * Y)) wr) (fun ii _ => 2 - (intOf ii).toNat)
    case atStart =>
      obtain ⟨r2, r3, r4, r5, bel, sz⟩ := HR.out
      have r3 := r3.cells (mw_x eY0.out eY1.out).symm
      have r4 := r4.cells (mw_x eX0.out eX1.out).symm
      exact ⟨0, by omega, rfl, r4, r3, r2, by rw [eO]; exact r5, bel, sz⟩
    case round =>
      clear HR eO
      obtain ⟨i, hi2, rfl, hr⟩ := hrel
      by_cases hlt : i < 2
      · obtain ⟨wo, rfl⟩ : ∃ wo : World, wo = wr := ⟨_, rfl⟩
        have hl : (i : Int) < 2 := by omega
        go_wp2
        go_loopw [9, 26] (fun c kk wr => ∃ k : Nat, k ≤ 2 ∧ kk = .int .i64 (k : Int) ∧ c = .int .u64 (q.cy (X % 18446744073709551616 ^ i * Y) (q.dg X i) Y i k) ∧ MulRel w X Y (w.heap.size + 1 + 1 + 1 + 1) (w.heap.size + 1 + 1 + 1) (q.mix 4 (i + k) (X % 18446744073709551616 ^ i * Y + q.dg X i * 18446744073709551616 ^ i * Y) (X % 18446744073709551616 ^ i * Y)) wr) (fun _ kk _ => 2 - (intOf kk).toNat)
        case atStart => exact ⟨0, by omega, rfl, by rw [q.cy_zero], hr.cells (q.mix_start 4 i _ _ _).symm⟩
        case round =>
          clear hr
          obtain ⟨k, hk, rfl, rfl, hr⟩ := hrel
          by_cases hlt2 : k < 2
          · have c1 : wr.cell? ⟨w.heap.size + 1 + 1 + 1 + 1, i, none⟩ = some (.int .u64 (q.dg X i)) := hr.rx.cell i _ (q.dcells_at _ _ _ hlt)
            have c2 : wr.cell? ⟨w.heap.size + 1 + 1 + 1, k, none⟩ = some (.int .u64 (q.dg Y k)) := hr.ry.cell k _ (q.dcells_at _ _ _ hlt2)
            have c3 : wr.cell? ⟨w.heap.size + 1 + 1 + 1 + 1 + 1, i + k, none⟩ = some (.int .u64 (q.dg (X % 18446744073709551616 ^ i * Y) (i + k))) := hr.rp.cell (i + k) _ (q.mix_at _ _ _ _ _ (by omega) (Nat.le_refl _))
            have c4 : wr.frozen? ⟨w.heap.size + 1 + 1 + 1 + 1 + 1, i + k, none⟩ = false := hr.rp.free (i + k) (by rw [q.mix_length]; omega)
            have hn := hr.set (by omega) (by omega) (i + k) (by rw [q.mix_length]; omega) (.int .u64 (q.dg (X % 18446744073709551616 ^ i * Y + q.dg X i * 18446744073709551616 ^ i * Y) (i + k)))
            rw [q.mix_set] at hn
            obtain ⟨O, hO⟩ : ∃ O, X % 18446744073709551616 ^ i * Y = O := ⟨_, rfl⟩
            rw [hO] at c3 hn ⊢
            obtain ⟨e0, e1⟩ := q.dg_range X i
            obtain ⟨d0, d1⟩ := q.dg_range Y k
            obtain ⟨g0, g1⟩ := q.dg_range O (i + k)
            obtain ⟨f0, f1'⟩ := q.cy_range O (q.dg X i) Y i k e0 e1
            have f1 : q.cy O (q.dg X i) Y i k < 18446744073709551616 := by omega
            have eD : (q.dg X i * q.dg Y k + q.dg O (i + k) + q.cy O (q.dg X i) Y i k) % 18446744073709551616 = q.dg (O + q.dg X i * 18446744073709551616 ^ i * Y) (i + k) := by rw [← q.mul_digit]; congr 1; omega
            have eC : (q.dg X i * q.dg Y k + q.dg O (i + k) + q.cy O (q.dg X i) Y i k) / 18446744073709551616 = q.cy O (q.dg X i) Y i (k + 1) := by rw [q.cy_succ]; congr 1; omega
            have HN : Hid _ := hn
            have HC : Hid _ := eC
            have HD : Hid _ := eD
            have hik : (i : Int) + (k : Int) < 4 := by omega
            have hik0 : (0 : Int) ≤ (i : Int) + (k : Int) := by omega
            have ht : ((i : Int) + (k : Int)).toNat = i + k := by omega
            have hk2 : (k : Int) < 2 := by omega
            have HO : Hid _ := hO
            clear hO hr hn eD eC f1'
            have hwr : IntKind.i64.wrap ((i : Int) + (k : Int)) = (i : Int) + (k : Int) := IntWalk.i64_in _ ⟨by omega, by omega⟩
            go_wp2
            refine wp_region_held_drew (S := (fun w' => w'.cell? ⟨w.heap.size + 1 + 1 + 1 + 1, i, none⟩ = some (.int .u64 (q.dg X i)) ∧ w'.cell? ⟨w.heap.size + 1 + 1 + 1, k, none⟩ = some (.int .u64 (q.dg Y k)))) (by kernel_rfl) ?_ (fun hHeld => ?_)
            · first | exact ⟨c1, c2⟩ | exact ⟨keep_other c1 (by omega), keep_other c2 (by omega)⟩ | exact ⟨keep_set c1 (by omega), keep_set c2 (by omega)⟩
            refine take_yes (i := 0) (v := ?vy0) rfl (by kernel_rfl) (by kernel_rfl) (by kernel_rfl) (fun _ _ _ h => h) (by rfl) (by assumption) ?hyy0 ?resty0
            case hyy0 => (intro w hSw; (try dsimp only at hSw); first | (go_simp; done) | (go_simp; with_reducible rfl))
            simp only [Act.put, List.setIfInBounds_toArray, List.set_cons_zero, List.set_cons_succ]
            refine take_yes (i := 1) (v := ?vy1) rfl (by kernel_rfl) (by kernel_rfl) (by kernel_rfl) (fun _ _ _ h => h) (by rfl) (by assumption) ?hyy1 ?resty1
            case hyy1 => (intro w hSw; (try dsimp only at hSw); first | (go_simp; done) | (go_simp; with_reducible rfl))
            simp only [Act.put, List.setIfInBounds_toArray, List.set_cons_zero, List.set_cons_succ]
            refine take_yes (i := 2) (v := ?vy2) rfl (by kernel_rfl) (by kernel_rfl) (by kernel_rfl) (fun _ _ _ h => h) (by rfl) (by assumption) ?hyy2 ?resty2
            case hyy2 => (intro w hSw; (try dsimp only at hSw); first | (go_simp; done) | (go_simp; with_reducible rfl))
            simp only [Act.put, List.setIfInBounds_toArray, List.set_cons_zero, List.set_cons_succ]
            refine take_yes (i := 3) (v := ?vy3) rfl (by kernel_rfl) (by kernel_rfl) (by kernel_rfl) (fun _ _ _ h => h) (by rfl) (by assumption) ?hyy3 ?resty3
            case hyy3 => (intro w hSw; (try dsimp only at hSw); first | (go_simp; done) | (go_simp; with_reducible rfl))
            simp only [Act.put, List.setIfInBounds_toArray, List.set_cons_zero, List.set_cons_succ]
            refine take_yes (i := 4) (v := ?vy4) rfl (by kernel_rfl) (by kernel_rfl) (by kernel_rfl) (fun _ _ _ h => h) (by rfl) (by assumption) ?hyy4 ?resty4
            case hyy4 => (intro w hSw; (try dsimp only at hSw); first | (go_simp; done) | (go_simp; with_reducible rfl))
            simp only [Act.put, List.setIfInBounds_toArray, List.set_cons_zero, List.set_cons_succ]
            refine take_yes (i := 5) (v := ?vy5) rfl (by kernel_rfl) (by kernel_rfl) (by kernel_rfl) (fun _ _ _ h => h) (by rfl) (by assumption) ?hyy5 ?resty5
            case hyy5 => (intro w hSw; (try dsimp only at hSw); first | (go_simp; done) | (go_simp; with_reducible rfl))
            simp only [Act.put, List.setIfInBounds_toArray, List.set_cons_zero, List.set_cons_succ]
            refine take_yes (i := 6) (v := ?vy6) rfl (by kernel_rfl) (by kernel_rfl) (by kernel_rfl) (fun _ _ _ h => h) (by rfl) (by assumption) ?hyy6 ?resty6
            case hyy6 => (intro w hSw; (try dsimp only at hSw); first | (go_simp; done) | (go_simp; with_reducible rfl))
            simp only [Act.put, List.setIfInBounds_toArray, List.set_cons_zero, List.set_cons_succ]
            refine take_yes (i := 7) (v := ?vy7) rfl (by kernel_rfl) (by kernel_rfl) (by kernel_rfl) (fun _ _ _ h => h) (by rfl) (by assumption) ?hyy7 ?resty7
            case hyy7 => (intro w hSw; (try dsimp only at hSw); first | (go_simp; done) | (go_simp; with_reducible rfl))
            simp only [Act.put, List.setIfInBounds_toArray, List.set_cons_zero, List.set_cons_succ]
            refine take_yes (i := 8) (v := ?vy8) rfl (by kernel_rfl) (by kernel_rfl) (by kernel_rfl) (fun _ _ _ h => h) (by rfl) (by assumption) ?hyy8 ?resty8
            case hyy8 => (intro w hSw; (try dsimp only at hSw); first | (go_simp; done) | (go_simp; with_reducible rfl))
            simp only [Act.put, List.setIfInBounds_toArray, List.set_cons_zero, List.set_cons_succ]
            refine take_yes (i := 9) (v := ?vy9) rfl (by kernel_rfl) (by kernel_rfl) (by kernel_rfl) (fun _ _ _ h => h) (by rfl) (by assumption) ?hyy9 ?resty9
            case hyy9 => (intro w hSw; (try dsimp only at hSw); first | (go_simp; done) | (go_simp; with_reducible rfl))
            simp only [Act.put, List.setIfInBounds_toArray, List.set_cons_zero, List.set_cons_succ]
            refine take_yes (i := 10) (v := ?vy10) rfl (by kernel_rfl) (by kernel_rfl) (by kernel_rfl) (fun _ _ _ h => h) (by rfl) (by assumption) ?hyy10 ?resty10
            case hyy10 => (intro w hSw; (try dsimp only at hSw); first | (go_simp; done) | (go_simp; with_reducible rfl))
            simp only [Act.put, List.setIfInBounds_toArray, List.set_cons_zero, List.set_cons_succ]
            refine take_yes (i := 11) (v := ?vy11) rfl (by kernel_rfl) (by kernel_rfl) (by kernel_rfl) (fun _ _ _ h => h) (by rfl) (by assumption) ?hyy11 ?resty11
            case hyy11 => (intro w hSw; (try dsimp only at hSw); first | (go_simp; done) | (go_simp; with_reducible rfl))
            simp only [Act.put, List.setIfInBounds_toArray, List.set_cons_zero, List.set_cons_succ]
            refine take_yes (i := 12) (v := ?vy12) rfl (by kernel_rfl) (by kernel_rfl) (by kernel_rfl) (fun _ _ _ h => h) (by rfl) (by assumption) ?hyy12 ?resty12
            case hyy12 => (intro w hSw; (try dsimp only at hSw); first | (go_simp; done) | (go_simp; with_reducible rfl))
            simp only [Act.put, List.setIfInBounds_toArray, List.set_cons_zero, List.set_cons_succ]
            refine take_yes (i := 14) (v := ?vy14) rfl (by kernel_rfl) (by kernel_rfl) (by kernel_rfl) (fun _ _ _ h => h) (by rfl) (by assumption) ?hyy14 ?resty14
            case hyy14 => (intro w hSw; (try dsimp only at hSw); first | (go_simp; done) | (go_simp; with_reducible rfl))
            simp only [Act.put, List.setIfInBounds_toArray, List.set_cons_zero, List.set_cons_succ]
            refine take_call (i := 13) rfl (by kernel_rfl) (fun K hK => ?_)
            go_simp
            refine hK.out _ _ ?_ (fun hHeld => ?_)
            · first | exact ⟨c1, c2⟩ | exact ⟨keep_other c1 (by omega), keep_other c2 (by omega)⟩ | exact ⟨keep_set c1 (by omega), keep_set c2 (by omega)⟩
            clear hK K
            refine take_call (i := 15) rfl (by kernel_rfl) (fun K hK => ?_)
            go_simp
            (go_at_call 65; refine (mulAdd_any _ _ _ _ e0 e1 d0 d1 g0 g1 f0 f1 _).mono ?_; rintro e w' ⟨rfl, hw⟩; have hw := hw.symm; subst hw)
            refine hK.out _ _ ?_ (fun hHeld => ?_)
            · first | exact ⟨c1, c2⟩ | exact ⟨keep_other c1 (by omega), keep_other c2 (by omega)⟩ | exact ⟨keep_set c1 (by omega), keep_set c2 (by omega)⟩
            clear hK K
            refine take_yes (i := 16) (v := ?vy16) rfl (by kernel_rfl) (by kernel_rfl) (by kernel_rfl) (fun _ _ _ h => h) (by rfl) (by assumption) ?hyy16 ?resty16
            case hyy16 => (intro w hSw; (try dsimp only at hSw); first | (go_simp; done) | (go_simp; with_reducible rfl))
            simp only [Act.put, List.setIfInBounds_toArray, List.set_cons_zero, List.set_cons_succ]
            refine take_yes (i := 17) (v := ?vy17) rfl (by kernel_rfl) (by kernel_rfl) (by kernel_rfl) (fun _ _ _ h => h) (by rfl) (by assumption) ?hyy17 ?resty17
            case hyy17 => (intro w hSw; (try dsimp only at hSw); first | (go_simp; done) | (go_simp; with_reducible rfl))
            simp only [Act.put, List.setIfInBounds_toArray, List.set_cons_zero, List.set_cons_succ]
            refine take_yes (i := 18) (v := ?vy18) rfl (by kernel_rfl) (by kernel_rfl) (by kernel_rfl) (fun _ _ _ h => h) (by rfl) (by assumption) ?hyy18 ?resty18
            case hyy18 => (intro w hSw; (try dsimp only at hSw); first | (go_simp; done) | (go_simp; with_reducible rfl))
            simp only [Act.put, List.setIfInBounds_toArray, List.set_cons_zero, List.set_cons_succ]
            refine take_yes (i := 19) (v := ?vy19) rfl (by kernel_rfl) (by kernel_rfl) (by kernel_rfl) (fun _ _ _ h => h) (by rfl) (by assumption) ?hyy19 ?resty19
            case hyy19 => (intro w hSw; (try dsimp only at hSw); first | (go_simp; done) | (go_simp; with_reducible rfl))
            simp only [Act.put, List.setIfInBounds_toArray, List.set_cons_zero, List.set_cons_succ]
            refine take_yes (i := 20) (v := ?vy20) rfl (by kernel_rfl) (by kernel_rfl) (by kernel_rfl) (fun _ _ _ h => h) (by rfl) (by assumption) ?hyy20 ?resty20
            case hyy20 => (intro w hSw; (try dsimp only at hSw); first | (go_simp; done) | (go_simp; with_reducible rfl))
            simp only [Act.put, List.setIfInBounds_toArray, List.set_cons_zero, List.set_cons_succ]
            refine take_call (i := 21) rfl (by kernel_rfl) (fun K hK => ?_)
            go_simp
            refine hK.out _ _ ?_ (fun hHeld => ?_)
            · first | exact ⟨c1, c2⟩ | exact ⟨keep_other c1 (by omega), keep_other c2 (by omega)⟩ | exact ⟨keep_set c1 (by omega), keep_set c2 (by omega)⟩
            clear hK K
            refine wpAnyH_done (by kernel_rfl) ?_ _
            all_goals
              go_wp2
              go_roundw
              case rel => exact ⟨k + 1, by omega, by simp, by rw [HC.out], by rw [← Nat.add_assoc, HD.out]; first | exact HN.out.drewN 1 | exact HN.out⟩
              case measure => simp [intOf]; omega
          · obtain rfl : k = 2 := by omega
            have hn := hr.set (by omega) (by omega) (i + 2) (by rw [q.mix_length]; omega) (.int .u64 (q.cy (X % 18446744073709551616 ^ i * Y) (q.dg X i) Y i 2))
            rw [mix_done i hlt y0 y1] at hn
            have c3 : wr.cell? ⟨w.heap.size + 1 + 1 + 1 + 1 + 1, i + 2, none⟩ = some (.int .u64 (q.dg (X % 18446744073709551616 ^ i * Y) (i + 2))) := hr.rp.cell (i + 2) _ (q.mix_at _ _ _ _ _ (by omega) (Nat.le_refl _))
            have c4 : wr.frozen? ⟨w.heap.size + 1 + 1 + 1 + 1 + 1, i + 2, none⟩ = false := hr.rp.free (i + 2) (by rw [q.mix_length]; omega)
            clear hr
            go_wp2
            go_roundw
            case rel => exact ⟨i + 1, by omega, by simp, hn⟩
            case measure => simp [intOf]; omega
      · obtain rfl : i = 2 := by omega
        have eXY : X % 18446744073709551616 ^ 2 * Y = X * Y := by rw [pw2, Int.emod_eq_of_lt x0 x1]
        obtain ⟨rx, ry, rz, rp, bel, size⟩ := hr
        rw [eXY, qcells] at rp
        rw [qcells_0] at rz
        obtain ⟨c0, c1, c2, c3, _, _, _, _⟩ := row4 rp
        obtain ⟨z0, z1, z2, z3, u0, u1, u2, u3⟩ := row4 rz
        clear rx ry rp rz eXY
        go_wp2
        refine bodyPost_ret (v := .agg #[.int .u64 (q.dg (X * Y) 0), .int .u64 (q.dg (X * Y) 1), .int .u64 (q.dg (X * Y) 2), .int .u64 (q.dg (X * Y) 3)]) (by simp [results, Try.results48, go_sem, *]) rfl ⟨rfl, ?_⟩
        exact (((bel.setCell (by show _ ≤ w.heap.size + 1 + 1; omega) _).setCell (by show _ ≤ w.heap.size + 1 + 1; omega) _).setCell (by show _ ≤ w.heap.size + 1 + 1; omega) _).setCell (by show _ ≤ w.heap.size + 1 + 1; omega) _
end Go.Proofs.Ytnemailhijkemaa.lq
