/-
  Joined texts, part 2:
  Numbers as digits to the base 65536: which digits a sum, a difference, a product has. It imports nothing of the program.
  How many digits a number needs, to the base 65536, and its digits without noughts at the end. It imports nothing of the program.
  The arithmetic of a difference, and of a division by a small number, digit by digit. It imports nothing of the program.
  The arithmetic of a product, digit by digit. It imports nothing of the program.
  Digits to the base 65536, cut, joined, held against each other. It imports nothing of the program.
  A region whose order is open, an operation at a time: one that is wanted and yields in every world of interest, one that is not wanted, a call. It imports nothing of the program.
  What zelligeref03's Trim and Of answer.
  What nat's DivMod answers, where the divisor is nought, longer, or one word.
  Numbers as digits to the base 2: which digits a sum, a difference, a product has. It imports nothing of the program.
  How many digits a number needs, to the base 2, and its digits without noughts at the end. It imports nothing of the program.
  How many bits a number needs: math/bits.Len32 off the shelf, nat's Bits, and zelligeref03's Half and Bits.
  What nat's shiftUp and shiftDown answer, and math/bits.LeadingZeros32.
-/
import Derived.Test.YtcaihoomcdbfnaaGreatP1
import Derived.WalkKit
import Derived.Deep.RegionHeld3
import Derived.Deep.AppendLies
import Derived.Shelf.Small.Bits
import Derived.Shelf.Abstract
import Derived.Lib.ItoaNum
import Derived.BigQuiet
namespace Go.Proofs.YtcaihoomcdbfnaaGreat.hf
open Go.RowKit

/-- Digit i of v, to the base 65536 (of a number below nought: of v modulo as many digits as you like). -/
def dg (v : Int) (i : Nat) : Int := v / 65536 ^ i % 65536
theorem dg_range (v : Int) (i : Nat) : 0 ≤ dg v i ∧ dg v i < 65536 := by unfold dg; omega
theorem p256 (i : Nat) : (0 : Int) < 65536 ^ i := Int.pow_pos (by decide)
/-- n digits: at the places that p names those of u, at the others those of v. -/
def fill (n : Nat) (p : Nat → Bool) (u v : Int) : List Value := (List.range n).map fun j => .int .i64 (if p j then dg u j else dg v j)
def dcells (n : Nat) (v : Int) : List Value := (List.range n).map fun j => .int .i64 (dg v j)
def mix (n i : Nat) (u v : Int) : List Value := fill n (fun j => decide (j < i)) u v
theorem fill_length (n : Nat) (p : Nat → Bool) (u v : Int) : (fill n p u v).length = n := by simp [fill]
theorem mix_length (n i : Nat) (u v : Int) : (mix n i u v).length = n := fill_length _ _ _ _
theorem dcells_length (n : Nat) (v : Int) : (dcells n v).length = n := by simp [dcells]
theorem dcells_at (n : Nat) (v : Int) (i : Nat) (h : i < n) : (dcells n v)[i]? = some (.int .i64 (dg v i)) := by simp [dcells, h]
theorem fill_at (n : Nat) (p : Nat → Bool) (u v : Int) (i : Nat) (h : i < n) : (fill n p u v)[i]? = some (.int .i64 (if p i then dg u i else dg v i)) := by simp [fill, h]
theorem mix_at (n k : Nat) (u v : Int) (i : Nat) (h : i < n) (hk : k ≤ i) : (mix n k u v)[i]? = some (.int .i64 (dg v i)) := by
  rw [mix, fill_at _ _ _ _ _ h]; simp; omega
theorem fill_congr {n : Nat} {p q : Nat → Bool} {u v u' v' : Int} (h : ∀ j, j < n → (if p j then dg u j else dg v j) = (if q j then dg u' j else dg v' j)) : fill n p u v = fill n q u' v' := by
  unfold fill
  refine List.map_congr_left fun j hj => ?_
  rw [h j (by simpa using hj)]
theorem fill_set (n : Nat) (p : Nat → Bool) (u v : Int) (i : Nat) : (fill n p u v).set i (.int .i64 (dg u i)) = fill n (fun j => p j || j == i) u v := by
  refine List.ext_getElem? fun j => ?_
  rw [List.getElem?_set]
  by_cases e : i = j
  · subst e
    by_cases h : i < n
    · rw [if_pos rfl, if_pos (by rw [fill_length]; exact h), fill_at _ _ _ _ _ h]; simp
    · rw [if_pos rfl, if_neg (by rw [fill_length]; exact h), List.getElem?_eq_none (by rw [fill_length]; omega)]
  · by_cases h : j < n
    · rw [if_neg e, fill_at _ _ _ _ _ h, fill_at _ _ _ _ _ h]
      have e' : (j == i) = false := by simp; omega
      simp [e']
    · rw [if_neg e, List.getElem?_eq_none (by simp [fill_length]; omega), List.getElem?_eq_none (by simp [fill_length]; omega)]
theorem mix_set (n i : Nat) (u v : Int) : (mix n i u v).set i (.int .i64 (dg u i)) = mix n (i + 1) u v := by
  unfold mix
  rw [fill_set]
  refine fill_congr fun j _ => ?_
  have : (decide (j < i) || j == i) = decide (j < i + 1) := by rw [Bool.eq_iff_iff]; simp; omega
  rw [this]
theorem mix_zero (n : Nat) (u v : Int) : mix n 0 u v = dcells n v := by unfold mix fill dcells; simp
theorem mix_full (n : Nat) (u v : Int) : mix n n u v = dcells n u := by
  unfold mix fill dcells
  refine List.map_congr_left fun j hj => ?_
  have : j < n := by simpa using hj
  simp [this]
/-- The digits of two numbers that are the same modulo 65536^i are the same below place i. -/
theorem dg_congr {u v : Int} {i j : Nat} (t : Int) (h : u = v + t * 65536 ^ i) (hj : j < i) : dg u j = dg v j := by
  unfold dg
  obtain ⟨d, rfl⟩ : ∃ d, i = j + 1 + d := ⟨i - (j + 1), by omega⟩
  have e : t * (65536 : Int) ^ (j + 1 + d) = (65536 * (t * 65536 ^ d)) * 65536 ^ j := by
    rw [show j + 1 + d = d + 1 + j by omega, Int.pow_add, Int.pow_succ, ← Int.mul_assoc, ← Int.mul_assoc, Int.mul_comm (t * 65536 ^ d) 65536]
  rw [h, e, Int.add_mul_ediv_right _ _ (Int.ne_of_gt (p256 j))]
  omega
theorem dcells_congr {n : Nat} {u v : Int} (t : Int) (h : u = v + t * 65536 ^ n) : dcells n u = dcells n v := by
  unfold dcells
  refine List.map_congr_left fun j hj => ?_
  rw [dg_congr t h (by simpa using hj)]
/-- The carry into place i when x and y are added. -/
def carry (x y : Int) (i : Nat) : Int := (x % 65536 ^ i + y % 65536 ^ i) / 65536 ^ i
theorem carry_zero (x y : Int) : carry x y 0 = 0 := by simp [carry]
theorem emod_succ (x : Int) (i : Nat) : x % 65536 ^ (i + 1) = dg x i * 65536 ^ i + x % 65536 ^ i := by
  unfold dg
  have hp := p256 i
  have h1 := Int.mul_ediv_add_emod x (65536 ^ i)
  have h2 := Int.mul_ediv_add_emod (x / 65536 ^ i) 65536
  have b := Int.emod_nonneg x (Int.ne_of_gt hp)
  have b' := Int.emod_lt_of_pos x hp
  have c := Int.emod_nonneg (x / 65536 ^ i) (show (65536 : Int) ≠ 0 by decide)
  have c' := Int.emod_lt_of_pos (x / 65536 ^ i) (show (0 : Int) < 65536 by decide)
  have e : x = (x / 65536 ^ i % 65536 * 65536 ^ i + x % 65536 ^ i) + (x / 65536 ^ i / 65536) * 65536 ^ (i + 1) := by
    have : (x / 65536 ^ i / 65536) * (65536 : Int) ^ (i + 1) = (65536 * (x / 65536 ^ i / 65536)) * 65536 ^ i := by rw [Int.pow_succ, Int.mul_comm ((65536 : Int) ^ i) 65536, ← Int.mul_assoc, Int.mul_comm _ 65536]
    rw [this]
    have h3 : (65536 * (x / 65536 ^ i / 65536)) * (65536 : Int) ^ i + x / 65536 ^ i % 65536 * 65536 ^ i = x / 65536 ^ i * 65536 ^ i := by rw [← Int.add_mul, h2]
    have h4 : x / 65536 ^ i * (65536 : Int) ^ i = 65536 ^ i * (x / 65536 ^ i) := Int.mul_comm _ _
    omega
  have l0 : 0 ≤ x / 65536 ^ i % 65536 * 65536 ^ i + x % 65536 ^ i := Int.add_nonneg (Int.mul_nonneg c (Int.le_of_lt hp)) b
  have l1 : x / 65536 ^ i % 65536 * 65536 ^ i + x % 65536 ^ i < 65536 ^ (i + 1) := by
    have : x / 65536 ^ i % 65536 * (65536 : Int) ^ i ≤ 65535 * 65536 ^ i := Int.mul_le_mul_of_nonneg_right (by omega) (Int.le_of_lt hp)
    rw [Int.pow_succ]
    omega
  have key : x % 65536 ^ (i + 1) = (x / 65536 ^ i % 65536 * 65536 ^ i + x % 65536 ^ i) % 65536 ^ (i + 1) := by
    have := congrArg (· % (65536 : Int) ^ (i + 1)) e
    simpa [Int.add_mul_emod_self_right] using this
  rw [key, Int.emod_eq_of_lt l0 l1]
theorem carry_sum (x y : Int) (i : Nat) : (x % 65536 ^ (i + 1) + y % 65536 ^ (i + 1)) / 65536 ^ i = carry x y i + dg x i + dg y i := by
  rw [emod_succ, emod_succ]
  unfold carry
  have e : dg x i * 65536 ^ i + x % 65536 ^ i + (dg y i * 65536 ^ i + y % 65536 ^ i) = (x % 65536 ^ i + y % 65536 ^ i) + (dg x i + dg y i) * 65536 ^ i := by rw [Int.add_mul]; omega
  rw [e, Int.add_mul_ediv_right _ _ (Int.ne_of_gt (p256 i))]
  omega
theorem carry_succ (x y : Int) (i : Nat) : carry x y (i + 1) = (carry x y i + dg x i + dg y i) / 65536 := by
  rw [← carry_sum]
  show (x % 65536 ^ (i + 1) + y % 65536 ^ (i + 1)) / 65536 ^ (i + 1) = _
  have hp := p256 i
  rw [Int.pow_succ, Int.ediv_ediv, if_neg (by omega)]
  omega
theorem add_digit (x y : Int) (i : Nat) : (carry x y i + dg x i + dg y i) % 65536 = dg (x + y) i := by
  unfold dg carry
  have hp := p256 i
  have h1 := Int.mul_ediv_add_emod x (65536 ^ i)
  have h2 := Int.mul_ediv_add_emod y (65536 ^ i)
  have e : x + y = (x % 65536 ^ i + y % 65536 ^ i) + (x / 65536 ^ i + y / 65536 ^ i) * 65536 ^ i := by
    have a1 : x / 65536 ^ i * (65536 : Int) ^ i = 65536 ^ i * (x / 65536 ^ i) := Int.mul_comm _ _
    have a2 : y / 65536 ^ i * (65536 : Int) ^ i = 65536 ^ i * (y / 65536 ^ i) := Int.mul_comm _ _
    rw [Int.add_mul]; omega
  have e2 : (x + y) / 65536 ^ i = (x % 65536 ^ i + y % 65536 ^ i) / 65536 ^ i + (x / 65536 ^ i + y / 65536 ^ i) := by
    conv => lhs; rw [e]
    exact Int.add_mul_ediv_right _ _ (Int.ne_of_gt hp)
  rw [e2]
  omega
theorem carry_range (x y : Int) (i : Nat) : 0 ≤ carry x y i ∧ carry x y i ≤ 1 := by
  unfold carry
  have hp := p256 i
  have a := Int.emod_nonneg x (Int.ne_of_gt hp)
  have a' := Int.emod_lt_of_pos x hp
  have b := Int.emod_nonneg y (Int.ne_of_gt hp)
  have b' := Int.emod_lt_of_pos y hp
  refine ⟨Int.ediv_nonneg (by omega) (by omega), ?_⟩
  have : (x % 65536 ^ i + y % 65536 ^ i) / 65536 ^ i < 2 := Int.ediv_lt_of_lt_mul hp (by omega)
  omega
end Go.Proofs.YtcaihoomcdbfnaaGreat.hf

namespace Go.Proofs.YtcaihoomcdbfnaaGreat.hf
open Go.RowKit
set_option linter.unusedVariables false

/-- v needs n digits: none for nought. -/
def IsLen (v n : Nat) : Prop := v < 65536 ^ n ∧ (n = 0 ∨ 65536 ^ (n - 1) ≤ v)
theorem isLen_one {v n m : Nat} (h : IsLen v n) (h' : IsLen v m) : n = m := by
  obtain ⟨a, b⟩ := h
  obtain ⟨a', b'⟩ := h'
  rcases Nat.lt_trichotomy n m with e | e | e
  · rcases b' with b' | b'
    · omega
    · have := Nat.pow_le_pow_right (n := 65536) (by decide) (show n ≤ m - 1 by omega)
      omega
  · exact e
  · rcases b with b | b
    · omega
    · have := Nat.pow_le_pow_right (n := 65536) (by decide) (show m ≤ n - 1 by omega)
      omega
/-- A number below 65536^n has a length of n at most, and is found by cutting noughts off the end. -/
theorem isLen_cut : ∀ (n v : Nat), v < 65536 ^ n → ∃ m, m ≤ n ∧ IsLen v m
  | 0, v, h => ⟨0, Nat.le_refl _, h, Or.inl rfl⟩
  | n + 1, v, h => by
    by_cases c : v < 65536 ^ n
    · obtain ⟨m, h1, h2⟩ := isLen_cut n v c
      exact ⟨m, by omega, h2⟩
    · exact ⟨n + 1, Nat.le_refl _, h, Or.inr (by simp; omega)⟩
theorem lt_pow_self (v : Nat) : v < 65536 ^ v := Nat.lt_pow_self (by decide)
/-- How many digits v needs. -/
def nlen (v : Nat) : Nat := if h : v = 0 then 0 else nlen (v / 65536) + 1
  termination_by v
  decreasing_by exact Nat.div_lt_self (Nat.pos_of_ne_zero h) (by decide)
theorem nlen_is (v : Nat) : IsLen v (nlen v) := by
  induction v using Nat.strongRecOn with
  | ind v ih =>
    unfold nlen
    split
    · rename_i h
      rw [h]
      exact ⟨by decide, Or.inl rfl⟩
    · rename_i h
      obtain ⟨h1, h2⟩ := ih (v / 65536) (Nat.div_lt_self (Nat.pos_of_ne_zero h) (by decide))
      refine ⟨?_, Or.inr ?_⟩
      · rw [Nat.pow_succ]
        exact (Nat.div_lt_iff_lt_mul (by decide)).1 h1
      · rw [Nat.add_sub_cancel]
        rcases h2 with h2 | h2
        · rw [h2]
          exact Nat.pos_of_ne_zero h
        · rcases Nat.eq_zero_or_pos (nlen (v / 65536)) with h3 | h3
          · rw [h3]
            exact Nat.pos_of_ne_zero h
          · have h4 := (Nat.le_div_iff_mul_le (by decide)).1 h2
            rw [← Nat.pow_succ] at h4
            rwa [show (nlen (v / 65536) - 1).succ = nlen (v / 65536) by omega] at h4
theorem nlen_eq {v n : Nat} (h : IsLen v n) : nlen v = n := isLen_one (nlen_is v) h
theorem nlen_le {v n : Nat} (h : v < 65536 ^ n) : nlen v ≤ n := by
  obtain ⟨m, h1, h2⟩ := isLen_cut n v h
  rw [nlen_eq h2]; exact h1
theorem nlen_zero : nlen 0 = 0 := nlen_eq ⟨by decide, Or.inl rfl⟩
theorem nlen_lt (v : Nat) : v < 65536 ^ nlen v := (nlen_is v).1
theorem nlen_pos {v : Nat} (h : 0 < v) : 0 < nlen v := by
  rcases Nat.lt_or_ge 0 (nlen v) with l | l
  · exact l
  · have := nlen_lt v
    rw [show nlen v = 0 by omega] at this
    simp at this
    omega
/-- The longer number is the greater. -/
theorem lt_of_nlen {u v : Nat} (h : nlen u < nlen v) : u < v := by
  obtain ⟨_, b⟩ := nlen_is v
  rcases b with b | b
  · omega
  · have := nlen_lt u
    have := Nat.pow_le_pow_right (n := 65536) (by decide) (show nlen u ≤ nlen v - 1 by omega)
    omega
theorem pow_cast (k : Nat) : ((65536 ^ k : Nat) : Int) = (65536 : Int) ^ k := by rw [Int.natCast_pow]; rfl
theorem dg_nat (v k : Nat) : dg (v : Int) k = ((v / 65536 ^ k % 65536 : Nat) : Int) := by
  unfold dg
  rw [← pow_cast]
  omega
/-- The digit at a place that a number does not reach is nought; the highest one that it has is not. -/
theorem dg_over {v k : Nat} (h : v < 65536 ^ k) : dg (v : Int) k = 0 := by rw [dg_nat, Nat.div_eq_of_lt h]; rfl
theorem dg_top {v n : Nat} (h : IsLen v (n + 1)) : dg (v : Int) n ≠ 0 := by
  obtain ⟨a, b⟩ := h
  have b : 65536 ^ n ≤ v := by
    rcases b with b | b
    · omega
    · exact b
  rw [dg_nat]
  have h1 : 1 ≤ v / 65536 ^ n := (Nat.one_le_div_iff (Nat.pow_pos (by decide))).2 b
  have h2 : v / 65536 ^ n < 65536 := by
    rw [Nat.pow_succ] at a
    exact Nat.div_lt_of_lt_mul a
  rw [Nat.mod_eq_of_lt h2]
  omega
/-- One nought at the end cut off. -/
theorem lt_of_dg_zero {v n : Nat} (h : v < 65536 ^ (n + 1)) (z : dg (v : Int) n = 0) : v < 65536 ^ n := by
  rcases Nat.lt_or_ge v (65536 ^ n) with l | l
  · exact l
  · exact absurd z (dg_top ⟨h, Or.inr (by simpa using l)⟩)
/-- Two numbers of n digits with the same digits are the same. -/
theorem eq_of_dcells : ∀ (n : Nat) (u v : Nat), u < 65536 ^ n → v < 65536 ^ n → (∀ j, j < n → dg (u : Int) j = dg (v : Int) j) → u = v := by
  intro n
  induction n with
  | zero => intro u v hu hv _; simp at hu hv; omega
  | succ n ih =>
    intro u v hu hv h
    have e := ih (u % 65536 ^ n) (v % 65536 ^ n) (Nat.mod_lt _ (Nat.pow_pos (by decide))) (Nat.mod_lt _ (Nat.pow_pos (by decide))) (fun j hj => by
      have a : ∀ x : Nat, dg ((x % 65536 ^ n : Nat) : Int) j = dg (x : Int) j := fun x => by
        refine dg_congr (i := n) (-((x / 65536 ^ n : Nat) : Int)) ?_ hj
        have := Nat.mod_add_div x (65536 ^ n)
        rw [← pow_cast, Int.neg_mul, ← Int.natCast_mul, Nat.mul_comm (x / 65536 ^ n)]
        omega
      rw [a, a]
      exact h j (by omega))
    have t := h n (by omega)
    rw [dg_nat, dg_nat] at t
    have du : u / 65536 ^ n < 65536 := by rw [Nat.pow_succ] at hu; exact Nat.div_lt_of_lt_mul hu
    have dv : v / 65536 ^ n < 65536 := by rw [Nat.pow_succ] at hv; exact Nat.div_lt_of_lt_mul hv
    rw [Nat.mod_eq_of_lt du, Nat.mod_eq_of_lt dv] at t
    have t' : u / 65536 ^ n = v / 65536 ^ n := by omega
    have h1 := Nat.mod_add_div u (65536 ^ n)
    have h2 := Nat.mod_add_div v (65536 ^ n)
    rw [e, t'] at h1
    omega
end Go.Proofs.YtcaihoomcdbfnaaGreat.hf

namespace Go.Proofs.YtcaihoomcdbfnaaGreat.hf
open Go.RowKit
set_option linter.unusedVariables false

/-- The borrow, under a name. -/
def bor (x y : Int) : Int := if x < y then 1 else 0
/-- The borrow out of the places below i when y is taken off x. -/
def bw (x y : Int) (i : Nat) : Int := -((x % 65536 ^ i - y % 65536 ^ i) / 65536 ^ i)
theorem bw_zero (x y : Int) : bw x y 0 = 0 := by simp [bw, Int.emod_one]
theorem bw_sum (x y : Int) (i : Nat) : (x % 65536 ^ (i + 1) - y % 65536 ^ (i + 1)) / 65536 ^ i = dg x i - dg y i - bw x y i := by
  rw [emod_succ, emod_succ]
  unfold bw
  have e : dg x i * 65536 ^ i + x % 65536 ^ i - (dg y i * 65536 ^ i + y % 65536 ^ i) = (x % 65536 ^ i - y % 65536 ^ i) + (dg x i - dg y i) * 65536 ^ i := by rw [Int.sub_mul]; omega
  rw [e, Int.add_mul_ediv_right _ _ (Int.ne_of_gt (p256 i))]
  omega
theorem bw_range (x y : Int) (i : Nat) : 0 ≤ bw x y i ∧ bw x y i ≤ 1 := by
  unfold bw
  have hp := p256 i
  have a := Int.emod_nonneg x (Int.ne_of_gt hp)
  have a' := Int.emod_lt_of_pos x hp
  have b := Int.emod_nonneg y (Int.ne_of_gt hp)
  have b' := Int.emod_lt_of_pos y hp
  have h1 : (x % 65536 ^ i - y % 65536 ^ i) / 65536 ^ i < 1 := Int.ediv_lt_of_lt_mul hp (by omega)
  have h2 : -1 ≤ (x % 65536 ^ i - y % 65536 ^ i) / 65536 ^ i := Int.le_ediv_of_mul_le hp (by omega)
  omega
theorem bw_succ (x y : Int) (i : Nat) : bor (dg x i) (dg y i + bw x y i) = bw x y (i + 1) := by
  have e : bw x y (i + 1) = -((dg x i - dg y i - bw x y i) / 65536) := by
    rw [← bw_sum]
    show -((x % 65536 ^ (i + 1) - y % 65536 ^ (i + 1)) / 65536 ^ (i + 1)) = _
    have hp := p256 i
    rw [Int.pow_succ, Int.ediv_ediv, if_neg (by omega)]
    omega
  rw [e]
  have h := bw_range x y i
  have a := dg_range x i
  have b := dg_range y i
  unfold bor
  split <;> omega
theorem sub_digit (x y : Int) (i : Nat) : (dg x i - dg y i - bw x y i) % 65536 = dg (x - y) i := by
  unfold dg bw
  have hp := p256 i
  have h1 := Int.mul_ediv_add_emod x (65536 ^ i)
  have h2 := Int.mul_ediv_add_emod y (65536 ^ i)
  have e : x - y = (x % 65536 ^ i - y % 65536 ^ i) + (x / 65536 ^ i - y / 65536 ^ i) * 65536 ^ i := by
    have a1 : x / 65536 ^ i * (65536 : Int) ^ i = 65536 ^ i * (x / 65536 ^ i) := Int.mul_comm _ _
    have a2 : y / 65536 ^ i * (65536 : Int) ^ i = 65536 ^ i * (y / 65536 ^ i) := Int.mul_comm _ _
    rw [Int.sub_mul]; omega
  have e2 : (x - y) / 65536 ^ i = (x % 65536 ^ i - y % 65536 ^ i) / 65536 ^ i + (x / 65536 ^ i - y / 65536 ^ i) := by
    conv => lhs; rw [e]
    exact Int.add_mul_ediv_right _ _ (Int.ne_of_gt hp)
  rw [e2]
  omega
/-- Long division by d: what is left of the places from k + 1 on, and digit k, give digit k of the quotient, and what is left of the places from k on. -/
theorem long_div (v d : Int) (k : Nat) (hd : 0 < d) : (v / 65536 ^ (k + 1) % d * 65536 + dg v k) / d = v / 65536 ^ k / d - 65536 * (v / 65536 ^ (k + 1) / d) ∧ (v / 65536 ^ (k + 1) % d * 65536 + dg v k) % d = v / 65536 ^ k % d := by
  have hp := p256 k
  have e : v / 65536 ^ (k + 1) = v / 65536 ^ k / 65536 := by rw [Int.pow_succ, Int.ediv_ediv, if_neg (by omega)]; omega
  unfold dg
  rw [e]
  generalize v / 65536 ^ k = u
  have h1 : u / 65536 % d = u / 65536 - d * (u / 65536 / d) := by have := Int.mul_ediv_add_emod (u / 65536) d; omega
  have h2 : u / 65536 % d * 65536 + u % 65536 = u + (-(65536 * (u / 65536 / d))) * d := by
    rw [h1, Int.sub_mul, Int.neg_mul, Int.mul_comm d, Int.mul_assoc, Int.mul_comm d 65536, Int.mul_left_comm, Int.mul_assoc]
    omega
  rw [h2]
  refine ⟨?_, Int.add_mul_emod_self_right _ _ _⟩
  rw [Int.add_mul_ediv_right _ _ (by omega)]
  omega
end Go.Proofs.YtcaihoomcdbfnaaGreat.hf

namespace Go.Proofs.YtcaihoomcdbfnaaGreat.hf
set_option linter.unusedVariables false

/-- What stands below place i + k, and over it, when k digits of y have been taken times digit i of x. -/
def tk (O xi y : Int) (i k : Nat) : Int := O % 65536 ^ (i + k) + xi * 65536 ^ i * (y % 65536 ^ k)
def cy (O xi y : Int) (i k : Nat) : Int := tk O xi y i k / 65536 ^ (i + k)
theorem pow_ik (i k : Nat) : (65536 : Int) ^ (i + k) = 65536 ^ i * 65536 ^ k := Int.pow_add _ _ _
theorem tk_succ (O xi y : Int) (i k : Nat) : tk O xi y i (k + 1) = tk O xi y i k + (dg O (i + k) + xi * dg y k) * 65536 ^ (i + k) := by
  unfold tk
  rw [← Nat.add_assoc, emod_succ, emod_succ, Int.add_mul, Int.mul_add, pow_ik]
  have e : xi * 65536 ^ i * (dg y k * 65536 ^ k) = xi * dg y k * (65536 ^ i * 65536 ^ k) := by
    rw [Int.mul_assoc xi, Int.mul_left_comm (65536 ^ i) (dg y k), Int.mul_assoc xi (dg y k)]
  rw [e]; omega
theorem cy_sum (O xi y : Int) (i k : Nat) : tk O xi y i (k + 1) / 65536 ^ (i + k) = cy O xi y i k + dg O (i + k) + xi * dg y k := by
  rw [tk_succ, Int.add_mul_ediv_right _ _ (Int.ne_of_gt (p256 _))]; unfold cy; omega
theorem cy_succ (O xi y : Int) (i k : Nat) : cy O xi y i (k + 1) = (cy O xi y i k + dg O (i + k) + xi * dg y k) / 65536 := by
  rw [← cy_sum]
  show tk O xi y i (k + 1) / 65536 ^ (i + k + 1) = _
  have hp := p256 (i + k)
  rw [Int.pow_succ, Int.ediv_ediv, if_neg (by omega)]; omega
theorem mul_digit (O xi y : Int) (i k : Nat) : (cy O xi y i k + dg O (i + k) + xi * dg y k) % 65536 = dg (O + xi * 65536 ^ i * y) (i + k) := by
  rw [← cy_sum]
  show dg (tk O xi y i (k + 1)) (i + k) = _
  refine (dg_congr (i := i + k + 1) (O / 65536 ^ (i + k + 1) + xi * (y / 65536 ^ (k + 1))) ?_ (by omega)).symm
  unfold tk
  have h1 := Int.mul_ediv_add_emod O (65536 ^ (i + k + 1))
  have h2 := Int.mul_ediv_add_emod y (65536 ^ (k + 1))
  have e0 : i + (k + 1) = i + k + 1 := by omega
  rw [e0, Int.add_mul]
  have e1 : O / 65536 ^ (i + k + 1) * (65536 : Int) ^ (i + k + 1) = 65536 ^ (i + k + 1) * (O / 65536 ^ (i + k + 1)) := Int.mul_comm _ _
  have e2 : xi * (y / 65536 ^ (k + 1)) * (65536 : Int) ^ (i + k + 1) = xi * 65536 ^ i * (65536 ^ (k + 1) * (y / 65536 ^ (k + 1))) := by
    rw [← e0, pow_ik i (k + 1)]
    generalize (65536 : Int) ^ (k + 1) = K
    rw [Int.mul_assoc xi, Int.mul_assoc xi, Int.mul_left_comm (y / K) (65536 ^ i) K, Int.mul_comm (y / K) K]
  have e3 : xi * 65536 ^ i * y = xi * 65536 ^ i * (65536 ^ (k + 1) * (y / 65536 ^ (k + 1))) + xi * 65536 ^ i * (y % 65536 ^ (k + 1)) := by rw [← Int.mul_add, h2]
  rw [e1, e2, e3]; omega
theorem cy_zero (O xi y : Int) (i : Nat) : cy O xi y i 0 = 0 := by
  unfold cy tk
  have hp := p256 i
  have a := Int.emod_nonneg O (Int.ne_of_gt hp)
  have a' := Int.emod_lt_of_pos O hp
  have e : y % (65536 : Int) ^ 0 = 0 := by simp [Int.emod_one]
  rw [e]
  simp only [Nat.add_zero, Int.mul_zero, Int.add_zero]
  exact Int.ediv_eq_zero_of_lt a a'
theorem cy_range (O xi y : Int) (i k : Nat) (h0 : 0 ≤ xi) (h1 : xi < 65536) : 0 ≤ cy O xi y i k ∧ cy O xi y i k ≤ 65535 := by
  unfold cy tk
  have hp := p256 (i + k)
  have hi := p256 i
  have hk := p256 k
  have a := Int.emod_nonneg O (Int.ne_of_gt hp)
  have a' := Int.emod_lt_of_pos O hp
  have b := Int.emod_nonneg y (Int.ne_of_gt hk)
  have b' := Int.emod_lt_of_pos y hk
  have c : 0 ≤ xi * 65536 ^ i * (y % 65536 ^ k) := Int.mul_nonneg (Int.mul_nonneg h0 (Int.le_of_lt hi)) b
  have c' : xi * 65536 ^ i * (y % 65536 ^ k) ≤ 65535 * 65536 ^ (i + k) := by
    rw [pow_ik, ← Int.mul_assoc]
    exact Int.mul_le_mul (Int.mul_le_mul_of_nonneg_right (by omega) (Int.le_of_lt hi)) (by omega) b (Int.mul_nonneg (by decide) (Int.le_of_lt hi))
  refine ⟨Int.ediv_nonneg (by omega) (by omega), ?_⟩
  have : (O % 65536 ^ (i + k) + xi * 65536 ^ i * (y % 65536 ^ k)) / 65536 ^ (i + k) < 65536 := Int.ediv_lt_of_lt_mul hp (by omega)
  omega
theorem mul_next (x y : Int) (i : Nat) : x % 65536 ^ i * y + dg x i * 65536 ^ i * y = x % 65536 ^ (i + 1) * y := by rw [emod_succ, Int.add_mul]; omega
theorem mix_start (n i : Nat) (O xi y : Int) : mix n i (O + xi * 65536 ^ i * y) O = dcells n O := by
  rw [← mix_zero n O O]
  refine fill_congr fun j _ => ?_
  by_cases h : j < i
  · have e : dg (O + xi * 65536 ^ i * y) j = dg O j := dg_congr (i := i) (xi * y) (by rw [Int.mul_assoc, Int.mul_comm (65536 ^ i) y, ← Int.mul_assoc]) h
    simp [h, e]
  · simp [h]
end Go.Proofs.YtcaihoomcdbfnaaGreat.hf

namespace Go.Proofs.YtcaihoomcdbfnaaGreat.hf
open Go.RowKit
set_option linter.unusedVariables false

theorem dg_div (v : Int) (i j : Nat) : dg (v / 65536 ^ i) j = dg v (i + j) := by
  unfold dg
  have hp := p256 i
  rw [Int.pow_add, Int.ediv_ediv, if_neg (by omega)]
  omega
theorem dcells_take (n m : Nat) (v : Int) (h : m ≤ n) : (dcells n v).take m = dcells m v := by
  unfold dcells
  rw [← List.map_take, List.take_range, Nat.min_eq_left h]
theorem dcells_drop (n i : Nat) (v : Int) : (dcells n v).drop i = dcells (n - i) (v / 65536 ^ i) := by
  refine List.ext_getElem? fun j => ?_
  rw [List.getElem?_drop]
  by_cases h : i + j < n
  · rw [dcells_at _ _ _ h, dcells_at _ _ _ (by omega), dg_div]
  · rw [List.getElem?_eq_none (by rw [dcells_length]; omega), List.getElem?_eq_none (by rw [dcells_length]; omega)]
theorem dcells_join (n m : Nat) (u v : Int) : dcells n u ++ dcells m v = dcells (n + m) (u % 65536 ^ n + v * 65536 ^ n) := by
  refine List.ext_getElem? fun j => ?_
  by_cases h : j < n
  · rw [List.getElem?_append_left (by rw [dcells_length]; exact h), dcells_at _ _ _ h, dcells_at _ _ _ (by omega)]
    have h1 := Int.mul_ediv_add_emod u (65536 ^ n)
    rw [dg_congr (u := u) (v := u % 65536 ^ n + v * 65536 ^ n) (i := n) (u / 65536 ^ n - v) (by rw [Int.sub_mul]; have : u / 65536 ^ n * (65536 : Int) ^ n = 65536 ^ n * (u / 65536 ^ n) := Int.mul_comm _ _; omega) h]
  · rw [List.getElem?_append_right (by rw [dcells_length]; omega), dcells_length]
    by_cases h2 : j < n + m
    · rw [dcells_at _ _ _ (by omega), dcells_at _ _ _ h2]
      have hp := p256 n
      have a := Int.emod_nonneg u (Int.ne_of_gt hp)
      have a' := Int.emod_lt_of_pos u hp
      have e : (u % 65536 ^ n + v * 65536 ^ n) / 65536 ^ n = v := by
        rw [Int.add_mul_ediv_right _ _ (Int.ne_of_gt hp), Int.ediv_eq_zero_of_lt a a']; omega
      have := dg_div (u % 65536 ^ n + v * 65536 ^ n) n (j - n)
      rw [e, show n + (j - n) = j by omega] at this
      rw [this]
    · rw [List.getElem?_eq_none (by rw [dcells_length]; omega), List.getElem?_eq_none (by rw [dcells_length]; omega)]
theorem dcells_zero (n : Nat) : dcells n 0 = List.replicate n (.int .i64 0) := by
  refine List.ext_getElem? fun j => ?_
  by_cases h : j < n
  · rw [dcells_at _ _ _ h, List.getElem?_replicate, if_pos h]; simp [dg]
  · rw [List.getElem?_eq_none (by rw [dcells_length]; omega), List.getElem?_eq_none (by simp; omega)]
theorem dcells_succ (t : Nat) (a : Int) : dcells (t + 1) a = dcells t a ++ [.int .i64 (dg a t)] := by
  unfold dcells; rw [List.range_succ, List.map_append]; rfl
theorem nlen_eq_zero {u : Nat} : nlen u = 0 ↔ u = 0 := by
  refine ⟨fun h => ?_, fun h => by rw [h, nlen_zero]⟩
  have := nlen_lt u
  rw [h] at this
  simpa using this
/-- Two numbers, held against each other from the highest digit on. -/
theorem div_step (u k : Nat) : u / 65536 ^ k = 65536 * (u / 65536 ^ (k + 1)) + u / 65536 ^ k % 65536 := by
  rw [Nat.pow_succ, ← Nat.div_div_eq_div_mul]; omega
theorem lt_of_top {u v k : Nat} (h : u / 65536 ^ (k + 1) = v / 65536 ^ (k + 1)) (hd : dg (u : Int) k < dg (v : Int) k) : u < v := by
  rw [dg_nat, dg_nat] at hd
  have h1 := div_step u k
  have h2 := div_step v k
  rcases Nat.lt_or_ge u v with l | l
  · exact l
  · have := Nat.div_le_div_right (c := 65536 ^ k) l
    omega
theorem quot_digit (v d : Int) (k : Nat) (hd : 0 < d) : (v / 65536 ^ (k + 1) % d * 65536 + dg v k) / d = dg (v / d) k := by
  rw [(long_div v d k hd).1]
  have hp := p256 k
  have hp1 := p256 (k + 1)
  have e1 : v / d / 65536 ^ k = v / 65536 ^ k / d := by rw [Int.ediv_ediv, if_neg (by omega), Int.ediv_ediv, if_neg (by omega), Int.mul_comm]
  have e2 : v / d / 65536 ^ (k + 1) = v / 65536 ^ (k + 1) / d := by rw [Int.ediv_ediv, if_neg (by omega), Int.ediv_ediv, if_neg (by omega), Int.mul_comm]
  have e3 : ∀ x : Int, x / 65536 ^ (k + 1) = x / 65536 ^ k / 65536 := fun x => by rw [Int.pow_succ, Int.ediv_ediv, if_neg (by omega)]; omega
  unfold dg
  rw [← e2, e3, ← e1]
  omega
/-- Cells from place k on those of u, below it those of v. -/
def xim (n k : Nat) (u v : Int) : List Value := fill n (fun j => decide (k ≤ j)) u v
theorem xim_at (n k : Nat) (u v : Int) (i : Nat) (h : i < n) (hk : i < k) : (xim n k u v)[i]? = some (.int .i64 (dg v i)) := by
  rw [xim, fill_at _ _ _ _ _ h]; simp; omega
theorem xim_set (n k : Nat) (u v : Int) : (xim n (k + 1) u v).set k (.int .i64 (dg u k)) = xim n k u v := by
  unfold xim
  rw [fill_set]
  refine fill_congr fun j _ => ?_
  have : (decide (k + 1 ≤ j) || j == k) = decide (k ≤ j) := by rw [Bool.eq_iff_iff]; simp; omega
  rw [this]
theorem xim_full (n : Nat) (u v : Int) : xim n n u v = dcells n v := by
  unfold xim fill dcells
  refine List.map_congr_left fun j hj => ?_
  have : ¬ n ≤ j := by have : j < n := by simpa using hj
                       omega
  simp [this]
theorem xim_zero (n : Nat) (u v : Int) : xim n 0 u v = dcells n u := by unfold xim fill dcells; simp
theorem pow_nat (k : Nat) : 0 < 65536 ^ k := Nat.pow_pos (by decide)
end Go.Proofs.YtcaihoomcdbfnaaGreat.hf

namespace Go.Proofs.YtcaihoomcdbfnaaGreat
variable {P : Program} {md : Region.Mode} {Q : Exit → Act → World → Prop} {S : World → Prop}

theorem take_yes {l : List Oper} {i : Nat} {oi : Oper} {v : Value} {fuel : Nat} {listed : Array Bool} {a : Act} {w : World} (hi : l[i]? = some oi)
    (hs : Region.noSelect l.toArray = true) (hf : Region.free md l.toArray listed i = true) (hr : (Region.ready md l.toArray listed).contains i = true)
    (hQ : ∀ c a w, Q (.panic c) (a.put oi.dst v) w → Q (.panic c) a w) (hw : Region.wanted oi (yielded l.toArray a.tmps) = true) (hS : S w)
    (hy : ∀ w, S w → (execOp a.eval oi).run P w = .ok (.value v) w)
    (h : wpAnyH P md l.toArray Q S fuel (listed.setIfInBounds i true) (a.put oi.dst v) w) : wpAnyH P md l.toArray Q S (fuel + 1) listed a w :=
  wpAnyH_take (by simpa using hi) hs hf hr hQ (Or.inl ⟨hw, hy⟩) hS h
theorem take_no {l : List Oper} {i : Nat} {oi : Oper} {fuel : Nat} {listed : Array Bool} {a : Act} {w : World} (hi : l[i]? = some oi)
    (hs : Region.noSelect l.toArray = true) (hf : Region.free md l.toArray listed i = true) (hr : (Region.ready md l.toArray listed).contains i = true)
    (hQ : ∀ c a w, Q (.panic c) (a.put oi.dst undef) w → Q (.panic c) a w) (hw : Region.wanted oi (yielded l.toArray a.tmps) = false) (hS : S w)
    (h : wpAnyH P md l.toArray Q S fuel (listed.setIfInBounds i true) (a.put oi.dst undef) w) : wpAnyH P md l.toArray Q S (fuel + 1) listed a w :=
  wpAnyH_take (v := undef) (by simpa using hi) hs hf hr hQ (Or.inr ⟨hw, rfl⟩) hS h
theorem take_call {l : List Oper} {i : Nat} {o : Oper} {fuel : Nat} {listed : Array Bool} {a : Act} {w : World} (ho : l[i]? = some o) (hr : Region.ready md l.toArray listed = [i])
    (h : ∀ K' : Act → World → Prop, Shut (∀ a w, S w → (S w → wpAnyH P md l.toArray Q S fuel (listed.setIfInBounds i true) a w) → K' a w) → if Region.wanted o (yielded l.toArray a.tmps) = true then Oper.wp P o a w K' Q else K' (a.put o.dst undef) w) :
    wpAnyH P md l.toArray Q S (fuel + 1) listed a w :=
  wpAnyH_ready hr (by simp) (AllReadyH.cons (by simpa using ho) h AllReadyH.nil)
end Go.Proofs.YtcaihoomcdbfnaaGreat

namespace Go.Proofs.YtcaihoomcdbfnaaGreat
open Go.RowKit
set_option linter.unusedVariables false

set_option maxRecDepth 100000 in
set_option maxHeartbeats 400000 in
theorem rtrim_own (a : Option Addr) (l cap u base : Nat) (w : World) (hown : Own w base 3 a l cap (hf.dcells l (u : Int))) (hu : u < 65536 ^ l) :
    Calls Tryz.prog 74 #[.slice a l cap] w fun e w' => e = .returned (.slice a (hf.nlen u) cap) ∧ w = w' ∧ Own w base 3 a (hf.nlen u) cap (hf.dcells (hf.nlen u) (u : Int)) := by
  have hs := Own.sl hown
  have hcap := hs.big
  have hroom := hs.room
  unfold maxLen at hcap
  have HO : Hid (Own w base 3 a (hf.nlen u) cap (hf.dcells (hf.nlen u) (u : Int))) := by
    have := Own.take hown (hf.nlen_le hu)
    rwa [hf.dcells_take _ _ _ (hf.nlen_le hu)] at this
  have hsh : (a = none ∧ cap = 0) ∨ ∃ g, a = some ⟨g, 0, none⟩ := by
    obtain ⟨_, ⟨h1, _⟩ | ⟨g, cap', cur, hv, _⟩⟩ := hown
    · cases h1; exact Or.inl ⟨rfl, rfl⟩
    · cases hv; exact Or.inr ⟨g, rfl⟩
  rcases hsh with ⟨rfl, rfl⟩ | ⟨g, rfl⟩
  · obtain rfl : l = 0 := by omega
    have hz : Hid (hf.nlen u = 0) := hf.nlen_eq_zero.2 (by simpa using hu)
    clear hown hs
    go_enter Tryz.func74, Tryz.ntmps74
    go_wp2
    go_loop [3] (fun i => i = .int .i64 0) (fun i => (intOf i).toNat)
    case atStart => rfl
    case round =>
      obtain rfl := hrel
      go_wp2
      go_ret
      exact ⟨by rw [hz.out]; rfl, rfl, HO.out⟩
  · go_enter Tryz.func74, Tryz.ntmps74
    go_wp2
    go_loop [3] (fun i => ∃ k : Nat, k ≤ l ∧ u < 65536 ^ k ∧ i = .int .i64 (k : Int)) (fun i => (intOf i).toNat)
    case atStart => exact ⟨l, Nat.le_refl _, hu, rfl⟩
    case round =>
      obtain ⟨k, hk, huk, rfl⟩ := hrel
      rcases k with _ | k
      · have hz : Hid (hf.nlen u = 0) := hf.nlen_eq_zero.2 (by simpa using huk)
        clear hu huk
        go_wp2
        go_ret
        exact ⟨by rw [hz.out]; rfl, rfl, HO.out⟩
      · have c1 : w.cell? ⟨g, k, none⟩ = some (.int .i64 (hf.dg u k)) := Own.cell hown k _ (hf.dcells_at _ _ _ (by omega))
        have e1 : ((k + 1 : Nat) : Int) - 1 = (k : Int) := by omega
        by_cases hd : hf.dg (u : Int) k = 0
        · have hd' : (hf.dg (u : Int) k == 0) = true := by rw [hd]; rfl
          have Hn : Hid (u < 65536 ^ k) := hf.lt_of_dg_zero huk hd
          clear hd huk hu hown
          go_wp2
          go_round
          case rel => exact ⟨k, by omega, Hn.out, by go_num⟩
          case measure => simp [intOf]
        · have hd' : (hf.dg (u : Int) k == 0) = false := by simpa using hd
          have Hl : Hid (hf.nlen u = k + 1) := by
            refine hf.nlen_eq ⟨huk, Or.inr ?_⟩
            rcases Nat.lt_or_ge u (65536 ^ k) with h | h
            · exact absurd (hf.dg_over h) hd
            · simpa using h
          clear hd huk hu hown
          go_wp2
          go_ret
          exact ⟨by rw [Hl.out]; rfl, rfl, HO.out⟩

/-- Two digits for each word. -/
theorem halves (u : Int) (k : Nat) : hf.dg u (2 * k) = wd.dg u k % 65536 ∧ hf.dg u (2 * k + 1) = wd.dg u k / 65536 := by
  unfold hf.dg wd.dg
  have e : (65536 : Int) ^ (2 * k) = 4294967296 ^ k := by rw [Int.pow_mul]; rfl
  have e2 : (65536 : Int) ^ (2 * k + 1) = 4294967296 ^ k * 65536 := by rw [Int.pow_succ, e]
  have hp := wd.p256 k
  rw [e, e2]
  have : u / (4294967296 ^ k * 65536) = u / 4294967296 ^ k / 65536 := by rw [Int.ediv_ediv, if_neg (by omega)]; omega
  rw [this]
  omega
theorem pow_halves (k : Nat) : 65536 ^ (2 * k) = 4294967296 ^ k := by rw [Nat.pow_mul]
theorem hf_two (t : Nat) (u : Int) : hf.dcells (2 * (t + 1)) u = hf.dcells (2 * t) u ++ [.int .i64 (wd.dg u t % 65536), .int .i64 (wd.dg u t / 65536)] := by
  rw [show 2 * (t + 1) = 2 * t + 1 + 1 by omega, hf.dcells_succ, hf.dcells_succ, (halves u t).1, (halves u t).2, List.append_assoc]
  rfl
/-- What holds at the head of each round. -/
def OfRel (w : World) (u l : Nat) (v i : Value) (wr : World) : Prop := ∃ (k cap : Nat) (a : Option Addr), k ≤ l ∧ i = .int .i64 (k : Int) ∧ v = .slice a (2 * k) cap ∧ Own wr w.heap.size 3 a (2 * k) cap (hf.dcells (2 * k) (u : Int)) ∧ Below w.heap.size w wr
theorem ofRel_next {w wr w2 w4 : World} {u l k cap cap' g' : Nat} {a : Option Addr} (hk : k < l) (hown : Own wr w.heap.size 3 a (2 * k) cap (hf.dcells (2 * k) (u : Int))) (hbel : Below w.heap.size w wr)
    (h4 : w4.ownsRow w.heap.size 3 1 (.slice (some ⟨g', 0, none⟩) (2 * k + 2) cap') (2 * k + 2) (hf.dcells (2 * k) (u : Int) ++ [.int .i64 (wd.dg u k % 65536), .int .i64 (wd.dg u k / 65536)]))
    (h2 : Below wr.heap.size wr w2) (hgr : w2.grownBy w4 (Value.slice a (2 * k) cap).ownBlock) : OfRel w u l (.slice (some ⟨g', 0, none⟩) (2 * k + 2) cap') (.int .i64 ((k : Int) + 1)) w4 := by
  have hs := hbel.size
  refine ⟨k + 1, cap', _, hk, by simp, rfl, ?_, (hbel.trans (h2.mono hs)).grown hgr (by have := h2.size; omega) (fun k' hk' => (World.ownsRow.lt hown k' hk').1)⟩
  rw [hf_two]
  exact h4
theorem own_empty (w : World) (base : Nat) (T : TypeId) (hb : base ≤ w.heap.size) : Own (w.alloc (.cells #[] T)) base T (some ⟨w.heap.size, 0, none⟩) 0 0 [] := World.ownsRow_lit w #[] 0 hb (by decide) rfl
set_option maxRecDepth 100000 in
set_option maxHeartbeats 1000000 in
theorem rof_any (a : Option Addr) (l ca u : Nat) (w : World) (ha : Sl w a l ca (wd.dcells l (u : Int))) (hu : u < 4294967296 ^ l) (hl : l ≤ 1000000000) :
    Calls Tryz.prog 38 #[.slice a l ca] w fun e w' => ∃ a' cap', e = .returned (.slice a' (hf.nlen u) cap') ∧ Own w' w.heap.size 3 a' (hf.nlen u) cap' (hf.dcells (hf.nlen u) (u : Int)) ∧ Below w.heap.size w w' := by
  obtain ⟨i0, hi0, hz0, hz1, hz2⟩ := info_parts infoInt
  have HU : Hid (u < 65536 ^ (2 * l)) := by unfold Hid; rw [pow_halves]; exact hu
  have hown0 := own_empty w w.heap.size 3 (Nat.le_refl _)
  clear hu
  go_enter Tryz.func38, Tryz.ntmps38
  go_wp2
  go_loopw [3, 4] (fun v i wr => OfRel w u l v i wr) (fun _ i _ => l - (intOf i).toNat)
  case atStart => exact ⟨0, 0, _, by omega, rfl, rfl, hown0, (Below.refl _ _).alloc (Nat.le_refl _) _⟩
  case round =>
    clear hown0
    obtain ⟨k, cap, v, hk, rfl, rfl, hown, hbel⟩ := hrel
    by_cases hlt : k < l
    · obtain ⟨ba, oa, rfl, hba, hseg⟩ := ha.at (by omega)
      have hroom := ha.room
      have c0 : w.cell? ⟨ba, oa + k, none⟩ = some (.int .u32 (wd.dg u k)) := hseg.cell k _ (wd.dcells_at _ _ _ hlt)
      have c1 : wr.cell? ⟨ba, oa + k, none⟩ = some (.int .u32 (wd.dg u k)) := (hbel.cell (p := ⟨ba, oa + k, none⟩) hba).trans (hseg.cell k _ (wd.dcells_at _ _ _ hlt))
      have hsz := hbel.size
      have hba2 : ba < wr.heap.size := by omega
      obtain ⟨d0, d1⟩ := wd.dg_range u k
      have E1 : IntKind.i64.wrap ((wd.dg (u : Int) k).tmod 65536) = wd.dg u k % 65536 := by rw [Int.tmod_eq_emod_of_nonneg d0, IntKind.wrap_i64]; omega
      have E2 : IntKind.i64.wrap (IntKind.u32.wrap ((wd.dg (u : Int) k).tdiv 65536)) = wd.dg u k / 65536 := by rw [Int.tdiv_eq_ediv_of_nonneg d0, IntKind.wrap_u32', IntKind.wrap_i64]; omega
      have HN : Hid _ := fun w2 w4 g' cap' => ofRel_next (w2 := w2) (w4 := w4) (g' := g') (cap' := cap') hlt hown hbel
      go_wp2
      refine wp_region_held_drew (S := (fun w' => w'.cell? ⟨ba, oa + k, none⟩ = some (.int .u32 (wd.dg u k)) ∧ Below w.heap.size w w')) (by kernel_rfl) ?_ (fun hHeld => ?_)
      · first | exact ⟨c1, hbel⟩ | exact ⟨c1, hbel.drew⟩ | exact ⟨((hHeld.2.alloc hHeld.2.size _).cell (p := ⟨ba, oa + k, none⟩) hba).trans c0, hHeld.2.alloc hHeld.2.size _⟩ | exact ⟨((hbel.alloc hbel.size _).drew.cell (p := ⟨ba, oa + k, none⟩) hba).trans c0, (hbel.alloc hbel.size _).drew⟩
      refine take_yes (i := 0) (v := ?vo0) rfl (by kernel_rfl) (by kernel_rfl) (by kernel_rfl) (fun _ _ _ h => h) (by rfl) (by assumption) ?hyo0 ?resto0
      case hyo0 => (intro w hSw; (try dsimp only at hSw); first | (go_simp; done) | (go_simp; with_reducible rfl))
      simp only [Act.put, List.setIfInBounds_toArray, List.set_cons_zero, List.set_cons_succ]
      refine take_yes (i := 1) (v := ?vo1) rfl (by kernel_rfl) (by kernel_rfl) (by kernel_rfl) (fun _ _ _ h => h) (by rfl) (by assumption) ?hyo1 ?resto1
      case hyo1 => (intro w hSw; (try dsimp only at hSw); first | (go_simp; done) | (go_simp; with_reducible rfl))
      simp only [Act.put, List.setIfInBounds_toArray, List.set_cons_zero, List.set_cons_succ]
      refine take_yes (i := 2) (v := ?vo2) rfl (by kernel_rfl) (by kernel_rfl) (by kernel_rfl) (fun _ _ _ h => h) (by rfl) (by assumption) ?hyo2 ?resto2
      case hyo2 => (intro w hSw; (try dsimp only at hSw); first | (go_simp; done) | (go_simp; with_reducible rfl))
      simp only [Act.put, List.setIfInBounds_toArray, List.set_cons_zero, List.set_cons_succ]
      refine take_yes (i := 3) (v := ?vo3) rfl (by kernel_rfl) (by kernel_rfl) (by kernel_rfl) (fun _ _ _ h => h) (by rfl) (by assumption) ?hyo3 ?resto3
      case hyo3 => (intro w hSw; (try dsimp only at hSw); first | (go_simp; done) | (go_simp; with_reducible rfl))
      simp only [Act.put, List.setIfInBounds_toArray, List.set_cons_zero, List.set_cons_succ]
      refine take_yes (i := 4) (v := ?vo4) rfl (by kernel_rfl) (by kernel_rfl) (by kernel_rfl) (fun _ _ _ h => h) (by rfl) (by assumption) ?hyo4 ?resto4
      case hyo4 => (intro w hSw; (try dsimp only at hSw); first | (go_simp; done) | (go_simp; with_reducible rfl))
      simp only [Act.put, List.setIfInBounds_toArray, List.set_cons_zero, List.set_cons_succ]
      refine take_yes (i := 5) (v := ?vo5) rfl (by kernel_rfl) (by kernel_rfl) (by kernel_rfl) (fun _ _ _ h => h) (by rfl) (by assumption) ?hyo5 ?resto5
      case hyo5 => (intro w hSw; (try dsimp only at hSw); first | (go_simp; done) | (go_simp; with_reducible rfl))
      simp only [Act.put, List.setIfInBounds_toArray, List.set_cons_zero, List.set_cons_succ]
      refine take_yes (i := 6) (v := ?vo6) rfl (by kernel_rfl) (by kernel_rfl) (by kernel_rfl) (fun _ _ _ h => h) (by rfl) (by assumption) ?hyo6 ?resto6
      case hyo6 => (intro w hSw; (try dsimp only at hSw); first | (go_simp; done) | (go_simp; with_reducible rfl))
      simp only [Act.put, List.setIfInBounds_toArray, List.set_cons_zero, List.set_cons_succ]
      refine take_yes (i := 7) (v := ?vo7) rfl (by kernel_rfl) (by kernel_rfl) (by kernel_rfl) (fun _ _ _ h => h) (by rfl) (by assumption) ?hyo7 ?resto7
      case hyo7 => (intro w hSw; (try dsimp only at hSw); first | (go_simp; done) | (go_simp; with_reducible rfl))
      simp only [Act.put, List.setIfInBounds_toArray, List.set_cons_zero, List.set_cons_succ]
      refine take_yes (i := 8) (v := ?vo8) rfl (by kernel_rfl) (by kernel_rfl) (by kernel_rfl) (fun _ _ _ h => h) (by rfl) (by assumption) ?hyo8 ?resto8
      case hyo8 => (intro w hSw; (try dsimp only at hSw); first | (go_simp; done) | (go_simp; with_reducible rfl))
      simp only [Act.put, List.setIfInBounds_toArray, List.set_cons_zero, List.set_cons_succ]
      refine take_yes (i := 9) (v := ?vo9) rfl (by kernel_rfl) (by kernel_rfl) (by kernel_rfl) (fun _ _ _ h => h) (by rfl) (by assumption) ?hyo9 ?resto9
      case hyo9 => (intro w hSw; (try dsimp only at hSw); first | (go_simp; done) | (go_simp; with_reducible rfl))
      simp only [Act.put, List.setIfInBounds_toArray, List.set_cons_zero, List.set_cons_succ]
      refine take_yes (i := 10) (v := ?vo10) rfl (by kernel_rfl) (by kernel_rfl) (by kernel_rfl) (fun _ _ _ h => h) (by rfl) (by assumption) ?hyo10 ?resto10
      case hyo10 => (intro w hSw; (try dsimp only at hSw); first | (go_simp; done) | (go_simp; with_reducible rfl))
      simp only [Act.put, List.setIfInBounds_toArray, List.set_cons_zero, List.set_cons_succ]
      refine take_yes (i := 11) (v := ?vo11) rfl (by kernel_rfl) (by kernel_rfl) (by kernel_rfl) (fun _ _ _ h => h) (by rfl) (by assumption) ?hyo11 ?resto11
      case hyo11 => (intro w hSw; (try dsimp only at hSw); first | (go_simp; done) | (go_simp; with_reducible rfl))
      simp only [Act.put, List.setIfInBounds_toArray, List.set_cons_zero, List.set_cons_succ]
      refine take_yes (i := 12) (v := ?vo12) rfl (by kernel_rfl) (by kernel_rfl) (by kernel_rfl) (fun _ _ _ h => h) (by rfl) (by assumption) ?hyo12 ?resto12
      case hyo12 => (intro w hSw; (try dsimp only at hSw); first | (go_simp; done) | (go_simp; with_reducible rfl))
      simp only [Act.put, List.setIfInBounds_toArray, List.set_cons_zero, List.set_cons_succ]
      refine take_call (i := 13) rfl (by kernel_rfl) (fun K hK => ?_)
      go_simp
      refine hK.out _ _ ?_ (fun hHeld => ?_)
      · first | exact ⟨c1, hbel⟩ | exact ⟨c1, hbel.drew⟩ | exact ⟨((hHeld.2.alloc hHeld.2.size _).cell (p := ⟨ba, oa + k, none⟩) hba).trans c0, hHeld.2.alloc hHeld.2.size _⟩ | exact ⟨((hbel.alloc hbel.size _).drew.cell (p := ⟨ba, oa + k, none⟩) hba).trans c0, (hbel.alloc hbel.size _).drew⟩
      clear hK K
      refine take_call (i := 14) rfl (by kernel_rfl) (fun K hK => ?_)
      refine step_append_lies _ rfl (.tmp 12) (.tmp 25) 36 rfl w.heap.size 3 i0 (.int .i64 0) 1 8 Tryz.underlying36 hi0 hz0 hz1 hz2 rfl (by decide) (.slice v (2 * k) cap) (2 * k) (hf.dcells (2 * k) (u : Int)) rfl (World.ownsRow.alloc hown _) ⟨wr.heap.size, 0, none⟩ 2 2 [.int .i64 (wd.dg u k % 65536), .int .i64 (wd.dg u k / 65536)] rfl rfl (World.news_of_block (heap_alloc_new wr _)) (ints_oneCell .i64 [wd.dg u k % 65536, wd.dg u k / 65536]) (by decide) (by unfold maxLen; omega) (by omega) (by simp; omega) _ rfl ?_; intro g' cap' w4 hown4 hgrow4 hat4 hlt4
      refine hK.out _ _ ?_ (fun hHeld => ?_)
      · exact ⟨(((hHeld.2.grown hgrow4 (by simp; omega) (fun k' hk' => (World.ownsRow.lt hown k' hk').1))).cell (p := ⟨ba, oa + k, none⟩) hba).trans c0, hHeld.2.grown hgrow4 (by simp; omega) (fun k' hk' => (World.ownsRow.lt hown k' hk').1)⟩
      clear hK K
      refine take_yes (i := 15) (v := ?vo15) rfl (by kernel_rfl) (by kernel_rfl) (by kernel_rfl) (fun _ _ _ h => h) (by rfl) (by assumption) ?hyo15 ?resto15
      case hyo15 => (intro w hSw; (try dsimp only at hSw); first | (go_simp; done) | (go_simp; with_reducible rfl))
      simp only [Act.put, List.setIfInBounds_toArray, List.set_cons_zero, List.set_cons_succ]
      refine wpAnyH_done (by kernel_rfl) ?_ _
      go_wp2
      go_roundw
      case rel => exact HN.out _ w4 g' cap' hown4 ((Below.refl _ _).alloc (Nat.le_refl _) _).drew hgrow4
      case measure => simp [intOf]; omega
    · obtain rfl : k = l := by omega
      go_wp2_with (go_at_call 74; refine (rtrim_own _ _ _ u _ _ hown HU.out).mono ?_; rintro e w' ⟨rfl, hw, hown2⟩; subst hw)
      go_ret
      exact ⟨v, cap, rfl, hown2, hbel⟩
end Go.Proofs.YtcaihoomcdbfnaaGreat

namespace Go.Proofs.YtcaihoomcdbfnaaGreat
open Go.RowKit
set_option linter.unusedVariables false

/-- Two numbers, in memory of the call's own, and no error. -/
def Both (w : World) (q r : Nat) (e : Ending) (w' : World) : Prop := ∃ aq cq ar cr, e = .returned (.tuple #[.slice aq (wd.nlen q) cq, .slice ar (wd.nlen r) cr, .int .i64 0]) ∧
  Own w' w.heap.size 115 aq (wd.nlen q) cq (wd.dcells (wd.nlen q) (q : Int)) ∧ Own w' w.heap.size 115 ar (wd.nlen r) cr (wd.dcells (wd.nlen r) (r : Int)) ∧ Below w.heap.size w w'

theorem strip_to (m : Nat) (a : Option Addr) (l cap u : Nat) (w : World) (hs : Sl w a l cap (wd.dcells l (u : Int))) (hu : u < 4294967296 ^ l) (hm : wd.nlen u = m) :
    Calls Tryz.prog 89 #[.slice a l cap] w fun e w' => ∃ a' cap', e = .returned (.slice a' m cap') ∧ w = w' ∧ Cut a l cap a' m cap' := by
  subst hm
  exact strip_any a l cap u w hs hu
set_option maxRecDepth 100000 in
set_option maxHeartbeats 1000000 in
theorem divMod_less (a b : Option Addr) (la lb ca cb u v : Nat) (w : World) (ha : Sl w a la ca (wd.dcells la (u : Int))) (hu : u < 4294967296 ^ la) (hla : la ≤ 1000000000) (hb : Sl w b lb cb (wd.dcells lb (v : Int))) (hv : v < 4294967296 ^ lb) (hlt : wd.nlen u < wd.nlen v) :
    Calls Tryz.prog 107 #[.slice a la ca, .slice b lb cb] w (Both w (u / v) (u % v)) := by
  have hlu := wd.nlen_le hu
  have huv := wd.lt_of_nlen hlt
  have HQ : Hid (u / v = 0) := Nat.div_eq_of_lt huv
  have HR : Hid (u % v = u) := Nat.mod_eq_of_lt huv
  rw [HQ.out, HR.out]
  have hu2 := wd.nlen_lt u
  clear huv
  go_enter Tryz.func107, Tryz.ntmps107
  go_wp2_with (first
    | (go_at_call_of 89 [Value.slice a la ca]; refine (strip_any a la ca u _ ha hu).mono ?_; rintro e w' ⟨a1, ca1, rfl, hw, hcut1⟩; subst hw)
    | (go_at_call 89; refine (strip_any b lb cb v _ hb hv).mono ?_; rintro e w' ⟨b1, cb1, rfl, hw, hcut2⟩; subst hw)
    | (go_at_call 97; refine (trim_any a1 (wd.nlen u) ca1 u _ (hcut1.sl ha) hu2 (by omega)).mono ?_; rintro e w1 ⟨a2, ca2, rfl, hown, hbel⟩))
  go_ret3
  refine ⟨none, 0, a2, ca2, by rw [wd.nlen_zero]; rfl, ?_, hown, hbel⟩
  rw [wd.nlen_zero]
  exact World.ownsRow_nil _ _ _ _

set_option maxRecDepth 100000 in
set_option maxHeartbeats 2000000 in
theorem divMod_word (a b : Option Addr) (la lb ca cb u v : Nat) (w : World) (ha : Sl w a la ca (wd.dcells la (u : Int))) (hu : u < 4294967296 ^ la) (hla : la ≤ 1000000000) (hb : Sl w b lb cb (wd.dcells lb (v : Int))) (hv : v < 4294967296 ^ lb) (hone : wd.nlen v = 1) (hge : 1 ≤ wd.nlen u) :
    Calls Tryz.prog 107 #[.slice a la ca, .slice b lb cb] w (Both w (u / v) (u % v)) := by
  have hlu := wd.nlen_le hu
  have hu2 := wd.nlen_lt u
  have hv1 : v < 4294967296 := by have := wd.nlen_lt v; rw [hone] at this; simpa using this
  have hv0 : 0 < v := by
    rcases Nat.eq_zero_or_pos v with e | e
    · rw [e, wd.nlen_zero] at hone; omega
    · exact e
  have HO : Hid _ := hone
  have HD : Hid (wd.dg (v : Int) 0 = v) := by unfold Hid wd.dg; simp; omega
  have HQ : Hid ((u : Int) / v = ((u / v : Nat) : Int)) := by unfold Hid; rw [Int.natCast_ediv]
  have HR : Hid ((u : Int) % v = ((u % v : Nat) : Int)) := by unfold Hid; rw [Int.natCast_emod]
  have hQ2 : Hid (u / v < 4294967296 ^ wd.nlen u) := Nat.lt_of_le_of_lt (Nat.div_le_self _ _) hu2
  have hR2 : u % v < 18446744073709551616 := by have := Nat.mod_lt u hv0; omega
  have hr0 : 0 ≤ (u : Int) % v := Int.emod_nonneg _ (by omega)
  have hr1 : (u : Int) % v < 4294967296 := by have := Int.emod_lt_of_pos (u : Int) (show (0 : Int) < v by omega); omega
  obtain ⟨R, hRe⟩ : ∃ R : Int, R = (u : Int) % v := ⟨_, rfl⟩
  have HRR : Hid _ := hRe
  have HR3 : Hid (R = ((u % v : Nat) : Int)) := by unfold Hid; rw [hRe, HR.out]
  rw [← hRe] at hr0 hr1
  clear hone hRe
  go_enter Tryz.func107, Tryz.ntmps107
  go_wp2_with (first
    | (go_at_call_of 89 [Value.slice a la ca]; refine (strip_any a la ca u _ ha hu).mono ?_; rintro e w' ⟨a1, ca1, rfl, hw, hcut1⟩; subst hw)
    | (go_at_call_of 89 [Value.slice b lb cb]; refine (strip_to 1 b lb cb v _ hb hv HO.out).mono ?_; rintro e w' ⟨b1, cb1, rfl, hw, hcut2⟩; subst hw; obtain ⟨bb, ob, rfl, hbb, hsb⟩ := (hcut2.sl hb).at (by omega); have hroomb := (hcut2.sl hb).room)
    | (go_at_call 97; refine (trim_any a1 (wd.nlen u) ca1 u _ (hcut1.sl ha) hu2 (by omega)).mono ?_; rintro e w1 ⟨a2, ca2, rfl, hown, hbel⟩; obtain ⟨g, rfl, hg, hg2, _⟩ := Own.at hown (by omega); have c1 := (hbel.cell (p := ⟨bb, ob, none⟩) hbb).trans (hsb.cell 0 _ (wd.dcells_at _ _ _ (by omega))); rw [HD.out] at c1)
    | (go_at_call 118; refine (divWord_any g (wd.nlen u) ca2 u w.heap.size v _ hown hu2 (by omega) (by omega)).mono ?_; rw [← HRR.out]; rintro e w2 ⟨rfl, hown2, hwr2⟩; rw [HQ.out] at hown2; have hbel2 := hwr2.after hbel hg2 (Nat.le_refl _))
    | (go_at_call 89; refine (strip_any _ _ _ (u / v) _ hown2.sl hQ2.out).mono ?_; rintro e w' ⟨a3, ca3, rfl, hw, hcut3⟩; subst hw)
    | (go_at_call 54; refine (of_any (u % v) hR2 HR3.out _).mono ?_; rintro e w3 ⟨a4, ca4, rfl, hown4, hbel4⟩))
  have hsz := hbel2.size
  go_ret3
  exact ⟨a3, ca3, a4, ca4, rfl, Own.below (hcut3.own hown2) hbel4, Own.mono hown4 hsz, hbel2.trans (hbel4.mono hsz)⟩
end Go.Proofs.YtcaihoomcdbfnaaGreat

namespace Go.Proofs.YtcaihoomcdbfnaaGreat.bt
open Go.RowKit

/-- Digit i of v, to the base 2 (of a number below nought: of v modulo as many digits as you like). -/
def dg (v : Int) (i : Nat) : Int := v / 2 ^ i % 2
theorem dg_range (v : Int) (i : Nat) : 0 ≤ dg v i ∧ dg v i < 2 := by unfold dg; omega
theorem p256 (i : Nat) : (0 : Int) < 2 ^ i := Int.pow_pos (by decide)
/-- n digits: at the places that p names those of u, at the others those of v. -/
def fill (n : Nat) (p : Nat → Bool) (u v : Int) : List Value := (List.range n).map fun j => .int .i64 (if p j then dg u j else dg v j)
def dcells (n : Nat) (v : Int) : List Value := (List.range n).map fun j => .int .i64 (dg v j)
def mix (n i : Nat) (u v : Int) : List Value := fill n (fun j => decide (j < i)) u v
theorem fill_length (n : Nat) (p : Nat → Bool) (u v : Int) : (fill n p u v).length = n := by simp [fill]
theorem mix_length (n i : Nat) (u v : Int) : (mix n i u v).length = n := fill_length _ _ _ _
theorem dcells_length (n : Nat) (v : Int) : (dcells n v).length = n := by simp [dcells]
theorem dcells_at (n : Nat) (v : Int) (i : Nat) (h : i < n) : (dcells n v)[i]? = some (.int .i64 (dg v i)) := by simp [dcells, h]
theorem fill_at (n : Nat) (p : Nat → Bool) (u v : Int) (i : Nat) (h : i < n) : (fill n p u v)[i]? = some (.int .i64 (if p i then dg u i else dg v i)) := by simp [fill, h]
theorem mix_at (n k : Nat) (u v : Int) (i : Nat) (h : i < n) (hk : k ≤ i) : (mix n k u v)[i]? = some (.int .i64 (dg v i)) := by
  rw [mix, fill_at _ _ _ _ _ h]; simp; omega
theorem fill_congr {n : Nat} {p q : Nat → Bool} {u v u' v' : Int} (h : ∀ j, j < n → (if p j then dg u j else dg v j) = (if q j then dg u' j else dg v' j)) : fill n p u v = fill n q u' v' := by
  unfold fill
  refine List.map_congr_left fun j hj => ?_
  rw [h j (by simpa using hj)]
theorem fill_set (n : Nat) (p : Nat → Bool) (u v : Int) (i : Nat) : (fill n p u v).set i (.int .i64 (dg u i)) = fill n (fun j => p j || j == i) u v := by
  refine List.ext_getElem? fun j => ?_
  rw [List.getElem?_set]
  by_cases e : i = j
  · subst e
    by_cases h : i < n
    · rw [if_pos rfl, if_pos (by rw [fill_length]; exact h), fill_at _ _ _ _ _ h]; simp
    · rw [if_pos rfl, if_neg (by rw [fill_length]; exact h), List.getElem?_eq_none (by rw [fill_length]; omega)]
  · by_cases h : j < n
    · rw [if_neg e, fill_at _ _ _ _ _ h, fill_at _ _ _ _ _ h]
      have e' : (j == i) = false := by simp; omega
      simp [e']
    · rw [if_neg e, List.getElem?_eq_none (by simp [fill_length]; omega), List.getElem?_eq_none (by simp [fill_length]; omega)]
theorem mix_set (n i : Nat) (u v : Int) : (mix n i u v).set i (.int .i64 (dg u i)) = mix n (i + 1) u v := by
  unfold mix
  rw [fill_set]
  refine fill_congr fun j _ => ?_
  have : (decide (j < i) || j == i) = decide (j < i + 1) := by rw [Bool.eq_iff_iff]; simp; omega
  rw [this]
theorem mix_zero (n : Nat) (u v : Int) : mix n 0 u v = dcells n v := by unfold mix fill dcells; simp
theorem mix_full (n : Nat) (u v : Int) : mix n n u v = dcells n u := by
  unfold mix fill dcells
  refine List.map_congr_left fun j hj => ?_
  have : j < n := by simpa using hj
  simp [this]
/-- The digits of two numbers that are the same modulo 2^i are the same below place i. -/
theorem dg_congr {u v : Int} {i j : Nat} (t : Int) (h : u = v + t * 2 ^ i) (hj : j < i) : dg u j = dg v j := by
  unfold dg
  obtain ⟨d, rfl⟩ : ∃ d, i = j + 1 + d := ⟨i - (j + 1), by omega⟩
  have e : t * (2 : Int) ^ (j + 1 + d) = (2 * (t * 2 ^ d)) * 2 ^ j := by
    rw [show j + 1 + d = d + 1 + j by omega, Int.pow_add, Int.pow_succ, ← Int.mul_assoc, ← Int.mul_assoc, Int.mul_comm (t * 2 ^ d) 2]
  rw [h, e, Int.add_mul_ediv_right _ _ (Int.ne_of_gt (p256 j))]
  omega
theorem dcells_congr {n : Nat} {u v : Int} (t : Int) (h : u = v + t * 2 ^ n) : dcells n u = dcells n v := by
  unfold dcells
  refine List.map_congr_left fun j hj => ?_
  rw [dg_congr t h (by simpa using hj)]
/-- The carry into place i when x and y are added. -/
def carry (x y : Int) (i : Nat) : Int := (x % 2 ^ i + y % 2 ^ i) / 2 ^ i
theorem carry_zero (x y : Int) : carry x y 0 = 0 := by simp [carry]
theorem emod_succ (x : Int) (i : Nat) : x % 2 ^ (i + 1) = dg x i * 2 ^ i + x % 2 ^ i := by
  unfold dg
  have hp := p256 i
  have h1 := Int.mul_ediv_add_emod x (2 ^ i)
  have h2 := Int.mul_ediv_add_emod (x / 2 ^ i) 2
  have b := Int.emod_nonneg x (Int.ne_of_gt hp)
  have b' := Int.emod_lt_of_pos x hp
  have c := Int.emod_nonneg (x / 2 ^ i) (show (2 : Int) ≠ 0 by decide)
  have c' := Int.emod_lt_of_pos (x / 2 ^ i) (show (0 : Int) < 2 by decide)
  have e : x = (x / 2 ^ i % 2 * 2 ^ i + x % 2 ^ i) + (x / 2 ^ i / 2) * 2 ^ (i + 1) := by
    have : (x / 2 ^ i / 2) * (2 : Int) ^ (i + 1) = (2 * (x / 2 ^ i / 2)) * 2 ^ i := by rw [Int.pow_succ, Int.mul_comm ((2 : Int) ^ i) 2, ← Int.mul_assoc, Int.mul_comm _ 2]
    rw [this]
    have h3 : (2 * (x / 2 ^ i / 2)) * (2 : Int) ^ i + x / 2 ^ i % 2 * 2 ^ i = x / 2 ^ i * 2 ^ i := by rw [← Int.add_mul, h2]
    have h4 : x / 2 ^ i * (2 : Int) ^ i = 2 ^ i * (x / 2 ^ i) := Int.mul_comm _ _
    omega
  have l0 : 0 ≤ x / 2 ^ i % 2 * 2 ^ i + x % 2 ^ i := Int.add_nonneg (Int.mul_nonneg c (Int.le_of_lt hp)) b
  have l1 : x / 2 ^ i % 2 * 2 ^ i + x % 2 ^ i < 2 ^ (i + 1) := by
    have : x / 2 ^ i % 2 * (2 : Int) ^ i ≤ 1 * 2 ^ i := Int.mul_le_mul_of_nonneg_right (by omega) (Int.le_of_lt hp)
    rw [Int.pow_succ]
    omega
  have key : x % 2 ^ (i + 1) = (x / 2 ^ i % 2 * 2 ^ i + x % 2 ^ i) % 2 ^ (i + 1) := by
    have := congrArg (· % (2 : Int) ^ (i + 1)) e
    simpa [Int.add_mul_emod_self_right] using this
  rw [key, Int.emod_eq_of_lt l0 l1]
theorem carry_sum (x y : Int) (i : Nat) : (x % 2 ^ (i + 1) + y % 2 ^ (i + 1)) / 2 ^ i = carry x y i + dg x i + dg y i := by
  rw [emod_succ, emod_succ]
  unfold carry
  have e : dg x i * 2 ^ i + x % 2 ^ i + (dg y i * 2 ^ i + y % 2 ^ i) = (x % 2 ^ i + y % 2 ^ i) + (dg x i + dg y i) * 2 ^ i := by rw [Int.add_mul]; omega
  rw [e, Int.add_mul_ediv_right _ _ (Int.ne_of_gt (p256 i))]
  omega
theorem carry_succ (x y : Int) (i : Nat) : carry x y (i + 1) = (carry x y i + dg x i + dg y i) / 2 := by
  rw [← carry_sum]
  show (x % 2 ^ (i + 1) + y % 2 ^ (i + 1)) / 2 ^ (i + 1) = _
  have hp := p256 i
  rw [Int.pow_succ, Int.ediv_ediv, if_neg (by omega)]
  omega
theorem add_digit (x y : Int) (i : Nat) : (carry x y i + dg x i + dg y i) % 2 = dg (x + y) i := by
  unfold dg carry
  have hp := p256 i
  have h1 := Int.mul_ediv_add_emod x (2 ^ i)
  have h2 := Int.mul_ediv_add_emod y (2 ^ i)
  have e : x + y = (x % 2 ^ i + y % 2 ^ i) + (x / 2 ^ i + y / 2 ^ i) * 2 ^ i := by
    have a1 : x / 2 ^ i * (2 : Int) ^ i = 2 ^ i * (x / 2 ^ i) := Int.mul_comm _ _
    have a2 : y / 2 ^ i * (2 : Int) ^ i = 2 ^ i * (y / 2 ^ i) := Int.mul_comm _ _
    rw [Int.add_mul]; omega
  have e2 : (x + y) / 2 ^ i = (x % 2 ^ i + y % 2 ^ i) / 2 ^ i + (x / 2 ^ i + y / 2 ^ i) := by
    conv => lhs; rw [e]
    exact Int.add_mul_ediv_right _ _ (Int.ne_of_gt hp)
  rw [e2]
  omega
theorem carry_range (x y : Int) (i : Nat) : 0 ≤ carry x y i ∧ carry x y i ≤ 1 := by
  unfold carry
  have hp := p256 i
  have a := Int.emod_nonneg x (Int.ne_of_gt hp)
  have a' := Int.emod_lt_of_pos x hp
  have b := Int.emod_nonneg y (Int.ne_of_gt hp)
  have b' := Int.emod_lt_of_pos y hp
  refine ⟨Int.ediv_nonneg (by omega) (by omega), ?_⟩
  have : (x % 2 ^ i + y % 2 ^ i) / 2 ^ i < 2 := Int.ediv_lt_of_lt_mul hp (by omega)
  omega
end Go.Proofs.YtcaihoomcdbfnaaGreat.bt

namespace Go.Proofs.YtcaihoomcdbfnaaGreat.bt
open Go.RowKit
set_option linter.unusedVariables false

/-- v needs n digits: none for nought. -/
def IsLen (v n : Nat) : Prop := v < 2 ^ n ∧ (n = 0 ∨ 2 ^ (n - 1) ≤ v)
theorem isLen_one {v n m : Nat} (h : IsLen v n) (h' : IsLen v m) : n = m := by
  obtain ⟨a, b⟩ := h
  obtain ⟨a', b'⟩ := h'
  rcases Nat.lt_trichotomy n m with e | e | e
  · rcases b' with b' | b'
    · omega
    · have := Nat.pow_le_pow_right (n := 2) (by decide) (show n ≤ m - 1 by omega)
      omega
  · exact e
  · rcases b with b | b
    · omega
    · have := Nat.pow_le_pow_right (n := 2) (by decide) (show m ≤ n - 1 by omega)
      omega
/-- A number below 2^n has a length of n at most, and is found by cutting noughts off the end. -/
theorem isLen_cut : ∀ (n v : Nat), v < 2 ^ n → ∃ m, m ≤ n ∧ IsLen v m
  | 0, v, h => ⟨0, Nat.le_refl _, h, Or.inl rfl⟩
  | n + 1, v, h => by
    by_cases c : v < 2 ^ n
    · obtain ⟨m, h1, h2⟩ := isLen_cut n v c
      exact ⟨m, by omega, h2⟩
    · exact ⟨n + 1, Nat.le_refl _, h, Or.inr (by simp; omega)⟩
theorem lt_pow_self (v : Nat) : v < 2 ^ v := Nat.lt_pow_self (by decide)
/-- How many digits v needs. -/
def nlen (v : Nat) : Nat := if h : v = 0 then 0 else nlen (v / 2) + 1
  termination_by v
  decreasing_by exact Nat.div_lt_self (Nat.pos_of_ne_zero h) (by decide)
theorem nlen_is (v : Nat) : IsLen v (nlen v) := by
  induction v using Nat.strongRecOn with
  | ind v ih =>
    unfold nlen
    split
    · rename_i h
      rw [h]
      exact ⟨by decide, Or.inl rfl⟩
    · rename_i h
      obtain ⟨h1, h2⟩ := ih (v / 2) (Nat.div_lt_self (Nat.pos_of_ne_zero h) (by decide))
      refine ⟨?_, Or.inr ?_⟩
      · rw [Nat.pow_succ]
        exact (Nat.div_lt_iff_lt_mul (by decide)).1 h1
      · rw [Nat.add_sub_cancel]
        rcases h2 with h2 | h2
        · rw [h2]
          exact Nat.pos_of_ne_zero h
        · rcases Nat.eq_zero_or_pos (nlen (v / 2)) with h3 | h3
          · rw [h3]
            exact Nat.pos_of_ne_zero h
          · have h4 := (Nat.le_div_iff_mul_le (by decide)).1 h2
            rw [← Nat.pow_succ] at h4
            rwa [show (nlen (v / 2) - 1).succ = nlen (v / 2) by omega] at h4
theorem nlen_eq {v n : Nat} (h : IsLen v n) : nlen v = n := isLen_one (nlen_is v) h
theorem nlen_le {v n : Nat} (h : v < 2 ^ n) : nlen v ≤ n := by
  obtain ⟨m, h1, h2⟩ := isLen_cut n v h
  rw [nlen_eq h2]; exact h1
theorem nlen_zero : nlen 0 = 0 := nlen_eq ⟨by decide, Or.inl rfl⟩
theorem nlen_lt (v : Nat) : v < 2 ^ nlen v := (nlen_is v).1
theorem nlen_pos {v : Nat} (h : 0 < v) : 0 < nlen v := by
  rcases Nat.lt_or_ge 0 (nlen v) with l | l
  · exact l
  · have := nlen_lt v
    rw [show nlen v = 0 by omega] at this
    simp at this
    omega
/-- The longer number is the greater. -/
theorem lt_of_nlen {u v : Nat} (h : nlen u < nlen v) : u < v := by
  obtain ⟨_, b⟩ := nlen_is v
  rcases b with b | b
  · omega
  · have := nlen_lt u
    have := Nat.pow_le_pow_right (n := 2) (by decide) (show nlen u ≤ nlen v - 1 by omega)
    omega
theorem pow_cast (k : Nat) : ((2 ^ k : Nat) : Int) = (2 : Int) ^ k := by rw [Int.natCast_pow]; rfl
theorem dg_nat (v k : Nat) : dg (v : Int) k = ((v / 2 ^ k % 2 : Nat) : Int) := by
  unfold dg
  rw [← pow_cast]
  omega
/-- The digit at a place that a number does not reach is nought; the highest one that it has is not. -/
theorem dg_over {v k : Nat} (h : v < 2 ^ k) : dg (v : Int) k = 0 := by rw [dg_nat, Nat.div_eq_of_lt h]; rfl
theorem dg_top {v n : Nat} (h : IsLen v (n + 1)) : dg (v : Int) n ≠ 0 := by
  obtain ⟨a, b⟩ := h
  have b : 2 ^ n ≤ v := by
    rcases b with b | b
    · omega
    · exact b
  rw [dg_nat]
  have h1 : 1 ≤ v / 2 ^ n := (Nat.one_le_div_iff (Nat.pow_pos (by decide))).2 b
  have h2 : v / 2 ^ n < 2 := by
    rw [Nat.pow_succ] at a
    exact Nat.div_lt_of_lt_mul a
  rw [Nat.mod_eq_of_lt h2]
  omega
/-- One nought at the end cut off. -/
theorem lt_of_dg_zero {v n : Nat} (h : v < 2 ^ (n + 1)) (z : dg (v : Int) n = 0) : v < 2 ^ n := by
  rcases Nat.lt_or_ge v (2 ^ n) with l | l
  · exact l
  · exact absurd z (dg_top ⟨h, Or.inr (by simpa using l)⟩)
/-- Two numbers of n digits with the same digits are the same. -/
theorem eq_of_dcells : ∀ (n : Nat) (u v : Nat), u < 2 ^ n → v < 2 ^ n → (∀ j, j < n → dg (u : Int) j = dg (v : Int) j) → u = v := by
  intro n
  induction n with
  | zero => intro u v hu hv _; simp at hu hv; omega
  | succ n ih =>
    intro u v hu hv h
    have e := ih (u % 2 ^ n) (v % 2 ^ n) (Nat.mod_lt _ (Nat.pow_pos (by decide))) (Nat.mod_lt _ (Nat.pow_pos (by decide))) (fun j hj => by
      have a : ∀ x : Nat, dg ((x % 2 ^ n : Nat) : Int) j = dg (x : Int) j := fun x => by
        refine dg_congr (i := n) (-((x / 2 ^ n : Nat) : Int)) ?_ hj
        have := Nat.mod_add_div x (2 ^ n)
        rw [← pow_cast, Int.neg_mul, ← Int.natCast_mul, Nat.mul_comm (x / 2 ^ n)]
        omega
      rw [a, a]
      exact h j (by omega))
    have t := h n (by omega)
    rw [dg_nat, dg_nat] at t
    have du : u / 2 ^ n < 2 := by rw [Nat.pow_succ] at hu; exact Nat.div_lt_of_lt_mul hu
    have dv : v / 2 ^ n < 2 := by rw [Nat.pow_succ] at hv; exact Nat.div_lt_of_lt_mul hv
    rw [Nat.mod_eq_of_lt du, Nat.mod_eq_of_lt dv] at t
    have t' : u / 2 ^ n = v / 2 ^ n := by omega
    have h1 := Nat.mod_add_div u (2 ^ n)
    have h2 := Nat.mod_add_div v (2 ^ n)
    rw [e, t'] at h1
    omega
end Go.Proofs.YtcaihoomcdbfnaaGreat.bt

namespace Go.Proofs.YtcaihoomcdbfnaaGreat
open Go.RowKit Go.Shelf
set_option linter.unusedVariables false

def renLen : Ren where
  f := fun | 128 => 112 | n => n
  t := fun | 51 => 115 | 3 => 3 | 4 => 4 | 46 => 116 | 5 => 5 | 9 => 9 | n => n
  g := fun n => n
theorem laysLen : Lays.n128 Tryz.prog renLen where
  mixed := by kernel_rfl
  f128 := Tryz.func112.trans (by kernel_rfl)
  t3 := Tryz.underlying3
  a3 := Tryz.isAgg3
  z3 := Tryz.sizeOf3
  v3 := Tryz.zeroValue3
  t4 := Tryz.underlying4
  a4 := Tryz.isAgg4
  z4 := Tryz.sizeOf4
  v4 := Tryz.zeroValue4
  t5 := Tryz.underlying5
  a5 := Tryz.isAgg5
  z5 := Tryz.sizeOf5
  v5 := Tryz.zeroValue5
  t9 := Tryz.underlying9
  a9 := Tryz.isAgg9
  z9 := Tryz.sizeOf9
  v9 := Tryz.zeroValue9
  t46 := Tryz.underlying116
  a46 := Tryz.isAgg116
  z46 := Tryz.sizeOf116
  v46 := Tryz.zeroValue116
  t51 := Tryz.underlying115
  a51 := Tryz.isAgg115
  z51 := Tryz.sizeOf115
  v51 := Tryz.zeroValue115
theorem bitLen_bt (x : Nat) (h : x < 2 ^ 64) : Lib.bitLen x = bt.nlen x := by
  rcases Nat.eq_zero_or_pos x with rfl | h0
  · rw [bt.nlen_zero]; decide
  · obtain ⟨h1, h2, h3⟩ := Lib.bitLenAux_bounds 64 x h (by omega)
    exact (bt.nlen_eq ⟨h3, Or.inr h2⟩).symm
theorem len32_any (x : Nat) {xv : Int} (hx : xv = (x : Int)) (h : x < 4294967296) (w : World) :
    Calls Tryz.prog 112 #[.int .u32 xv] w fun e w' => e = .returned (.int .i64 (bt.nlen x : Int)) ∧ w = w' := by
  subst hx
  have h' : Calls Tryz.prog 112 #[.int .u32 (x : Int)] w fun e w' => e = .returned (.int .i64 (Lib.bitLen (x : Int).toNat)) ∧ w' = w := Any.bits_Len32 laysLen x w (by omega) (by omega)
  refine h'.mono ?_
  rintro e w' ⟨rfl, rfl⟩
  exact ⟨by rw [Int.toNat_natCast, bitLen_bt x (by omega)], rfl⟩

theorem pow32 (k : Nat) : 4294967296 ^ k = 2 ^ (32 * k) := by rw [Nat.pow_mul]
/-- The bits of a number: those of its highest word, and 32 for each below it. -/
theorem bits_top {u m t : Nat} (hm : wd.nlen u = m + 1) (ht : (t : Int) = wd.dg (u : Int) m) : bt.nlen u = m * 32 + bt.nlen t := by
  have hi := wd.nlen_is u
  rw [hm] at hi
  have htop := wd.dg_top hi
  rw [wd.dg_nat] at ht htop
  have hq : u / 4294967296 ^ m < 4294967296 := by
    have := hi.1
    rw [Nat.pow_succ] at this
    exact Nat.div_lt_of_lt_mul this
  have ht' : t = u / 4294967296 ^ m := by rw [Nat.mod_eq_of_lt hq] at ht; omega
  have ht0 : t ≠ 0 := by
    rw [Nat.mod_eq_of_lt hq] at htop
    omega
  have hb := bt.nlen_is t
  have hb1 := bt.nlen_pos (show 0 < t by omega)
  have hp := wd.pow_nat m
  have hd := Nat.div_add_mod u (4294967296 ^ m)
  have hl := Nat.mod_lt u hp
  rw [← ht'] at hd
  have e : 4294967296 ^ m = 2 ^ (m * 32) := by rw [pow32, Nat.mul_comm]
  refine bt.nlen_eq ⟨?_, Or.inr ?_⟩
  · rw [Nat.pow_add, ← e]
    have : 4294967296 ^ m * (t + 1) ≤ 4294967296 ^ m * 2 ^ bt.nlen t := Nat.mul_le_mul_left _ hb.1
    rw [Nat.mul_add] at this
    omega
  · have h2 : 2 ^ (bt.nlen t - 1) ≤ t := hb.2.resolve_left (by omega)
    rw [show m * 32 + bt.nlen t - 1 = m * 32 + (bt.nlen t - 1) by omega, Nat.pow_add, ← e]
    have := Nat.mul_le_mul_left (4294967296 ^ m) h2
    omega

set_option maxRecDepth 100000 in
set_option maxHeartbeats 1000000 in
theorem bits_any (a : Option Addr) (la ca u : Nat) (w : World) (ha : Sl w a la ca (wd.dcells la (u : Int))) (hu : u < 4294967296 ^ la) (hla : la ≤ 1000000000) :
    Calls Tryz.prog 105 #[.slice a la ca] w fun e w' => e = .returned (.int .i64 (bt.nlen u : Int)) ∧ w = w' := by
  have hl := wd.nlen_le hu
  rcases hm : wd.nlen u with _ | m
  · have h0 := wd.nlen_eq_zero.1 hm
    subst h0
    have HB : Hid (bt.nlen 0 = 0) := bt.nlen_zero
    have HM : Hid _ := fun ap cp => (show Value.slice ap (wd.nlen 0) cp = Value.slice ap 0 cp by rw [hm])
    clear hm
    go_enter Tryz.func105, Tryz.ntmps105
    go_wp2_with (go_at_call 89; refine (strip_any a la ca 0 _ ha hu).mono ?_; rintro e w' ⟨a1, ca1, rfl, hw, hcut⟩; subst hw; rw [HM.out])
    go_ret
    exact ⟨by rw [HB.out]; rfl, rfl⟩
  · obtain ⟨d0, d1⟩ := wd.dg_range u m
    obtain ⟨t, ht⟩ := Int.eq_ofNat_of_zero_le d0
    have HT : Hid (bt.nlen u = m * 32 + bt.nlen t) := bits_top hm ht.symm
    obtain ⟨l, hlm⟩ : ∃ l, l = m + 1 := ⟨_, rfl⟩
    rw [← hlm] at hm
    have HSt : Hid _ := fun (w0 : World) (h : Sl w0 a la ca (wd.dcells la (u : Int))) => strip_to l a la ca u w0 h hu hm
    have HC : Hid _ := fun (a1 : Option Addr) (ca1 : Nat) (hc : Cut a la ca a1 l ca1) => hc.sl ha
    have hb : bt.nlen t ≤ 32 := bt.nlen_le (by omega)
    have hm0 : 0 < l := by omega
    have hml : m < l := by omega
    have hm1 : l ≤ 1000000000 := by omega
    have e1 : (l : Int) - 1 = (m : Int) := by omega
    have e2 : ((l : Int) == 0) = false := by rw [beq_eq_false_iff_ne]; omega
    have HTT : Hid _ := ht
    rw [ht] at d0 d1
    obtain ⟨N, hN⟩ : ∃ N, bt.nlen t = N := ⟨_, rfl⟩
    have HL : Hid _ := fun (w0 : World) => len32_any t rfl (by omega) w0
    have HNN : Hid _ := hN
    rw [hN] at HT hb
    clear hm hl ht hlm hu hN
    go_enter Tryz.func105, Tryz.ntmps105
    go_wp2_with (first
      | (go_at_call 89; refine (HSt.out _ ha).mono ?_; rintro e w' ⟨a1, ca1, rfl, hw, hcut⟩; subst hw; have hsl := HC.out a1 ca1 hcut; obtain ⟨ba, oa, rfl, hba, hseg⟩ := hsl.at hm0; have hroom := hsl.room; have c1 := hseg.cell m _ (wd.dcells_at _ _ _ hml); rw [HTT.out] at c1)
      | (go_at_call 112; refine (HL.out _).mono ?_; rw [HNN.out]; rintro e w' ⟨rfl, hw⟩; subst hw))
    go_ret
    exact ⟨by rw [HT.out]; simp, rfl⟩

/-- What holds at the head of each round of the halving's loop. -/
def HalfRel (w : World) (u l b : Nat) (c i : Value) (wr : World) : Prop := ∃ r : Nat, r ≤ l ∧ i = .int .i64 ((r : Int) - 1) ∧ c = .int .i64 ((u : Int) / 65536 ^ r % 2) ∧ Own wr w.heap.size 3 (some ⟨b, 0, none⟩) l l (hf.xim l r ((u : Int) / 2) 0) ∧ Below w.heap.size w wr
theorem half_next (w wr : World) (u l b q : Nat) (hq : q < l) (hown : Own wr w.heap.size 3 (some ⟨b, 0, none⟩) l l (hf.xim l (q + 1) ((u : Int) / 2) 0)) (hb : Below w.heap.size w wr) :
    HalfRel w u l b (.int .i64 (((u : Int) / 65536 ^ (q + 1) % 2 * 65536 + hf.dg u q) % 2)) (.int .i64 ((q : Int) - 1)) (wr.setCell ⟨b, q, none⟩ (.int .i64 (((u : Int) / 65536 ^ (q + 1) % 2 * 65536 + hf.dg u q) / 2))) := by
  refine ⟨q, by omega, rfl, by rw [(hf.long_div u 2 q (by decide)).2], ?_, hb.setCell (seg_of_own hown).2.2 _⟩
  rw [hf.quot_digit _ _ _ (by decide), ← hf.xim_set]
  exact Own.set hown _ hq
set_option maxRecDepth 100000 in
set_option maxHeartbeats 1000000 in
theorem rhalf_any (a : Option Addr) (ca u : Nat) (w : World) (ha : Sl w a (hf.nlen u) ca (hf.dcells (hf.nlen u) (u : Int))) (hlu : hf.nlen u ≤ 1000000000) :
    Calls Tryz.prog 92 #[.slice a (hf.nlen u) ca] w fun e w' => ∃ a' cap', e = .returned (.slice a' (hf.nlen (u / 2)) cap') ∧ Own w' w.heap.size 3 a' (hf.nlen (u / 2)) cap' (hf.dcells (hf.nlen (u / 2)) ((u / 2 : Nat) : Int)) ∧ Below w.heap.size w w' := by
  obtain ⟨i0, hi0, hz0, hz1, hz2⟩ := info_parts infoInt
  have hu := hf.nlen_lt u
  obtain ⟨l, hl'⟩ : ∃ l, hf.nlen u = l := ⟨_, rfl⟩
  rw [hl'] at ha hlu hu ⊢
  have HZ : Hid ((u : Int) / 65536 ^ l = 0) := Int.ediv_eq_zero_of_lt (by omega) (by rw [← hf.pow_cast]; omega)
  have HD : Hid (hf.dcells l 0 = List.replicate l (.int .i64 0)) := hf.dcells_zero _
  have HE : Hid ((u : Int) / 2 = ((u / 2 : Nat) : Int)) := by unfold Hid; omega
  have HS : Hid (u / 2 < 65536 ^ l) := by unfold Hid; omega
  have hmax : l ≤ maxLen := by unfold maxLen; omega
  obtain ⟨v, hv⟩ : ∃ v, u / 2 = v := ⟨_, rfl⟩
  rw [hv] at HE HS ⊢
  clear hu hl' hv
  go_enter Tryz.func92, Tryz.ntmps92
  go_wp2_with (at_make; refine make_any _ rfl (.tmp 7) (.tmp 7) 36 rfl w.heap.size 3 i0 (.int .i64 0) Tryz.underlying36 hi0 hz0 hz1 rfl .i64 .i64 _ _ l rfl rfl (by simp) (by simp) (by rw [hz2]; omega) (by omega) (Nat.le_refl _) ?_; intro w1 hown hbel)
  rw [← HD.out] at hown
  go_loopw [4, 5] (fun c i wr => HalfRel w u l w.heap.size c i wr) (fun _ i _ => (intOf i + 1).toNat)
  case atStart => exact ⟨l, Nat.le_refl _, rfl, by rw [HZ.out]; rfl, by rw [hf.xim_full]; exact hown, hbel⟩
  case round =>
    clear hown hbel
    obtain ⟨r, hr, rfl, rfl, hown, hbel⟩ := hrel
    rcases r with _ | q
    · rw [hf.xim_zero, HE.out] at hown
      obtain ⟨C, hC⟩ : ∃ C, (u : Int) / 65536 ^ 0 % 2 = C := ⟨_, rfl⟩
      rw [hC]
      clear hC
      go_wp2_with (go_at_call 74; refine (rtrim_own _ _ _ v _ _ hown HS.out).mono ?_; rintro e w' ⟨rfl, hw, hown5⟩; subst hw)
      go_ret
      exact ⟨_, _, rfl, hown5, hbel⟩
    · obtain ⟨ba, oa, rfl, hba, hseg⟩ := ha.at (by omega)
      have hroom := ha.room
      have c1 : wr.cell? ⟨ba, oa + q, none⟩ = some (.int .i64 (hf.dg u q)) := (hbel.cell (p := ⟨ba, oa + q, none⟩) hba).trans (hseg.cell q _ (hf.dcells_at _ _ _ (by omega)))
      have c3 : wr.cell? ⟨w.heap.size, q, none⟩ = some (.int .i64 (hf.dg 0 q)) := Own.cell hown q _ (hf.xim_at _ _ _ _ _ (by omega) (by omega))
      have c4 : wr.frozen? ⟨w.heap.size, q, none⟩ = false := Own.free hown q (by omega)
      obtain ⟨d0, d1⟩ := hf.dg_range u q
      have HN : Hid _ := half_next w wr u l w.heap.size q (by omega) hown hbel
      have r0 : 0 ≤ (u : Int) / 65536 ^ (q + 1) % 2 := Int.emod_nonneg _ (by decide)
      have r1 : (u : Int) / 65536 ^ (q + 1) % 2 < 2 := Int.emod_lt_of_pos _ (by decide)
      obtain ⟨R, hR⟩ : ∃ R, (u : Int) / 65536 ^ (q + 1) % 2 = R := ⟨_, rfl⟩
      obtain ⟨D, hD⟩ : ∃ D, hf.dg (u : Int) q = D := ⟨_, rfl⟩
      rw [hR] at r0 r1 HN ⊢
      rw [hD] at c1 d0 d1 HN
      have e1 : ((q + 1 : Nat) : Int) - 1 = (q : Int) := by omega
      clear hown hR hD
      go_wp2
      go_roundw
      case rel => exact HN.out
      case measure => simp [intOf]

end Go.Proofs.YtcaihoomcdbfnaaGreat

namespace Go.Proofs.YtcaihoomcdbfnaaGreat
open Go.RowKit
set_option linter.unusedVariables false

set_option maxHeartbeats 1000000 in
theorem leading_any (x L : Nat) {xv : Int} (hx : xv = (x : Int)) (h : x < 4294967296) (hL : bt.nlen x = 32 - L) (hL' : L ≤ 32) (w : World) :
    Calls Tryz.prog 126 #[.int .u32 xv] w fun e w' => e = .returned (.int .i64 (L : Int)) ∧ w = w' := by
  obtain ⟨M, hM⟩ : ∃ M, M = 32 - L := ⟨_, rfl⟩
  have H := fun w => len32_any x hx h w
  rw [hL, ← hM] at H
  have HH : Hid _ := H
  have e1 : (32 : Int) - (M : Int) = (L : Int) := by omega
  clear hM H hL hx
  go_enter Tryz.func126, Tryz.ntmps126
  go_wp2_with (go_at_call 112; refine (HH.out _).mono ?_; rintro e w' ⟨rfl, hw⟩; subst hw)
  go_ret
  exact ⟨rfl, rfl⟩

theorem join_low (c d s : Nat) (hs : s < 32) (hc : c < 2 ^ s) (hd : d < 4294967296) : bits BinOp.or IntKind.u64 (c : Int) ((d : Int) * 2 ^ s) = (c : Int) + (d : Int) * 2 ^ s := by
  have h1 : 2 ^ s ≤ 2 ^ 31 := Nat.pow_le_pow_right (by decide) (by omega)
  have h2 : d * 2 ^ s ≤ 4294967295 * 2 ^ 31 := Nat.mul_le_mul (by omega) h1
  have e : (d : Int) * 2 ^ s = ((d * 2 ^ s : Nat) : Int) := by rw [Int.natCast_mul, Int.natCast_pow]; rfl
  rw [e, u64_or_nat _ _ (by omega) (by omega), Nat.or_comm, nat_join s (d * 2 ^ s) c (Nat.mul_mod_left _ _) hc]
  omega

/-- What holds at the head of each round of shiftUp. -/
def UpRel (w : World) (u x : Int) (l b : Nat) (c i : Value) (wr : World) : Prop := ∃ k : Nat, k ≤ l ∧ i = .int .i64 (k : Int) ∧ c = .int .u64 (sc x u k) ∧ Own wr w.heap.size 115 (some ⟨b, 0, none⟩) (l + 1) (l + 1) (wd.mix (l + 1) k (x * u) 0) ∧ Below w.heap.size w wr
theorem up_next (w wr : World) (u x : Int) (l k : Nat) (hk : k < l) (hown : Own wr w.heap.size 115 (some ⟨w.heap.size, 0, none⟩) (l + 1) (l + 1) (wd.mix (l + 1) k (x * u) 0)) (hb : Below w.heap.size w wr) {z : Int} (hz : z = sc x u k + x * wd.dg u k) :
    UpRel w u x l w.heap.size (.int .u64 (z / 4294967296)) (.int .i64 ((k : Int) + 1)) (wr.setCell ⟨w.heap.size, k, none⟩ (.int .u32 (z % 4294967296))) := by
  subst hz
  refine ⟨k + 1, by omega, by simp, by rw [sc_succ], ?_, hb.setCell (Nat.le_refl _) _⟩
  rw [sc_digit, ← wd.mix_set]
  exact Own.set hown _ (by omega)

set_option maxRecDepth 100000 in
set_option maxHeartbeats 1000000 in
theorem shiftUp_any (a : Option Addr) (l cap u s : Nat) (w : World) (ha : Sl w a l cap (wd.dcells l (u : Int))) (hu : u < 4294967296 ^ l) (hl : l ≤ 1000000000) (hs : s < 32) :
    Calls Tryz.prog 127 #[.slice a l cap, .int .i64 (s : Int)] w fun e w' => e = .returned (.slice (some ⟨w.heap.size, 0, none⟩) (l + 1) (l + 1)) ∧ Own w' w.heap.size 115 (some ⟨w.heap.size, 0, none⟩) (l + 1) (l + 1) (wd.dcells (l + 1) ((2 ^ s * u : Nat) : Int)) ∧ Below w.heap.size w w' := by
  obtain ⟨i0, hi0, hz0, hz1, hz2⟩ := info_parts infoWord
  have hz0' : wd.dcells (l + 1) 0 = List.replicate (l + 1) (.int .u32 0) := wd.dcells_zero _
  have hmax : l + 1 ≤ maxLen := by unfold maxLen; omega
  obtain ⟨x, hx⟩ : ∃ x : Nat, x = 2 ^ s := ⟨_, rfl⟩
  have x0 : 0 < x := by rw [hx]; exact Nat.pow_pos (by decide)
  have x1 : x ≤ 2147483648 := by rw [hx]; exact Nat.le_trans (Nat.pow_le_pow_right (by decide) (show s ≤ 31 by omega)) (by decide)
  have hcap := ha.big
  have hroom := ha.room
  unfold maxLen at hcap
  have HX : Hid _ := hx
  have fX : (2 : Int) ^ s = (x : Int) := by rw [hx, Int.natCast_pow]; rfl
  have HJ : Hid (∀ c d : Int, 0 ≤ c → c < x → 0 ≤ d → d < 4294967296 → bits BinOp.or IntKind.u64 c (d * x) = c + x * d) := fun c d c0 c1 d0 d1 => by
    obtain ⟨C, rfl⟩ := Int.eq_ofNat_of_zero_le c0
    obtain ⟨E, rfl⟩ := Int.eq_ofNat_of_zero_le d0
    have := join_low C E s hs (by omega) (by omega)
    rw [fX] at this
    rw [this, Int.mul_comm]
  have HV : Hid (∀ d : Int, 0 ≤ d → d < 4294967296 → IntKind.u64.wrap (d * x) = d * x ∧ 0 ≤ (x : Int) * d ∧ (x : Int) * d ≤ 9223372036854775807) := fun d d0 d1 => by
    have h1 : (x : Int) * d ≤ 2147483648 * 4294967295 := Int.mul_le_mul (by omega) (by omega) d0 (by decide)
    have h0 : 0 ≤ (x : Int) * d := Int.mul_nonneg (by omega) d0
    refine ⟨?_, h0, by omega⟩
    rw [Int.mul_comm, IntKind.wrap_u64]
    omega
  clear hx
  go_enter Tryz.func127, Tryz.ntmps127
  go_wp2_with (at_make; refine make_any _ rfl (.tmp 11) (.tmp 11) 25 rfl w.heap.size 115 i0 (.int .u32 0) Tryz.underlying25 hi0 hz0 hz1 rfl .i64 .i64 _ _ (l + 1) rfl rfl (by simp) (by simp) (by rw [hz2]; omega) (by omega) (Nat.le_refl _) ?_; intro w1 hown hbel)
  rw [← hz0', ← wd.mix_zero (l + 1) ((x : Int) * u)] at hown
  go_loopw [6, 15] (fun c i wr => UpRel w u x l w.heap.size c i wr) (fun _ i _ => l - (intOf i).toNat)
  case atStart => exact ⟨0, by omega, rfl, by rw [sc_zero], hown, hbel⟩
  case round =>
    clear hown hbel
    obtain ⟨k, hk, rfl, rfl, hown, hbel⟩ := hrel
    obtain ⟨f0, f1⟩ := sc_range x u k (by omega) (by omega)
    have f2 := sc_lt x u k (by omega)
    have c3 : wr.cell? ⟨w.heap.size, k, none⟩ = some (.int .u32 (wd.dg 0 k)) := Own.cell hown k _ (wd.mix_at _ _ _ _ _ (by omega) (Nat.le_refl _))
    have c4 : wr.frozen? ⟨w.heap.size, k, none⟩ = false := Own.free hown k (by omega)
    by_cases hlt : k < l
    · obtain ⟨ba, oa, rfl, hba, hseg⟩ := ha.at (by omega)
      have c1 : wr.cell? ⟨ba, oa + k, none⟩ = some (.int .u32 (wd.dg u k)) := (hbel.cell (p := ⟨ba, oa + k, none⟩) hba).trans (hseg.cell k _ (wd.dcells_at _ _ _ hlt))
      obtain ⟨d0, d1⟩ := wd.dg_range u k
      have HN : Hid _ := fun z hz => up_next w wr u x l k hlt hown hbel (z := z) hz
      obtain ⟨fW, g0, g1⟩ := HV.out _ d0 d1
      have fO := HJ.out _ _ f0 f2 d0 d1
      obtain ⟨z, hz⟩ : ∃ z, z = sc x u k + x * wd.dg u k := ⟨_, rfl⟩
      have z0 : 0 ≤ z := by omega
      have z1 : z < 18446744073709551616 := by omega
      rw [← hz] at fO
      have HN := HN.out z hz
      have HN : Hid _ := HN
      clear hown hz g0 g1
      go_wp2
      go_roundw
      case rel => exact HN.out
      case measure => simp [intOf]; omega
    · obtain rfl : k = l := by omega
      have HL : Hid (sc x u k = wd.dg (x * u) k) := by
        unfold Hid wd.dg
        have h1 := sc_last x u k (by omega) (by rw [← wd.pow_cast]; omega)
        rw [← h1]
        omega
      have hlast : Own (wr.setCell ⟨w.heap.size, k, none⟩ (.int .u32 (sc x u k))) w.heap.size 115 (some ⟨w.heap.size, 0, none⟩) (k + 1) (k + 1) (wd.dcells (k + 1) ((x : Int) * u)) := by
        rw [HL.out, ← wd.mix_full (k + 1) ((x : Int) * u) 0, ← wd.mix_set]
        exact Own.set hown _ (by omega)
      have HO : Hid _ := hlast
      have hbel2 := hbel.setCell (p := ⟨w.heap.size, k, none⟩) (Nat.le_refl _) (.int .u32 (sc x u k))
      clear hown hlast
      go_wp2
      go_ret
      refine ⟨rfl, ?_, hbel2⟩
      rw [← HX.out, Int.natCast_mul]
      exact HO.out
end Go.Proofs.YtcaihoomcdbfnaaGreat
