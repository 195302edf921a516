/-
  Joined texts, part 2:
  Numbers as digits to the base 2: which digits a sum, a difference, a product has. It imports nothing of the program.
  How many digits a number needs, to the base 2, and its digits without noughts at the end. It imports nothing of the program.
  How many bits a number needs: math/bits.Len32 off the shelf, nat's Bits, and zelligeref03's Half and Bits.
  What nat's shiftUp and shiftDown answer, and math/bits.LeadingZeros32.
  What nat's guess answers: right, or one too high.
  What nat's shiftDown and takeOff answer.
  What nat's divideLong answers, and DivMod where the divisor has two words at least.
  What nat's DivMod answers.
  slices.Backward over a nat: what a loop over it is handed.
  What nat's Cmp answers.
  What nat's Cmp answers where both numbers have the same length.
  What nat's Sub answers.
  Decimal digits of numbers of any length, and bytes of texts as numbers. It imports nothing of the program.
  Numbers as digits to the base 1000000000: which digits a sum, a difference, a product has. It imports nothing of the program.
  How many digits a number needs, to the base 1000000000, and its digits without noughts at the end. It imports nothing of the program.
  What nat's piecesOf answers.
  strings.TrimLeft at the cutset "0".
  What nat's Show answers.
  What nat answers, with letters for the lengths: the contracts of the other texts, said once more for those who call nat.
  Slices apart from a block, so that what is stored there leaves them as they are; and what nat answers, apart from all that was there before.
  Whole numbers in memory; what package whole's signed and plus answer.
  What package whole's Add, Sub, Neg, Norm and Mul answer.
  What package whole's Of, Sign and Show answer.
  What package whole's Floor answers.
  Points over a torus: which can be, where they lie, in which order. It imports nothing of the program.
  Areas, squares of distances, the circle's determinant: how great they are, what becomes of them when points are put for one another or moved. It imports nothing of the program.
  Which of two triangles is taken, where four points lie on a circle: the order of points, what does away with what, and that it is an order among the points to the left of an edge. It imports nothing of the program.
  Of the points to the left of an edge, what does away with what is an order: so of some there is one with which none does away. It imports nothing of the program.
  Blocks of three and of four cells: what they hold, and that they can be written.
  Blocks of two to four cells, made one behind the other, and what they hold behind a store into another. It imports nothing of the program.
  What package whole's Cmp answers.
-/
import Derived.Test.YtnemailhijkemaaP1
import Derived.WalkKit
import Derived.Shelf.Abstract
import Derived.Lib.ItoaNum
import Derived.BigQuiet
import Derived.RangeFuncNested
import Derived.RangeFuncBound
import Derived.RangeFuncCalls
import Derived.RangeFuncLeaves
import Derived.RangeFuncBox
import Derived.Shelf.RegionOpen
import Derived.OwnWalkIn
import Derived.TacticsInMore
import Derived.LoopNIn
import Derived.LoopIn
import Derived.Laws.BytesArg
import Derived.Deep.AppendLies
import Derived.Lib.IndexBytes
import Derived.Deep.RegionHeld3
namespace Go.Proofs.Ytnemailhijkemaa.bt
open Go.RowKit

/-- Digit i of v, to the base 2 (of a number below nought: of v modulo as many digits as you like). -/
def dg (v : Int) (i : Nat) : Int := v / 2 ^ i % 2
theorem dg_range (v : Int) (i : Nat) : 0 ≤ dg v i ∧ dg v i < 2 := by unfold dg; omega
theorem p256 (i : Nat) : (0 : Int) < 2 ^ i := Int.pow_pos (by decide)
/-- n digits: at the places that p names those of u, at the others those of v. -/
def fill (n : Nat) (p : Nat → Bool) (u v : Int) : List Value := (List.range n).map fun j => .int .i64 (if p j then dg u j else dg v j)
def dcells (n : Nat) (v : Int) : List Value := (List.range n).map fun j => .int .i64 (dg v j)
def mix (n i : Nat) (u v : Int) : List Value := fill n (fun j => decide (j < i)) u v
theorem fill_length (n : Nat) (p : Nat → Bool) (u v : Int) : (fill n p u v).length = n := by simp [fill]
theorem mix_length (n i : Nat) (u v : Int) : (mix n i u v).length = n := fill_length _ _ _ _
theorem dcells_length (n : Nat) (v : Int) : (dcells n v).length = n := by simp [dcells]
theorem dcells_at (n : Nat) (v : Int) (i : Nat) (h : i < n) : (dcells n v)[i]? = some (.int .i64 (dg v i)) := by simp [dcells, h]
theorem fill_at (n : Nat) (p : Nat → Bool) (u v : Int) (i : Nat) (h : i < n) : (fill n p u v)[i]? = some (.int .i64 (if p i then dg u i else dg v i)) := by simp [fill, h]
theorem mix_at (n k : Nat) (u v : Int) (i : Nat) (h : i < n) (hk : k ≤ i) : (mix n k u v)[i]? = some (.int .i64 (dg v i)) := by
  rw [mix, fill_at _ _ _ _ _ h]; simp; omega
theorem fill_congr {n : Nat} {p q : Nat → Bool} {u v u' v' : Int} (h : ∀ j, j < n → (if p j then dg u j else dg v j) = (if q j then dg u' j else dg v' j)) : fill n p u v = fill n q u' v' := by
  unfold fill
  refine List.map_congr_left fun j hj => ?_
  rw [h j (by simpa using hj)]
theorem fill_set (n : Nat) (p : Nat → Bool) (u v : Int) (i : Nat) : (fill n p u v).set i (.int .i64 (dg u i)) = fill n (fun j => p j || j == i) u v := by
  refine List.ext_getElem? fun j => ?_
  rw [List.getElem?_set]
  by_cases e : i = j
  · subst e
    by_cases h : i < n
    · rw [if_pos rfl, if_pos (by rw [fill_length]; exact h), fill_at _ _ _ _ _ h]; simp
    · rw [if_pos rfl, if_neg (by rw [fill_length]; exact h), List.getElem?_eq_none (by rw [fill_length]; omega)]
  · by_cases h : j < n
    · rw [if_neg e, fill_at _ _ _ _ _ h, fill_at _ _ _ _ _ h]
      have e' : (j == i) = false := by simp; omega
      simp [e']
    · rw [if_neg e, List.getElem?_eq_none (by simp [fill_length]; omega), List.getElem?_eq_none (by simp [fill_length]; omega)]
theorem mix_set (n i : Nat) (u v : Int) : (mix n i u v).set i (.int .i64 (dg u i)) = mix n (i + 1) u v := by
  unfold mix
  rw [fill_set]
  refine fill_congr fun j _ => ?_
  have : (decide (j < i) || j == i) = decide (j < i + 1) := by rw [Bool.eq_iff_iff]; simp; omega
  rw [this]
theorem mix_zero (n : Nat) (u v : Int) : mix n 0 u v = dcells n v := by unfold mix fill dcells; simp
theorem mix_full (n : Nat) (u v : Int) : mix n n u v = dcells n u := by
  unfold mix fill dcells
  refine List.map_congr_left fun j hj => ?_
  have : j < n := by simpa using hj
  simp [this]
/-- The digits of two numbers that are the same modulo 2^i are the same below place i. -/
theorem dg_congr {u v : Int} {i j : Nat} (t : Int) (h : u = v + t * 2 ^ i) (hj : j < i) : dg u j = dg v j := by
  unfold dg
  obtain ⟨d, rfl⟩ : ∃ d, i = j + 1 + d := ⟨i - (j + 1), by omega⟩
  have e : t * (2 : Int) ^ (j + 1 + d) = (2 * (t * 2 ^ d)) * 2 ^ j := by
    rw [show j + 1 + d = d + 1 + j by omega, Int.pow_add, Int.pow_succ, ← Int.mul_assoc, ← Int.mul_assoc, Int.mul_comm (t * 2 ^ d) 2]
  rw [h, e, Int.add_mul_ediv_right _ _ (Int.ne_of_gt (p256 j))]
  omega
/-- The carry into place i when x and y are added. -/
def carry (x y : Int) (i : Nat) : Int := (x % 2 ^ i + y % 2 ^ i) / 2 ^ i
theorem carry_zero (x y : Int) : carry x y 0 = 0 := by simp [carry]
theorem emod_succ (x : Int) (i : Nat) : x % 2 ^ (i + 1) = dg x i * 2 ^ i + x % 2 ^ i := by
  unfold dg
  have hp := p256 i
  have h1 := Int.mul_ediv_add_emod x (2 ^ i)
  have h2 := Int.mul_ediv_add_emod (x / 2 ^ i) 2
  have b := Int.emod_nonneg x (Int.ne_of_gt hp)
  have b' := Int.emod_lt_of_pos x hp
  have c := Int.emod_nonneg (x / 2 ^ i) (show (2 : Int) ≠ 0 by decide)
  have c' := Int.emod_lt_of_pos (x / 2 ^ i) (show (0 : Int) < 2 by decide)
  have e : x = (x / 2 ^ i % 2 * 2 ^ i + x % 2 ^ i) + (x / 2 ^ i / 2) * 2 ^ (i + 1) := by
    have : (x / 2 ^ i / 2) * (2 : Int) ^ (i + 1) = (2 * (x / 2 ^ i / 2)) * 2 ^ i := by rw [Int.pow_succ, Int.mul_comm ((2 : Int) ^ i) 2, ← Int.mul_assoc, Int.mul_comm _ 2]
    rw [this]
    have h3 : (2 * (x / 2 ^ i / 2)) * (2 : Int) ^ i + x / 2 ^ i % 2 * 2 ^ i = x / 2 ^ i * 2 ^ i := by rw [← Int.add_mul, h2]
    have h4 : x / 2 ^ i * (2 : Int) ^ i = 2 ^ i * (x / 2 ^ i) := Int.mul_comm _ _
    omega
  have l0 : 0 ≤ x / 2 ^ i % 2 * 2 ^ i + x % 2 ^ i := Int.add_nonneg (Int.mul_nonneg c (Int.le_of_lt hp)) b
  have l1 : x / 2 ^ i % 2 * 2 ^ i + x % 2 ^ i < 2 ^ (i + 1) := by
    have : x / 2 ^ i % 2 * (2 : Int) ^ i ≤ 1 * 2 ^ i := Int.mul_le_mul_of_nonneg_right (by omega) (Int.le_of_lt hp)
    rw [Int.pow_succ]
    omega
  have key : x % 2 ^ (i + 1) = (x / 2 ^ i % 2 * 2 ^ i + x % 2 ^ i) % 2 ^ (i + 1) := by
    have := congrArg (· % (2 : Int) ^ (i + 1)) e
    simpa [Int.add_mul_emod_self_right] using this
  rw [key, Int.emod_eq_of_lt l0 l1]
theorem carry_sum (x y : Int) (i : Nat) : (x % 2 ^ (i + 1) + y % 2 ^ (i + 1)) / 2 ^ i = carry x y i + dg x i + dg y i := by
  rw [emod_succ, emod_succ]
  unfold carry
  have e : dg x i * 2 ^ i + x % 2 ^ i + (dg y i * 2 ^ i + y % 2 ^ i) = (x % 2 ^ i + y % 2 ^ i) + (dg x i + dg y i) * 2 ^ i := by rw [Int.add_mul]; omega
  rw [e, Int.add_mul_ediv_right _ _ (Int.ne_of_gt (p256 i))]
  omega
theorem carry_succ (x y : Int) (i : Nat) : carry x y (i + 1) = (carry x y i + dg x i + dg y i) / 2 := by
  rw [← carry_sum]
  show (x % 2 ^ (i + 1) + y % 2 ^ (i + 1)) / 2 ^ (i + 1) = _
  have hp := p256 i
  rw [Int.pow_succ, Int.ediv_ediv, if_neg (by omega)]
  omega
theorem add_digit (x y : Int) (i : Nat) : (carry x y i + dg x i + dg y i) % 2 = dg (x + y) i := by
  unfold dg carry
  have hp := p256 i
  have h1 := Int.mul_ediv_add_emod x (2 ^ i)
  have h2 := Int.mul_ediv_add_emod y (2 ^ i)
  have e : x + y = (x % 2 ^ i + y % 2 ^ i) + (x / 2 ^ i + y / 2 ^ i) * 2 ^ i := by
    have a1 : x / 2 ^ i * (2 : Int) ^ i = 2 ^ i * (x / 2 ^ i) := Int.mul_comm _ _
    have a2 : y / 2 ^ i * (2 : Int) ^ i = 2 ^ i * (y / 2 ^ i) := Int.mul_comm _ _
    rw [Int.add_mul]; omega
  have e2 : (x + y) / 2 ^ i = (x % 2 ^ i + y % 2 ^ i) / 2 ^ i + (x / 2 ^ i + y / 2 ^ i) := by
    conv => lhs; rw [e]
    exact Int.add_mul_ediv_right _ _ (Int.ne_of_gt hp)
  rw [e2]
  omega
theorem carry_range (x y : Int) (i : Nat) : 0 ≤ carry x y i ∧ carry x y i ≤ 1 := by
  unfold carry
  have hp := p256 i
  have a := Int.emod_nonneg x (Int.ne_of_gt hp)
  have a' := Int.emod_lt_of_pos x hp
  have b := Int.emod_nonneg y (Int.ne_of_gt hp)
  have b' := Int.emod_lt_of_pos y hp
  refine ⟨Int.ediv_nonneg (by omega) (by omega), ?_⟩
  have : (x % 2 ^ i + y % 2 ^ i) / 2 ^ i < 2 := Int.ediv_lt_of_lt_mul hp (by omega)
  omega
end Go.Proofs.Ytnemailhijkemaa.bt

namespace Go.Proofs.Ytnemailhijkemaa.bt
open Go.RowKit
set_option linter.unusedVariables false

/-- v needs n digits: none for nought. -/
def IsLen (v n : Nat) : Prop := v < 2 ^ n ∧ (n = 0 ∨ 2 ^ (n - 1) ≤ v)
theorem isLen_one {v n m : Nat} (h : IsLen v n) (h' : IsLen v m) : n = m := by
  obtain ⟨a, b⟩ := h
  obtain ⟨a', b'⟩ := h'
  rcases Nat.lt_trichotomy n m with e | e | e
  · rcases b' with b' | b'
    · omega
    · have := Nat.pow_le_pow_right (n := 2) (by decide) (show n ≤ m - 1 by omega)
      omega
  · exact e
  · rcases b with b | b
    · omega
    · have := Nat.pow_le_pow_right (n := 2) (by decide) (show m ≤ n - 1 by omega)
      omega
/-- A number below 2^n has a length of n at most, and is found by cutting noughts off the end. -/
theorem isLen_cut : ∀ (n v : Nat), v < 2 ^ n → ∃ m, m ≤ n ∧ IsLen v m
  | 0, v, h => ⟨0, Nat.le_refl _, h, Or.inl rfl⟩
  | n + 1, v, h => by
    by_cases c : v < 2 ^ n
    · obtain ⟨m, h1, h2⟩ := isLen_cut n v c
      exact ⟨m, by omega, h2⟩
    · exact ⟨n + 1, Nat.le_refl _, h, Or.inr (by simp; omega)⟩
/-- How many digits v needs. -/
def nlen (v : Nat) : Nat := if h : v = 0 then 0 else nlen (v / 2) + 1
  termination_by v
  decreasing_by exact Nat.div_lt_self (Nat.pos_of_ne_zero h) (by decide)
theorem nlen_is (v : Nat) : IsLen v (nlen v) := by
  induction v using Nat.strongRecOn with
  | ind v ih =>
    unfold nlen
    split
    · rename_i h
      rw [h]
      exact ⟨by decide, Or.inl rfl⟩
    · rename_i h
      obtain ⟨h1, h2⟩ := ih (v / 2) (Nat.div_lt_self (Nat.pos_of_ne_zero h) (by decide))
      refine ⟨?_, Or.inr ?_⟩
      · rw [Nat.pow_succ]
        exact (Nat.div_lt_iff_lt_mul (by decide)).1 h1
      · rw [Nat.add_sub_cancel]
        rcases h2 with h2 | h2
        · rw [h2]
          exact Nat.pos_of_ne_zero h
        · rcases Nat.eq_zero_or_pos (nlen (v / 2)) with h3 | h3
          · rw [h3]
            exact Nat.pos_of_ne_zero h
          · have h4 := (Nat.le_div_iff_mul_le (by decide)).1 h2
            rw [← Nat.pow_succ] at h4
            rwa [show (nlen (v / 2) - 1).succ = nlen (v / 2) by omega] at h4
theorem nlen_eq {v n : Nat} (h : IsLen v n) : nlen v = n := isLen_one (nlen_is v) h
theorem nlen_le {v n : Nat} (h : v < 2 ^ n) : nlen v ≤ n := by
  obtain ⟨m, h1, h2⟩ := isLen_cut n v h
  rw [nlen_eq h2]; exact h1
theorem nlen_zero : nlen 0 = 0 := nlen_eq ⟨by decide, Or.inl rfl⟩
theorem nlen_lt (v : Nat) : v < 2 ^ nlen v := (nlen_is v).1
theorem nlen_pos {v : Nat} (h : 0 < v) : 0 < nlen v := by
  rcases Nat.lt_or_ge 0 (nlen v) with l | l
  · exact l
  · have := nlen_lt v
    rw [show nlen v = 0 by omega] at this
    simp at this
    omega
/-- The longer number is the greater. -/
theorem lt_of_nlen {u v : Nat} (h : nlen u < nlen v) : u < v := by
  obtain ⟨_, b⟩ := nlen_is v
  rcases b with b | b
  · omega
  · have := nlen_lt u
    have := Nat.pow_le_pow_right (n := 2) (by decide) (show nlen u ≤ nlen v - 1 by omega)
    omega
theorem pow_cast (k : Nat) : ((2 ^ k : Nat) : Int) = (2 : Int) ^ k := by rw [Int.natCast_pow]; rfl
theorem dg_nat (v k : Nat) : dg (v : Int) k = ((v / 2 ^ k % 2 : Nat) : Int) := by
  unfold dg
  rw [← pow_cast]
  omega
/-- The digit at a place that a number does not reach is nought; the highest one that it has is not. -/
theorem dg_over {v k : Nat} (h : v < 2 ^ k) : dg (v : Int) k = 0 := by rw [dg_nat, Nat.div_eq_of_lt h]; rfl
theorem dg_top {v n : Nat} (h : IsLen v (n + 1)) : dg (v : Int) n ≠ 0 := by
  obtain ⟨a, b⟩ := h
  have b : 2 ^ n ≤ v := by
    rcases b with b | b
    · omega
    · exact b
  rw [dg_nat]
  have h1 : 1 ≤ v / 2 ^ n := (Nat.one_le_div_iff (Nat.pow_pos (by decide))).2 b
  have h2 : v / 2 ^ n < 2 := by
    rw [Nat.pow_succ] at a
    exact Nat.div_lt_of_lt_mul a
  rw [Nat.mod_eq_of_lt h2]
  omega
/-- One nought at the end cut off. -/
theorem lt_of_dg_zero {v n : Nat} (h : v < 2 ^ (n + 1)) (z : dg (v : Int) n = 0) : v < 2 ^ n := by
  rcases Nat.lt_or_ge v (2 ^ n) with l | l
  · exact l
  · exact absurd z (dg_top ⟨h, Or.inr (by simpa using l)⟩)
/-- Two numbers of n digits with the same digits are the same. -/
theorem eq_of_dcells : ∀ (n : Nat) (u v : Nat), u < 2 ^ n → v < 2 ^ n → (∀ j, j < n → dg (u : Int) j = dg (v : Int) j) → u = v := by
  intro n
  induction n with
  | zero => intro u v hu hv _; simp at hu hv; omega
  | succ n ih =>
    intro u v hu hv h
    have e := ih (u % 2 ^ n) (v % 2 ^ n) (Nat.mod_lt _ (Nat.pow_pos (by decide))) (Nat.mod_lt _ (Nat.pow_pos (by decide))) (fun j hj => by
      have a : ∀ x : Nat, dg ((x % 2 ^ n : Nat) : Int) j = dg (x : Int) j := fun x => by
        refine dg_congr (i := n) (-((x / 2 ^ n : Nat) : Int)) ?_ hj
        have := Nat.mod_add_div x (2 ^ n)
        rw [← pow_cast, Int.neg_mul, ← Int.natCast_mul, Nat.mul_comm (x / 2 ^ n)]
        omega
      rw [a, a]
      exact h j (by omega))
    have t := h n (by omega)
    rw [dg_nat, dg_nat] at t
    have du : u / 2 ^ n < 2 := by rw [Nat.pow_succ] at hu; exact Nat.div_lt_of_lt_mul hu
    have dv : v / 2 ^ n < 2 := by rw [Nat.pow_succ] at hv; exact Nat.div_lt_of_lt_mul hv
    rw [Nat.mod_eq_of_lt du, Nat.mod_eq_of_lt dv] at t
    have t' : u / 2 ^ n = v / 2 ^ n := by omega
    have h1 := Nat.mod_add_div u (2 ^ n)
    have h2 := Nat.mod_add_div v (2 ^ n)
    rw [e, t'] at h1
    omega
end Go.Proofs.Ytnemailhijkemaa.bt

namespace Go.Proofs.Ytnemailhijkemaa
open Go.RowKit Go.Shelf
set_option linter.unusedVariables false

end Go.Proofs.Ytnemailhijkemaa

namespace Go.Proofs.Ytnemailhijkemaa
open Go.RowKit
set_option linter.unusedVariables false

end Go.Proofs.Ytnemailhijkemaa

namespace Go.Proofs.Ytnemailhijkemaa
open Go.RowKit
set_option linter.unusedVariables false

end Go.Proofs.Ytnemailhijkemaa

namespace Go.Proofs.Ytnemailhijkemaa
open Go.RowKit
set_option linter.unusedVariables false

end Go.Proofs.Ytnemailhijkemaa

namespace Go.Proofs.Ytnemailhijkemaa
open Go.RowKit
set_option linter.unusedVariables false

end Go.Proofs.Ytnemailhijkemaa

namespace Go.Proofs.Ytnemailhijkemaa
open Go.RowKit
set_option linter.unusedVariables false

end Go.Proofs.Ytnemailhijkemaa

namespace Go.Proofs.Ytnemailhijkemaa
open Go.RowKit Go.Shelf
set_option linter.unusedVariables false
attribute [local go_sem] Oper.semAt_some

end Go.Proofs.Ytnemailhijkemaa

namespace Go.Proofs.Ytnemailhijkemaa
open Go.RowKit Go.Shelf
set_option linter.unusedVariables false
attribute [local go_sem] Oper.semAt_some

/-- -1, 0 or 1. -/
def cmpI (x y : Int) : Int := if x < y then -1 else if y < x then 1 else 0
end Go.Proofs.Ytnemailhijkemaa

namespace Go.Proofs.Ytnemailhijkemaa
open Go.RowKit Go.Shelf
set_option linter.unusedVariables false
attribute [local go_sem] Oper.semAt_some

theorem cmpI_self (x : Int) : cmpI x x = 0 := by unfold cmpI; simp

end Go.Proofs.Ytnemailhijkemaa

namespace Go.Proofs.Ytnemailhijkemaa
open Go.RowKit
set_option linter.unusedVariables false

end Go.Proofs.Ytnemailhijkemaa

namespace Go.Proofs.Ytnemailhijkemaa

end Go.Proofs.Ytnemailhijkemaa

namespace Go.Proofs.Ytnemailhijkemaa.pc
open Go.RowKit

/-- Digit i of v, to the base 1000000000 (of a number below nought: of v modulo as many digits as you like). -/
def dg (v : Int) (i : Nat) : Int := v / 1000000000 ^ i % 1000000000
theorem dg_range (v : Int) (i : Nat) : 0 ≤ dg v i ∧ dg v i < 1000000000 := by unfold dg; omega
theorem p256 (i : Nat) : (0 : Int) < 1000000000 ^ i := Int.pow_pos (by decide)
/-- n digits: at the places that p names those of u, at the others those of v. -/
def fill (n : Nat) (p : Nat → Bool) (u v : Int) : List Value := (List.range n).map fun j => .int .u32 (if p j then dg u j else dg v j)
def dcells (n : Nat) (v : Int) : List Value := (List.range n).map fun j => .int .u32 (dg v j)
def mix (n i : Nat) (u v : Int) : List Value := fill n (fun j => decide (j < i)) u v
theorem fill_length (n : Nat) (p : Nat → Bool) (u v : Int) : (fill n p u v).length = n := by simp [fill]
theorem mix_length (n i : Nat) (u v : Int) : (mix n i u v).length = n := fill_length _ _ _ _
theorem dcells_length (n : Nat) (v : Int) : (dcells n v).length = n := by simp [dcells]
theorem dcells_at (n : Nat) (v : Int) (i : Nat) (h : i < n) : (dcells n v)[i]? = some (.int .u32 (dg v i)) := by simp [dcells, h]
theorem fill_at (n : Nat) (p : Nat → Bool) (u v : Int) (i : Nat) (h : i < n) : (fill n p u v)[i]? = some (.int .u32 (if p i then dg u i else dg v i)) := by simp [fill, h]
theorem mix_at (n k : Nat) (u v : Int) (i : Nat) (h : i < n) (hk : k ≤ i) : (mix n k u v)[i]? = some (.int .u32 (dg v i)) := by
  rw [mix, fill_at _ _ _ _ _ h]; simp; omega
theorem fill_congr {n : Nat} {p q : Nat → Bool} {u v u' v' : Int} (h : ∀ j, j < n → (if p j then dg u j else dg v j) = (if q j then dg u' j else dg v' j)) : fill n p u v = fill n q u' v' := by
  unfold fill
  refine List.map_congr_left fun j hj => ?_
  rw [h j (by simpa using hj)]
theorem fill_set (n : Nat) (p : Nat → Bool) (u v : Int) (i : Nat) : (fill n p u v).set i (.int .u32 (dg u i)) = fill n (fun j => p j || j == i) u v := by
  refine List.ext_getElem? fun j => ?_
  rw [List.getElem?_set]
  by_cases e : i = j
  · subst e
    by_cases h : i < n
    · rw [if_pos rfl, if_pos (by rw [fill_length]; exact h), fill_at _ _ _ _ _ h]; simp
    · rw [if_pos rfl, if_neg (by rw [fill_length]; exact h), List.getElem?_eq_none (by rw [fill_length]; omega)]
  · by_cases h : j < n
    · rw [if_neg e, fill_at _ _ _ _ _ h, fill_at _ _ _ _ _ h]
      have e' : (j == i) = false := by simp; omega
      simp [e']
    · rw [if_neg e, List.getElem?_eq_none (by simp [fill_length]; omega), List.getElem?_eq_none (by simp [fill_length]; omega)]
theorem mix_set (n i : Nat) (u v : Int) : (mix n i u v).set i (.int .u32 (dg u i)) = mix n (i + 1) u v := by
  unfold mix
  rw [fill_set]
  refine fill_congr fun j _ => ?_
  have : (decide (j < i) || j == i) = decide (j < i + 1) := by rw [Bool.eq_iff_iff]; simp; omega
  rw [this]
theorem mix_zero (n : Nat) (u v : Int) : mix n 0 u v = dcells n v := by unfold mix fill dcells; simp
theorem mix_full (n : Nat) (u v : Int) : mix n n u v = dcells n u := by
  unfold mix fill dcells
  refine List.map_congr_left fun j hj => ?_
  have : j < n := by simpa using hj
  simp [this]
/-- The digits of two numbers that are the same modulo 1000000000^i are the same below place i. -/
theorem dg_congr {u v : Int} {i j : Nat} (t : Int) (h : u = v + t * 1000000000 ^ i) (hj : j < i) : dg u j = dg v j := by
  unfold dg
  obtain ⟨d, rfl⟩ : ∃ d, i = j + 1 + d := ⟨i - (j + 1), by omega⟩
  have e : t * (1000000000 : Int) ^ (j + 1 + d) = (1000000000 * (t * 1000000000 ^ d)) * 1000000000 ^ j := by
    rw [show j + 1 + d = d + 1 + j by omega, Int.pow_add, Int.pow_succ, ← Int.mul_assoc, ← Int.mul_assoc, Int.mul_comm (t * 1000000000 ^ d) 1000000000]
  rw [h, e, Int.add_mul_ediv_right _ _ (Int.ne_of_gt (p256 j))]
  omega
/-- The carry into place i when x and y are added. -/
def carry (x y : Int) (i : Nat) : Int := (x % 1000000000 ^ i + y % 1000000000 ^ i) / 1000000000 ^ i
theorem carry_zero (x y : Int) : carry x y 0 = 0 := by simp [carry]
theorem emod_succ (x : Int) (i : Nat) : x % 1000000000 ^ (i + 1) = dg x i * 1000000000 ^ i + x % 1000000000 ^ i := by
  unfold dg
  have hp := p256 i
  have h1 := Int.mul_ediv_add_emod x (1000000000 ^ i)
  have h2 := Int.mul_ediv_add_emod (x / 1000000000 ^ i) 1000000000
  have b := Int.emod_nonneg x (Int.ne_of_gt hp)
  have b' := Int.emod_lt_of_pos x hp
  have c := Int.emod_nonneg (x / 1000000000 ^ i) (show (1000000000 : Int) ≠ 0 by decide)
  have c' := Int.emod_lt_of_pos (x / 1000000000 ^ i) (show (0 : Int) < 1000000000 by decide)
  have e : x = (x / 1000000000 ^ i % 1000000000 * 1000000000 ^ i + x % 1000000000 ^ i) + (x / 1000000000 ^ i / 1000000000) * 1000000000 ^ (i + 1) := by
    have : (x / 1000000000 ^ i / 1000000000) * (1000000000 : Int) ^ (i + 1) = (1000000000 * (x / 1000000000 ^ i / 1000000000)) * 1000000000 ^ i := by rw [Int.pow_succ, Int.mul_comm ((1000000000 : Int) ^ i) 1000000000, ← Int.mul_assoc, Int.mul_comm _ 1000000000]
    rw [this]
    have h3 : (1000000000 * (x / 1000000000 ^ i / 1000000000)) * (1000000000 : Int) ^ i + x / 1000000000 ^ i % 1000000000 * 1000000000 ^ i = x / 1000000000 ^ i * 1000000000 ^ i := by rw [← Int.add_mul, h2]
    have h4 : x / 1000000000 ^ i * (1000000000 : Int) ^ i = 1000000000 ^ i * (x / 1000000000 ^ i) := Int.mul_comm _ _
    omega
  have l0 : 0 ≤ x / 1000000000 ^ i % 1000000000 * 1000000000 ^ i + x % 1000000000 ^ i := Int.add_nonneg (Int.mul_nonneg c (Int.le_of_lt hp)) b
  have l1 : x / 1000000000 ^ i % 1000000000 * 1000000000 ^ i + x % 1000000000 ^ i < 1000000000 ^ (i + 1) := by
    have : x / 1000000000 ^ i % 1000000000 * (1000000000 : Int) ^ i ≤ 999999999 * 1000000000 ^ i := Int.mul_le_mul_of_nonneg_right (by omega) (Int.le_of_lt hp)
    rw [Int.pow_succ]
    omega
  have key : x % 1000000000 ^ (i + 1) = (x / 1000000000 ^ i % 1000000000 * 1000000000 ^ i + x % 1000000000 ^ i) % 1000000000 ^ (i + 1) := by
    have := congrArg (· % (1000000000 : Int) ^ (i + 1)) e
    simpa [Int.add_mul_emod_self_right] using this
  rw [key, Int.emod_eq_of_lt l0 l1]
theorem carry_sum (x y : Int) (i : Nat) : (x % 1000000000 ^ (i + 1) + y % 1000000000 ^ (i + 1)) / 1000000000 ^ i = carry x y i + dg x i + dg y i := by
  rw [emod_succ, emod_succ]
  unfold carry
  have e : dg x i * 1000000000 ^ i + x % 1000000000 ^ i + (dg y i * 1000000000 ^ i + y % 1000000000 ^ i) = (x % 1000000000 ^ i + y % 1000000000 ^ i) + (dg x i + dg y i) * 1000000000 ^ i := by rw [Int.add_mul]; omega
  rw [e, Int.add_mul_ediv_right _ _ (Int.ne_of_gt (p256 i))]
  omega
theorem carry_succ (x y : Int) (i : Nat) : carry x y (i + 1) = (carry x y i + dg x i + dg y i) / 1000000000 := by
  rw [← carry_sum]
  show (x % 1000000000 ^ (i + 1) + y % 1000000000 ^ (i + 1)) / 1000000000 ^ (i + 1) = _
  have hp := p256 i
  rw [Int.pow_succ, Int.ediv_ediv, if_neg (by omega)]
  omega
theorem add_digit (x y : Int) (i : Nat) : (carry x y i + dg x i + dg y i) % 1000000000 = dg (x + y) i := by
  unfold dg carry
  have hp := p256 i
  have h1 := Int.mul_ediv_add_emod x (1000000000 ^ i)
  have h2 := Int.mul_ediv_add_emod y (1000000000 ^ i)
  have e : x + y = (x % 1000000000 ^ i + y % 1000000000 ^ i) + (x / 1000000000 ^ i + y / 1000000000 ^ i) * 1000000000 ^ i := by
    have a1 : x / 1000000000 ^ i * (1000000000 : Int) ^ i = 1000000000 ^ i * (x / 1000000000 ^ i) := Int.mul_comm _ _
    have a2 : y / 1000000000 ^ i * (1000000000 : Int) ^ i = 1000000000 ^ i * (y / 1000000000 ^ i) := Int.mul_comm _ _
    rw [Int.add_mul]; omega
  have e2 : (x + y) / 1000000000 ^ i = (x % 1000000000 ^ i + y % 1000000000 ^ i) / 1000000000 ^ i + (x / 1000000000 ^ i + y / 1000000000 ^ i) := by
    conv => lhs; rw [e]
    exact Int.add_mul_ediv_right _ _ (Int.ne_of_gt hp)
  rw [e2]
  omega
theorem carry_range (x y : Int) (i : Nat) : 0 ≤ carry x y i ∧ carry x y i ≤ 1 := by
  unfold carry
  have hp := p256 i
  have a := Int.emod_nonneg x (Int.ne_of_gt hp)
  have a' := Int.emod_lt_of_pos x hp
  have b := Int.emod_nonneg y (Int.ne_of_gt hp)
  have b' := Int.emod_lt_of_pos y hp
  refine ⟨Int.ediv_nonneg (by omega) (by omega), ?_⟩
  have : (x % 1000000000 ^ i + y % 1000000000 ^ i) / 1000000000 ^ i < 2 := Int.ediv_lt_of_lt_mul hp (by omega)
  omega
end Go.Proofs.Ytnemailhijkemaa.pc

namespace Go.Proofs.Ytnemailhijkemaa.pc
open Go.RowKit
set_option linter.unusedVariables false

/-- v needs n digits: none for nought. -/
def IsLen (v n : Nat) : Prop := v < 1000000000 ^ n ∧ (n = 0 ∨ 1000000000 ^ (n - 1) ≤ v)
theorem isLen_one {v n m : Nat} (h : IsLen v n) (h' : IsLen v m) : n = m := by
  obtain ⟨a, b⟩ := h
  obtain ⟨a', b'⟩ := h'
  rcases Nat.lt_trichotomy n m with e | e | e
  · rcases b' with b' | b'
    · omega
    · have := Nat.pow_le_pow_right (n := 1000000000) (by decide) (show n ≤ m - 1 by omega)
      omega
  · exact e
  · rcases b with b | b
    · omega
    · have := Nat.pow_le_pow_right (n := 1000000000) (by decide) (show m ≤ n - 1 by omega)
      omega
/-- A number below 1000000000^n has a length of n at most, and is found by cutting noughts off the end. -/
theorem isLen_cut : ∀ (n v : Nat), v < 1000000000 ^ n → ∃ m, m ≤ n ∧ IsLen v m
  | 0, v, h => ⟨0, Nat.le_refl _, h, Or.inl rfl⟩
  | n + 1, v, h => by
    by_cases c : v < 1000000000 ^ n
    · obtain ⟨m, h1, h2⟩ := isLen_cut n v c
      exact ⟨m, by omega, h2⟩
    · exact ⟨n + 1, Nat.le_refl _, h, Or.inr (by simp; omega)⟩
/-- How many digits v needs. -/
def nlen (v : Nat) : Nat := if h : v = 0 then 0 else nlen (v / 1000000000) + 1
  termination_by v
  decreasing_by exact Nat.div_lt_self (Nat.pos_of_ne_zero h) (by decide)
theorem nlen_is (v : Nat) : IsLen v (nlen v) := by
  induction v using Nat.strongRecOn with
  | ind v ih =>
    unfold nlen
    split
    · rename_i h
      rw [h]
      exact ⟨by decide, Or.inl rfl⟩
    · rename_i h
      obtain ⟨h1, h2⟩ := ih (v / 1000000000) (Nat.div_lt_self (Nat.pos_of_ne_zero h) (by decide))
      refine ⟨?_, Or.inr ?_⟩
      · rw [Nat.pow_succ]
        exact (Nat.div_lt_iff_lt_mul (by decide)).1 h1
      · rw [Nat.add_sub_cancel]
        rcases h2 with h2 | h2
        · rw [h2]
          exact Nat.pos_of_ne_zero h
        · rcases Nat.eq_zero_or_pos (nlen (v / 1000000000)) with h3 | h3
          · rw [h3]
            exact Nat.pos_of_ne_zero h
          · have h4 := (Nat.le_div_iff_mul_le (by decide)).1 h2
            rw [← Nat.pow_succ] at h4
            rwa [show (nlen (v / 1000000000) - 1).succ = nlen (v / 1000000000) by omega] at h4
theorem nlen_eq {v n : Nat} (h : IsLen v n) : nlen v = n := isLen_one (nlen_is v) h
theorem nlen_le {v n : Nat} (h : v < 1000000000 ^ n) : nlen v ≤ n := by
  obtain ⟨m, h1, h2⟩ := isLen_cut n v h
  rw [nlen_eq h2]; exact h1
theorem nlen_zero : nlen 0 = 0 := nlen_eq ⟨by decide, Or.inl rfl⟩
theorem nlen_lt (v : Nat) : v < 1000000000 ^ nlen v := (nlen_is v).1
theorem nlen_pos {v : Nat} (h : 0 < v) : 0 < nlen v := by
  rcases Nat.lt_or_ge 0 (nlen v) with l | l
  · exact l
  · have := nlen_lt v
    rw [show nlen v = 0 by omega] at this
    simp at this
    omega
/-- The longer number is the greater. -/
theorem lt_of_nlen {u v : Nat} (h : nlen u < nlen v) : u < v := by
  obtain ⟨_, b⟩ := nlen_is v
  rcases b with b | b
  · omega
  · have := nlen_lt u
    have := Nat.pow_le_pow_right (n := 1000000000) (by decide) (show nlen u ≤ nlen v - 1 by omega)
    omega
theorem pow_cast (k : Nat) : ((1000000000 ^ k : Nat) : Int) = (1000000000 : Int) ^ k := by rw [Int.natCast_pow]; rfl
theorem dg_nat (v k : Nat) : dg (v : Int) k = ((v / 1000000000 ^ k % 1000000000 : Nat) : Int) := by
  unfold dg
  rw [← pow_cast]
  omega
/-- The digit at a place that a number does not reach is nought; the highest one that it has is not. -/
theorem dg_over {v k : Nat} (h : v < 1000000000 ^ k) : dg (v : Int) k = 0 := by rw [dg_nat, Nat.div_eq_of_lt h]; rfl
theorem dg_top {v n : Nat} (h : IsLen v (n + 1)) : dg (v : Int) n ≠ 0 := by
  obtain ⟨a, b⟩ := h
  have b : 1000000000 ^ n ≤ v := by
    rcases b with b | b
    · omega
    · exact b
  rw [dg_nat]
  have h1 : 1 ≤ v / 1000000000 ^ n := (Nat.one_le_div_iff (Nat.pow_pos (by decide))).2 b
  have h2 : v / 1000000000 ^ n < 1000000000 := by
    rw [Nat.pow_succ] at a
    exact Nat.div_lt_of_lt_mul a
  rw [Nat.mod_eq_of_lt h2]
  omega
/-- One nought at the end cut off. -/
theorem lt_of_dg_zero {v n : Nat} (h : v < 1000000000 ^ (n + 1)) (z : dg (v : Int) n = 0) : v < 1000000000 ^ n := by
  rcases Nat.lt_or_ge v (1000000000 ^ n) with l | l
  · exact l
  · exact absurd z (dg_top ⟨h, Or.inr (by simpa using l)⟩)
/-- Two numbers of n digits with the same digits are the same. -/
theorem eq_of_dcells : ∀ (n : Nat) (u v : Nat), u < 1000000000 ^ n → v < 1000000000 ^ n → (∀ j, j < n → dg (u : Int) j = dg (v : Int) j) → u = v := by
  intro n
  induction n with
  | zero => intro u v hu hv _; simp at hu hv; omega
  | succ n ih =>
    intro u v hu hv h
    have e := ih (u % 1000000000 ^ n) (v % 1000000000 ^ n) (Nat.mod_lt _ (Nat.pow_pos (by decide))) (Nat.mod_lt _ (Nat.pow_pos (by decide))) (fun j hj => by
      have a : ∀ x : Nat, dg ((x % 1000000000 ^ n : Nat) : Int) j = dg (x : Int) j := fun x => by
        refine dg_congr (i := n) (-((x / 1000000000 ^ n : Nat) : Int)) ?_ hj
        have := Nat.mod_add_div x (1000000000 ^ n)
        rw [← pow_cast, Int.neg_mul, ← Int.natCast_mul, Nat.mul_comm (x / 1000000000 ^ n)]
        omega
      rw [a, a]
      exact h j (by omega))
    have t := h n (by omega)
    rw [dg_nat, dg_nat] at t
    have du : u / 1000000000 ^ n < 1000000000 := by rw [Nat.pow_succ] at hu; exact Nat.div_lt_of_lt_mul hu
    have dv : v / 1000000000 ^ n < 1000000000 := by rw [Nat.pow_succ] at hv; exact Nat.div_lt_of_lt_mul hv
    rw [Nat.mod_eq_of_lt du, Nat.mod_eq_of_lt dv] at t
    have t' : u / 1000000000 ^ n = v / 1000000000 ^ n := by omega
    have h1 := Nat.mod_add_div u (1000000000 ^ n)
    have h2 := Nat.mod_add_div v (1000000000 ^ n)
    rw [e, t'] at h1
    omega
end Go.Proofs.Ytnemailhijkemaa.pc

namespace Go.Proofs.Ytnemailhijkemaa
open Go.RowKit
set_option linter.unusedVariables false

end Go.Proofs.Ytnemailhijkemaa

namespace Go.Proofs.Ytnemailhijkemaa
open Go.RowKit
set_option linter.unusedVariables false

end Go.Proofs.Ytnemailhijkemaa

namespace Go.Proofs.Ytnemailhijkemaa
open Go.RowKit
set_option linter.unusedVariables false

end Go.Proofs.Ytnemailhijkemaa

namespace Go.Proofs.Ytnemailhijkemaa
open Go.RowKit
set_option linter.unusedVariables false

/-- The slice is the number u, without noughts at its end. -/
structure ND (w : World) (a : Option Addr) (l c u : Nat) : Prop where
  sl : Sl w a l c (wd.dcells l (u : Int))
  len : l = wd.nlen u
/-- The slice is the number u, and not too long. -/
structure NI (w : World) (a : Option Addr) (l c u : Nat) : Prop where
  sl : Sl w a l c (wd.dcells l (u : Int))
  lt : u < 4294967296 ^ l
  few : l ≤ 1000000
theorem ND.below {w w' : World} {a : Option Addr} {l c u : Nat} (h : ND w a l c u) (hb : Below w.heap.size w w') : ND w' a l c u := ⟨h.sl.below hb, h.len⟩
theorem NI.below {w w' : World} {a : Option Addr} {l c u : Nat} (h : NI w a l c u) (hb : Below w.heap.size w w') : NI w' a l c u := ⟨h.sl.below hb, h.lt, h.few⟩
theorem ND.lt {w : World} {a : Option Addr} {l c u : Nat} (h : ND w a l c u) : u < 4294967296 ^ l := by rw [h.len]; exact wd.nlen_lt u
theorem ND.ni {w : World} {a : Option Addr} {l c u : Nat} (h : ND w a l c u) (K : Nat) (hK : K ≤ 1000000) (hu : u < 4294967296 ^ K) : NI w a l c u := ⟨h.sl, h.lt, by rw [h.len]; exact Nat.le_trans (wd.nlen_le hu) hK⟩
theorem ND.to {w : World} {a : Option Addr} {l c u : Nat} (h : ND w a l c u) (hl : l ≤ 1000000) : NI w a l c u := ⟨h.sl, h.lt, hl⟩
end Go.Proofs.Ytnemailhijkemaa

namespace Go.Proofs.Ytnemailhijkemaa
open Go.RowKit
set_option linter.unusedVariables false

/-- The slice has nothing in block k. -/
def NA (k : Nat) (a : Option Addr) (l : Nat) : Prop := l = 0 ∨ ∀ o, a ≠ some ⟨k, o, none⟩
/-- The slice has nothing in the blocks ahead of base. -/
def Far (base : Nat) (a : Option Addr) (l : Nat) : Prop := ∀ k, k < base → NA k a l
theorem Far.mono {base base' : Nat} {a : Option Addr} {l : Nat} (h : Far base a l) (hb : base' ≤ base) : Far base' a l := fun k hk => h k (by omega)
theorem Sl.na {w : World} {a : Option Addr} {l c k : Nat} {xs : List Value} (h : Sl w a l c xs) (hk : w.heap.size ≤ k) : NA k a l := by
  rcases Nat.eq_zero_or_pos l with e | e
  · exact Or.inl e
  · obtain ⟨b, o, rfl, hb, _⟩ := h.at e
    exact Or.inr fun o' e' => by cases e'; omega
theorem Sl.put {w : World} {a : Option Addr} {l c b : Nat} {xs : List Value} (h : Sl w a l c xs) (hn : NA b a l) (i : Nat) (v : Value) : Sl (w.setCell ⟨b, i, none⟩ v) a l c xs := by
  refine ⟨h.len, h.room, h.big, h.nil, ?_⟩
  rcases hn with e | hn
  · exact Or.inl e
  · refine h.seg.imp id ?_
    rintro ⟨k, o, e, hk, hs⟩
    exact ⟨k, o, e, by simpa using hk, hs.other v (by rintro rfl; exact hn o e)⟩
theorem Own.far {w : World} {base n cap : Nat} {T : TypeId} {a : Option Addr} {xs : List Value} (h : Own w base T a n cap xs) : Far base a n := by
  intro k hk
  right
  intro o e
  obtain ⟨hl, ⟨h1, _⟩ | ⟨g, cap', cur, hv, hb', r⟩⟩ := h
  · rw [e] at h1
    cases h1
  · rw [e] at hv
    cases hv
    omega
theorem ND.put {w : World} {a : Option Addr} {l c u b : Nat} (h : ND w a l c u) (hn : NA b a l) (i : Nat) (v : Value) : ND (w.setCell ⟨b, i, none⟩ v) a l c u := ⟨h.sl.put hn i v, h.len⟩
theorem NI.put {w : World} {a : Option Addr} {l c u b : Nat} (h : NI w a l c u) (hn : NA b a l) (i : Nat) (v : Value) : NI (w.setCell ⟨b, i, none⟩ v) a l c u := ⟨h.sl.put hn i v, h.lt, h.few⟩
theorem cell_on {w w' : World} {p : Addr} {v : Value} (hb : Below w.heap.size w w') (h : w.cell? p = some v) : w'.cell? p = some v := by
  refine (hb.cell (p := p) ?_).trans h
  refine Nat.lt_of_not_le fun hle => ?_
  unfold World.cell? at h
  rw [Array.getElem?_eq_none hle] at h
  simp at h
theorem free_on {w w' : World} {p : Addr} {v : Value} {f : Bool} (hb : Below w.heap.size w w') (h : w.cell? p = some v) (hf : w.frozen? p = f) : w'.frozen? p = f := by
  refine (hb.frozen (p := p) ?_).trans hf
  refine Nat.lt_of_not_le fun hle => ?_
  unfold World.cell? at h
  rw [Array.getElem?_eq_none hle] at h
  simp at h
/-- A block of two cells: what they hold, and that they can be written. -/
structure Bx (w : World) (b : Nat) (x y : Value) : Prop where
  c0 : w.cell? ⟨b, 0, none⟩ = some x
  c1 : w.cell? ⟨b, 1, none⟩ = some y
  f0 : w.frozen? ⟨b, 0, none⟩ = false
  f1 : w.frozen? ⟨b, 1, none⟩ = false
theorem Bx.on {w w' : World} {b : Nat} {x y : Value} (h : Bx w b x y) (hb : Below w.heap.size w w') : Bx w' b x y := ⟨cell_on hb h.c0, cell_on hb h.c1, free_on hb h.c0 h.f0, free_on hb h.c1 h.f1⟩
theorem bx_new (w : World) (x y : Value) (t : TypeId) : Bx (w.alloc (.cells #[x, y] t)) w.heap.size x y := by
  have h := Row.new w [x, y] t
  exact ⟨h.cell 0 _ rfl, h.cell 1 _ rfl, h.free 0 (by simp), h.free 1 (by simp)⟩
theorem bx_lt {w : World} {b : Nat} {x y : Value} (h : Bx w b x y) : b < w.heap.size := by
  refine Nat.lt_of_not_le fun hle => ?_
  have := h.c0
  unfold World.cell? at this
  rw [Array.getElem?_eq_none hle] at this
  simp at this
theorem Bx.put {w : World} {b k i : Nat} {x y v : Value} (h : Bx w b x y) (hk : k ≠ b) : Bx (w.setCell ⟨k, i, none⟩ v) b x y := by
  have hne : ∀ j, (⟨k, i, none⟩ : Addr) ≠ ⟨b, j, none⟩ := fun j e => by cases e; exact hk rfl
  refine ⟨?_, ?_, by rw [World.frozen?_setCell]; exact h.f0, by rw [World.frozen?_setCell]; exact h.f1⟩
  · rw [World.cell?_setCell_other _ _ _ _ (by intro q; simp only [Addr.mk.injEq] at q; omega)]; exact h.c0
  · rw [World.cell?_setCell_other _ _ _ _ (by intro q; simp only [Addr.mk.injEq] at q; omega)]; exact h.c1
theorem Bx.set {w : World} {b : Nat} {x y u v : Value} (h : Bx w b x y) : Bx ((w.setCell ⟨b, 0, none⟩ u).setCell ⟨b, 1, none⟩ v) b u v := by
  refine ⟨?_, ?_, by rw [World.frozen?_setCell, World.frozen?_setCell]; exact h.f0, by rw [World.frozen?_setCell, World.frozen?_setCell]; exact h.f1⟩
  · rw [World.cell?_setCell_other _ _ _ _ (by intro q; simp only [Addr.mk.injEq] at q; omega)]
    exact World.cell?_setCell_same _ _ _ h.c0
  · have h1 : (w.setCell ⟨b, 0, none⟩ u).cell? ⟨b, 1, none⟩ = some y := by
      rw [World.cell?_setCell_other _ _ _ _ (by intro q; simp only [Addr.mk.injEq] at q; omega)]
      exact h.c1
    exact World.cell?_setCell_same _ _ _ h1
end Go.Proofs.Ytnemailhijkemaa

namespace Go.Proofs.Ytnemailhijkemaa
open Go.RowKit
set_option linter.unusedVariables false

/-- A whole number as it comes: a sign, which does not count of nought, and how much. -/
structure WI (w : World) (n : Bool) (a : Option Addr) (l c : Nat) (z : Int) : Prop where
  ni : NI w a l c z.natAbs
  neg : n = true → z ≤ 0
  pos : n = false → 0 ≤ z
/-- A whole number in its one form. -/
structure WN (w : World) (n : Bool) (a : Option Addr) (l c : Nat) (z : Int) : Prop where
  nd : ND w a l c z.natAbs
  sg : n = decide (z < 0)
theorem WI.below {w w' : World} {n : Bool} {a : Option Addr} {l c : Nat} {z : Int} (h : WI w n a l c z) (hb : Below w.heap.size w w') : WI w' n a l c z := ⟨h.ni.below hb, h.neg, h.pos⟩
theorem WN.below {w w' : World} {n : Bool} {a : Option Addr} {l c : Nat} {z : Int} (h : WN w n a l c z) (hb : Below w.heap.size w w') : WN w' n a l c z := ⟨h.nd.below hb, h.sg⟩
/-- The number of a sign and how much. -/
def sgz (n : Bool) (u : Nat) : Int := if n then -(u : Int) else u
theorem WI.is {w : World} {n : Bool} {a : Option Addr} {l c : Nat} {z : Int} (h : WI w n a l c z) : z = sgz n z.natAbs := by
  have h1 := h.neg
  have h2 := h.pos
  unfold sgz
  cases n
  · have := h2 rfl; simp; omega
  · have := h1 rfl; simp; omega
theorem WN.put {w : World} {n : Bool} {a : Option Addr} {l c b : Nat} {z : Int} (h : WN w n a l c z) (hn : NA b a l) (i : Nat) (v : Value) : WN (w.setCell ⟨b, i, none⟩ v) n a l c z := ⟨h.nd.put hn i v, h.sg⟩
theorem WI.put {w : World} {n : Bool} {a : Option Addr} {l c b : Nat} {z : Int} (h : WI w n a l c z) (hn : NA b a l) (i : Nat) (v : Value) : WI (w.setCell ⟨b, i, none⟩ v) n a l c z := ⟨h.ni.put hn i v, h.neg, h.pos⟩
theorem WN.put2 {w : World} {n : Bool} {a : Option Addr} {l c b : Nat} {z : Int} (h : WN w n a l c z) (hn : NA b a l) (u v : Value) : WN ((w.setCell ⟨b, 0, none⟩ u).setCell ⟨b, 1, none⟩ v) n a l c z := (h.put hn 0 u).put hn 1 v
theorem WI.put2 {w : World} {n : Bool} {a : Option Addr} {l c b : Nat} {z : Int} (h : WI w n a l c z) (hn : NA b a l) (u v : Value) : WI ((w.setCell ⟨b, 0, none⟩ u).setCell ⟨b, 1, none⟩ v) n a l c z := (h.put hn 0 u).put hn 1 v
theorem below_put2 {B b : Nat} {w w' : World} (h : Below B w w') (hb : B ≤ b) (u v : Value) : Below B w ((w'.setCell ⟨b, 0, none⟩ u).setCell ⟨b, 1, none⟩ v) := (h.setCell hb _).setCell hb _
theorem also {w w1 w2 : World} (h : Below w.heap.size w w1) (k : Below w1.heap.size w1 w2) : Below w.heap.size w w2 := h.trans (k.mono h.size)

end Go.Proofs.Ytnemailhijkemaa

namespace Go.Proofs.Ytnemailhijkemaa
open Go.RowKit
set_option linter.unusedVariables false

theorem box1 (w : World) (x1 y1 z1 z2 : Value) (t1 t2 : TypeId) : Below w.heap.size w ((w.alloc (.cells #[x1, y1] t1)).alloc (.cells #[z1, z2] t2)) ∧ Bx ((w.alloc (.cells #[x1, y1] t1)).alloc (.cells #[z1, z2] t2)) w.heap.size x1 y1 ∧
    Bx ((w.alloc (.cells #[x1, y1] t1)).alloc (.cells #[z1, z2] t2)) (w.heap.size + 1) z1 z2 ∧ w.heap.size + 1 < ((w.alloc (.cells #[x1, y1] t1)).alloc (.cells #[z1, z2] t2)).heap.size := by
  have h1 := (bx_new w x1 y1 t1).on ((Below.refl _ _).alloc (Nat.le_refl _) (.cells #[z1, z2] t2))
  have h2 := bx_new (w.alloc (.cells #[x1, y1] t1)) z1 z2 t2
  rw [World.size_alloc] at h2
  exact ⟨((Below.refl _ _).alloc (Nat.le_refl _) _).alloc (by simp) _, h1, h2, by simp⟩
theorem box2 (w : World) (x1 y1 x2 y2 z1 z2 : Value) (t1 t2 t3 : TypeId) : Below w.heap.size w (((w.alloc (.cells #[x1, y1] t1)).alloc (.cells #[x2, y2] t2)).alloc (.cells #[z1, z2] t3)) ∧ Bx (((w.alloc (.cells #[x1, y1] t1)).alloc (.cells #[x2, y2] t2)).alloc (.cells #[z1, z2] t3)) w.heap.size x1 y1 ∧
    Bx (((w.alloc (.cells #[x1, y1] t1)).alloc (.cells #[x2, y2] t2)).alloc (.cells #[z1, z2] t3)) (w.heap.size + 1) x2 y2 ∧ Bx (((w.alloc (.cells #[x1, y1] t1)).alloc (.cells #[x2, y2] t2)).alloc (.cells #[z1, z2] t3)) (w.heap.size + 1 + 1) z1 z2 ∧
    w.heap.size + 1 + 1 < (((w.alloc (.cells #[x1, y1] t1)).alloc (.cells #[x2, y2] t2)).alloc (.cells #[z1, z2] t3)).heap.size := by
  obtain ⟨h1, h2, h3, h4⟩ := box1 w x1 y1 x2 y2 t1 t2
  have hb : Below ((w.alloc (.cells #[x1, y1] t1)).alloc (.cells #[x2, y2] t2)).heap.size ((w.alloc (.cells #[x1, y1] t1)).alloc (.cells #[x2, y2] t2)) (((w.alloc (.cells #[x1, y1] t1)).alloc (.cells #[x2, y2] t2)).alloc (.cells #[z1, z2] t3)) := (Below.refl _ _).alloc (Nat.le_refl _) _
  have h5 := bx_new ((w.alloc (.cells #[x1, y1] t1)).alloc (.cells #[x2, y2] t2)) z1 z2 t3
  rw [World.size_alloc, World.size_alloc] at h5
  exact ⟨also h1 hb, h2.on hb, h3.on hb, h5, by simp⟩
theorem keepB2 {n : Nat} {v1 v2 v3 v4 : Value} {w0 w w' : World} (h : w.cell? ⟨n, 0, none⟩ = some v1 ∧ w.cell? ⟨n, 1, none⟩ = some v2 ∧ w.cell? ⟨n + 1, 0, none⟩ = some v3 ∧ w.cell? ⟨n + 1, 1, none⟩ = some v4 ∧ Below w0.heap.size w0 w) (hb : Below w.heap.size w w') :
    w'.cell? ⟨n, 0, none⟩ = some v1 ∧ w'.cell? ⟨n, 1, none⟩ = some v2 ∧ w'.cell? ⟨n + 1, 0, none⟩ = some v3 ∧ w'.cell? ⟨n + 1, 1, none⟩ = some v4 ∧ Below w0.heap.size w0 w' :=
  ⟨cell_on hb h.1, cell_on hb h.2.1, cell_on hb h.2.2.1, cell_on hb h.2.2.2.1, also h.2.2.2.2 hb⟩
theorem keepS1 {n k : Nat} {v1 v2 : Value} {w0 w : World} (h : w.cell? ⟨n, 0, none⟩ = some v1 ∧ w.cell? ⟨n, 1, none⟩ = some v2 ∧ Below w0.heap.size w0 w) (hk : n < k) (hB : w0.heap.size ≤ k) (u v : Value) :
    ((w.setCell ⟨k, 0, none⟩ u).setCell ⟨k, 1, none⟩ v).cell? ⟨n, 0, none⟩ = some v1 ∧ ((w.setCell ⟨k, 0, none⟩ u).setCell ⟨k, 1, none⟩ v).cell? ⟨n, 1, none⟩ = some v2 ∧ Below w0.heap.size w0 ((w.setCell ⟨k, 0, none⟩ u).setCell ⟨k, 1, none⟩ v) := by
  have hne : ∀ i j : Nat, (⟨k, i, none⟩ : Addr) ≠ ⟨n, j, none⟩ := fun i j e => by simp only [Addr.mk.injEq] at e; omega
  exact ⟨by rw [World.cell?_setCell_other _ _ _ _ (hne _ _), World.cell?_setCell_other _ _ _ _ (hne _ _)]; exact h.1, by rw [World.cell?_setCell_other _ _ _ _ (hne _ _), World.cell?_setCell_other _ _ _ _ (hne _ _)]; exact h.2.1, below_put2 h.2.2 hB u v⟩
theorem keepS2 {n k : Nat} {v1 v2 v3 v4 : Value} {w0 w : World} (h : w.cell? ⟨n, 0, none⟩ = some v1 ∧ w.cell? ⟨n, 1, none⟩ = some v2 ∧ w.cell? ⟨n + 1, 0, none⟩ = some v3 ∧ w.cell? ⟨n + 1, 1, none⟩ = some v4 ∧ Below w0.heap.size w0 w) (hk : n + 1 < k) (hB : w0.heap.size ≤ k) (u v : Value) :
    ((w.setCell ⟨k, 0, none⟩ u).setCell ⟨k, 1, none⟩ v).cell? ⟨n, 0, none⟩ = some v1 ∧ ((w.setCell ⟨k, 0, none⟩ u).setCell ⟨k, 1, none⟩ v).cell? ⟨n, 1, none⟩ = some v2 ∧ ((w.setCell ⟨k, 0, none⟩ u).setCell ⟨k, 1, none⟩ v).cell? ⟨n + 1, 0, none⟩ = some v3 ∧ ((w.setCell ⟨k, 0, none⟩ u).setCell ⟨k, 1, none⟩ v).cell? ⟨n + 1, 1, none⟩ = some v4 ∧ Below w0.heap.size w0 ((w.setCell ⟨k, 0, none⟩ u).setCell ⟨k, 1, none⟩ v) := by
  obtain ⟨h1, h2, h3, h4, h5⟩ := h
  obtain ⟨a1, a2, _⟩ := keepS1 ⟨h1, h2, h5⟩ (by omega) hB u v
  obtain ⟨b1, b2, b3⟩ := keepS1 ⟨h3, h4, h5⟩ hk hB u v
  exact ⟨a1, a2, b1, b2, b3⟩
theorem Bx.drew {w : World} {b : Nat} {x y : Value} (h : Bx w b x y) : Bx w.drew b x y := ⟨h.c0, h.c1, h.f0, h.f1⟩
end Go.Proofs.Ytnemailhijkemaa

namespace Go.Proofs.Ytnemailhijkemaa
open Go.RowKit
set_option linter.unusedVariables false

end Go.Proofs.Ytnemailhijkemaa

namespace Go.Proofs.Ytnemailhijkemaa
open Go.RowKit
set_option linter.unusedVariables false

theorem ND.drew {w : World} {a : Option Addr} {l c u : Nat} (h : ND w a l c u) : ND w.drew a l c u := h.below ((Below.refl _ _).drew)
end Go.Proofs.Ytnemailhijkemaa

namespace Go.Proofs.Ytnemailhijkemaa
open Go.RowKit
set_option linter.unusedVariables false

theorem bd_i64 {x : Int} (h : (Lit.int .i64 x).wf = true) : -9223372036854775808 ≤ x ∧ x ≤ 9223372036854775807 := by
  simp [Lit.wf, IntKind.min, IntKind.max, IntKind.signed, IntKind.bits] at h
  exact ⟨by omega, by omega⟩
/-- A number that a point may have; a side that a torus may have. -/
def inC (c : Int) : Bool := decide (-1099511627776 ≤ c ∧ c ≤ 1099511627776)
def canC (x y : Int) : Bool := inC x && inC y
/-- Which of two points stands ahead. -/
def cmpP (x y z t : Int) : Int := if x = z then cmpI y t else cmpI x z
theorem inC_true {c : Int} : inC c = true ↔ (-1099511627776 ≤ c ∧ c ≤ 1099511627776) := by unfold inC; exact decide_eq_true_iff
theorem inC_false {c : Int} : inC c = false ↔ ¬(-1099511627776 ≤ c ∧ c ≤ 1099511627776) := by unfold inC; exact decide_eq_false_iff_not
theorem canC_true {x y : Int} : canC x y = true ↔ (inC x = true ∧ inC y = true) := by unfold canC; exact Bool.and_eq_true_iff
theorem wrap_in {x : Int} (h1 : -9223372036854775808 ≤ x) (h2 : x ≤ 9223372036854775807) : wrap64 x = x := by unfold wrap64; omega
theorem wrap_i64 (x : Int) : IntKind.i64.wrap x = wrap64 x := by unfold wrap64; simp [IntKind.wrap, IntKind.signed, IntKind.bits]; try omega
end Go.Proofs.Ytnemailhijkemaa

namespace Go.Proofs.Ytnemailhijkemaa
open Go.RowKit
set_option linter.unusedVariables false

/-- Twice a triangle's area: (b - a) across (c - a). -/
def areaP (ax ay bx by' cx cy : Int) : Int := (bx - ax) * (cy - ay) - (by' - ay) * (cx - ax)
def distP (ax ay bx by' : Int) : Int := (bx - ax) * (bx - ax) + (by' - ay) * (by' - ay)
/-- The determinant whose rows are p - d and its square, of p being a, b and c. -/
def detP (ax ay bx by' cx cy dx dy : Int) : Int :=
  distP ax ay dx dy * ((bx - dx) * (cy - dy) - (by' - dy) * (cx - dx)) - distP bx by' dx dy * ((ax - dx) * (cy - dy) - (ay - dy) * (cx - dx)) + distP cx cy dx dy * ((ax - dx) * (by' - dy) - (ay - dy) * (bx - dx))
theorem area_turn (ax ay bx by' cx cy : Int) : areaP bx by' cx cy ax ay = areaP ax ay bx by' cx cy := by unfold areaP; grind
theorem area_swap (ax ay bx by' cx cy : Int) : areaP bx by' ax ay cx cy = -areaP ax ay bx by' cx cy := by unfold areaP; grind
theorem det_turn (ax ay bx by' cx cy dx dy : Int) : detP bx by' cx cy ax ay dx dy = detP ax ay bx by' cx cy dx dy := by unfold detP distP; grind
theorem det_first (ax ay bx by' cx cy dx dy : Int) : detP dx dy bx by' cx cy ax ay = -detP ax ay bx by' cx cy dx dy := by unfold detP distP; grind
theorem area_moved (ax ay bx by' cx cy u v : Int) : areaP (ax + u) (ay + v) (bx + u) (by' + v) (cx + u) (cy + v) = areaP ax ay bx by' cx cy := by
  unfold areaP; rw [Int.add_sub_add_right, Int.add_sub_add_right, Int.add_sub_add_right, Int.add_sub_add_right]
theorem dist_moved (ax ay bx by' u v : Int) : distP (ax + u) (ay + v) (bx + u) (by' + v) = distP ax ay bx by' := by
  unfold distP; rw [Int.add_sub_add_right, Int.add_sub_add_right]
theorem det_moved (ax ay bx by' cx cy dx dy u v : Int) : detP (ax + u) (ay + v) (bx + u) (by' + v) (cx + u) (cy + v) (dx + u) (dy + v) = detP ax ay bx by' cx cy dx dy := by
  unfold detP; rw [dist_moved, dist_moved, dist_moved]; simp only [Int.add_sub_add_right]
/-- The determinant by areas about d, and by areas of the whole triangles. -/
theorem det_areas (ax ay bx by' cx cy dx dy : Int) : detP ax ay bx by' cx cy dx dy = distP ax ay dx dy * areaP dx dy bx by' cx cy - distP bx by' dx dy * areaP dx dy ax ay cx cy + distP cx cy dx dy * areaP dx dy ax ay bx by' := by
  unfold detP areaP; rfl
theorem dist_turn (ax ay bx by' : Int) : distP ax ay bx by' = distP bx by' ax ay := by unfold distP; grind
theorem prod_abs {x y : Int} {A B : Nat} (hx : x.natAbs ≤ A) (hy : y.natAbs ≤ B) : (x * y).natAbs ≤ A * B := by
  rw [Int.natAbs_mul]; exact Nat.mul_le_mul hx hy
/-- How great they are, of points that differ by at most D. -/
theorem cross_abs {p q r s : Int} {D : Nat} (h1 : p.natAbs ≤ D) (h2 : q.natAbs ≤ D) (h3 : r.natAbs ≤ D) (h4 : s.natAbs ≤ D) : (p * q - r * s).natAbs ≤ 2 * (D * D) := by
  have a := prod_abs h1 h2
  have b := prod_abs h3 h4
  omega
theorem dist_abs {ax ay bx by' : Int} {D : Nat} (h1 : (bx - ax).natAbs ≤ D) (h2 : (by' - ay).natAbs ≤ D) : (distP ax ay bx by').natAbs ≤ 2 * (D * D) := by
  have a := prod_abs h1 h1
  have b := prod_abs h2 h2
  unfold distP
  omega
theorem area_abs {ax ay bx by' cx cy : Int} {D : Nat} (h1 : (bx - ax).natAbs ≤ D) (h2 : (by' - ay).natAbs ≤ D) (h3 : (cx - ax).natAbs ≤ D) (h4 : (cy - ay).natAbs ≤ D) : (areaP ax ay bx by' cx cy).natAbs ≤ 2 * (D * D) := cross_abs h1 h4 h2 h3
theorem det_abs {ax ay bx by' cx cy dx dy : Int} {D : Nat} (a1 : (ax - dx).natAbs ≤ D) (a2 : (ay - dy).natAbs ≤ D) (b1 : (bx - dx).natAbs ≤ D) (b2 : (by' - dy).natAbs ≤ D) (c1 : (cx - dx).natAbs ≤ D) (c2 : (cy - dy).natAbs ≤ D) :
    (detP ax ay bx by' cx cy dx dy).natAbs ≤ 3 * (2 * (D * D) * (2 * (D * D))) := by
  have A := prod_abs (dist_abs (ax := ax) (ay := ay) (bx := dx) (by' := dy) (D := D) (by omega) (by omega)) (cross_abs b1 c2 b2 c1)
  have B := prod_abs (dist_abs (ax := bx) (ay := by') (bx := dx) (by' := dy) (D := D) (by omega) (by omega)) (cross_abs a1 c2 a2 c1)
  have C := prod_abs (dist_abs (ax := cx) (ay := cy) (bx := dx) (by' := dy) (D := D) (by omega) (by omega)) (cross_abs a1 b2 a2 b1)
  unfold detP
  generalize 2 * (D * D) * (2 * (D * D)) = M at *
  omega
theorem dist_nonneg (ax ay bx by' : Int) : 0 ≤ distP ax ay bx by' := by
  unfold distP
  have a : 0 ≤ (bx - ax) * (bx - ax) := by rw [← Int.natAbs_mul_self]; exact Int.natCast_nonneg _
  have b : 0 ≤ (by' - ay) * (by' - ay) := by rw [← Int.natAbs_mul_self]; exact Int.natCast_nonneg _
  omega
/-- Points that can be differ by at most 2^41. -/
theorem can_diff {x y : Int} (hx : inC x = true) (hy : inC y = true) : (x - y).natAbs ≤ 2199023255552 := by
  have := inC_true.1 hx
  have := inC_true.1 hy
  omega
/-- The sign as it is told. -/
theorem cmp_sign (x : Int) : cmpI x 0 = x.sign := by
  unfold cmpI
  rcases Int.lt_trichotomy x 0 with h | h | h
  · rw [if_pos h, Int.sign_eq_neg_one_of_neg h]
  · subst h; rfl
  · rw [if_neg (by omega), if_pos h, Int.sign_eq_one_of_pos h]
end Go.Proofs.Ytnemailhijkemaa

namespace Go.Proofs.Ytnemailhijkemaa
open Go.RowKit
set_option linter.unusedVariables false

abbrev Pt := Int × Int
def arQ (a b c : Pt) : Int := areaP a.1 a.2 b.1 b.2 c.1 c.2
def deQ (a b c d : Pt) : Int := detP a.1 a.2 b.1 b.2 c.1 c.2 d.1 d.2
/-- p stands ahead of q. -/
def ltQ (p q : Pt) : Bool := decide (p.1 < q.1 ∨ (p.1 = q.1 ∧ p.2 < q.2))
/-- p stands behind the three others. -/
def lastQ (p a b c : Pt) : Bool := ltQ a p && (ltQ b p && ltQ c p)
/-- Four points on a circle: whether d does away with a, b, c. -/
def tieQ (a b c d : Pt) : Bool := if lastQ d a b c then false else if lastQ c a b d then decide (0 < arQ a b d) else if lastQ b a c d then decide (0 < arQ a d c) else decide (0 < arQ d b c)
/-- Whether d does away with a, b, c, of points that can be, a, b, c turning left and d none of them. -/
def cirQ (a b c d : Pt) : Bool := if deQ a b c d = 0 then tieQ a b c d else decide (0 < deQ a b c d)
theorem lt_iff {p q : Pt} : ltQ p q = true ↔ (p.1 < q.1 ∨ (p.1 = q.1 ∧ p.2 < q.2)) := by unfold ltQ; exact decide_eq_true_iff
theorem lt_no {p q : Pt} : ltQ p q = false ↔ ¬(p.1 < q.1 ∨ (p.1 = q.1 ∧ p.2 < q.2)) := by unfold ltQ; exact decide_eq_false_iff_not
theorem pt_ne {p q : Pt} (h : p ≠ q) : p.1 ≠ q.1 ∨ p.2 ≠ q.2 := by
  rcases Decidable.em (p.1 = q.1) with h1 | h1
  · exact Or.inr fun h2 => h (Prod.ext h1 h2)
  · exact Or.inl h1
theorem lt_tri {p q : Pt} (h : p ≠ q) : (ltQ p q = true ∧ ltQ q p = false) ∨ (ltQ q p = true ∧ ltQ p q = false) := by
  have := pt_ne h
  rw [lt_iff, lt_no, lt_iff, lt_no]
  omega
theorem lt_trans {p q r : Pt} (h : ltQ p q = true) (k : ltQ q r = true) : ltQ p r = true := by
  rw [lt_iff] at *
  omega
theorem lt_irr (p : Pt) : ltQ p p = false := by rw [lt_no]; omega
theorem lt_anti {p q : Pt} (h : ltQ p q = true) : ltQ q p = false := by rw [lt_iff] at h; rw [lt_no]; omega
theorem cmp_last (x y z t : Int) : decide (0 < cmpP x y z t) = ltQ (z, t) (x, y) := by
  unfold cmpP cmpI ltQ
  rw [decide_eq_decide]
  dsimp only
  split
  · split
    · constructor <;> intro h <;> omega
    · split <;> constructor <;> intro h <;> omega
  · split
    · constructor <;> intro h <;> omega
    · split <;> constructor <;> intro h <;> omega
theorem last6 {p x y z : Pt} (h1 : ltQ x p = true) (h2 : ltQ y p = true) (h3 : ltQ z p = true) : ltQ x p = true ∧ ltQ y p = true ∧ ltQ z p = true ∧ ltQ p x = false ∧ ltQ p y = false ∧ ltQ p z = false := ⟨h1, h2, h3, lt_anti h1, lt_anti h2, lt_anti h3⟩
/-- Of four points just one stands last. -/
theorem one_last {a b c d : Pt} (ab : a ≠ b) (ac : a ≠ c) (bc : b ≠ c) (da : d ≠ a) (db : d ≠ b) (dc : d ≠ c) :
    (ltQ a d = true ∧ ltQ b d = true ∧ ltQ c d = true ∧ ltQ d a = false ∧ ltQ d b = false ∧ ltQ d c = false) ∨
    (ltQ a c = true ∧ ltQ b c = true ∧ ltQ d c = true ∧ ltQ c a = false ∧ ltQ c b = false ∧ ltQ c d = false) ∨
    (ltQ a b = true ∧ ltQ c b = true ∧ ltQ d b = true ∧ ltQ b a = false ∧ ltQ b c = false ∧ ltQ b d = false) ∨
    (ltQ b a = true ∧ ltQ c a = true ∧ ltQ d a = true ∧ ltQ a b = false ∧ ltQ a c = false ∧ ltQ a d = false) := by
  rcases lt_tri ab with ⟨x, _⟩ | ⟨x, _⟩ <;> rcases lt_tri dc with ⟨y, _⟩ | ⟨y, _⟩
  · rcases lt_tri bc with ⟨z, _⟩ | ⟨z, _⟩
    · exact Or.inr (Or.inl (last6 (lt_trans x z) z y))
    · exact Or.inr (Or.inr (Or.inl (last6 x z (lt_trans y z))))
  · rcases lt_tri db with ⟨z, _⟩ | ⟨z, _⟩
    · exact Or.inr (Or.inr (Or.inl (last6 x (lt_trans y z) z)))
    · exact Or.inl (last6 (lt_trans x z) z y)
  · rcases lt_tri ac with ⟨z, _⟩ | ⟨z, _⟩
    · exact Or.inr (Or.inl (last6 z (lt_trans x z) y))
    · exact Or.inr (Or.inr (Or.inr (last6 x z (lt_trans y z))))
  · rcases lt_tri da with ⟨z, _⟩ | ⟨z, _⟩
    · exact Or.inr (Or.inr (Or.inr (last6 x (lt_trans y z) z)))
    · exact Or.inl (last6 z (lt_trans x z) y)
theorem ar_turnQ (a b c : Pt) : arQ b c a = arQ a b c := area_turn _ _ _ _ _ _
theorem ar_swapQ (a b c : Pt) : arQ b a c = -arQ a b c := area_swap _ _ _ _ _ _
theorem de_turnQ (a b c d : Pt) : deQ b c a d = deQ a b c d := det_turn _ _ _ _ _ _ _ _
theorem de_firstQ (a b c d : Pt) : deQ d b c a = -deQ a b c d := det_first _ _ _ _ _ _ _ _
theorem ar_ne {a b c : Pt} (h : 0 < arQ a b c) : a ≠ b ∧ a ≠ c ∧ b ≠ c := by
  refine ⟨?_, ?_, ?_⟩ <;> rintro rfl <;> unfold arQ areaP at h <;> grind
theorem tie_turn {a b c d : Pt} (h : 0 < arQ a b c) (da : d ≠ a) (db : d ≠ b) (dc : d ≠ c) : tieQ b c a d = tieQ a b c d := by
  obtain ⟨ab, ac, bc⟩ := ar_ne h
  have e1 : arQ b d a = arQ a b d := ar_turnQ a b d
  have e2 : arQ d c a = arQ a d c := ar_turnQ a d c
  have e3 : arQ b c d = arQ d b c := ar_turnQ d b c
  unfold tieQ lastQ
  rw [e1, e2, e3]
  rcases one_last ab ac bc da db dc with ⟨h1, h2, h3, h4, h5, h6⟩ | ⟨h1, h2, h3, h4, h5, h6⟩ | ⟨h1, h2, h3, h4, h5, h6⟩ | ⟨h1, h2, h3, h4, h5, h6⟩ <;> simp [h1, h2, h3, h4, h5, h6]
theorem cir_turn {a b c d : Pt} (h : 0 < arQ a b c) (da : d ≠ a) (db : d ≠ b) (dc : d ≠ c) : cirQ b c a d = cirQ a b c d := by
  unfold cirQ; rw [de_turnQ, tie_turn h da db dc]
/-- One of two: four points that turn left all the way. -/
theorem tie_diag {a b c d : Pt} (h1 : 0 < arQ a b c) (h2 : 0 < arQ b c d) (h3 : 0 < arQ c d a) (h4 : 0 < arQ d a b) : tieQ c d a b = tieQ a b c d ∧ tieQ b c d a = !tieQ a b c d ∧ tieQ d a b c = !tieQ a b c d := by
  obtain ⟨ab, ac, bc⟩ := ar_ne h1
  obtain ⟨_, bd, cd⟩ := ar_ne h2
  obtain ⟨_, _, da⟩ := ar_ne h3
  have e : ∀ x y z : Pt, arQ y z x = arQ x y z := ar_turnQ
  have s : ∀ x y z : Pt, arQ y x z = -arQ x y z := ar_swapQ
  have a1 : arQ b c a = arQ a b c := e a b c
  have a2 : arQ c a b = arQ a b c := by rw [e b c a, e a b c]
  have a3 : arQ c b a = -arQ a b c := by rw [s b c a, e a b c]
  have b1 : arQ c d b = arQ b c d := e b c d
  have b2 : arQ d b c = arQ b c d := by rw [e c d b, b1]
  have b3 : arQ d c b = -arQ b c d := by rw [s c d b, b1]
  have c1 : arQ d a c = arQ c d a := e c d a
  have c2 : arQ a c d = arQ c d a := by rw [e d a c, c1]
  have c3 : arQ a d c = -arQ c d a := by rw [s d a c, c1]
  have d1 : arQ a b d = arQ d a b := e d a b
  have d2 : arQ b d a = arQ d a b := by rw [e a b d, d1]
  have d3 : arQ b a d = -arQ d a b := by rw [s a b d, d1]
  have n1 : ¬ 0 < -arQ a b c := by omega
  have n2 : ¬ 0 < -arQ b c d := by omega
  have n3 : ¬ 0 < -arQ c d a := by omega
  have n4 : ¬ 0 < -arQ d a b := by omega
  unfold tieQ lastQ
  rcases one_last ab ac bc da (Ne.symm bd) (Ne.symm cd) with ⟨g1, g2, g3, g4, g5, g6⟩ | ⟨g1, g2, g3, g4, g5, g6⟩ | ⟨g1, g2, g3, g4, g5, g6⟩ | ⟨g1, g2, g3, g4, g5, g6⟩ <;> simp only [g1, g2, g3, g4, g5, g6, a1, a2, a3, b1, b2, b3, c1, c2, c3, d1, d2, d3, h1, h2, h3, h4, n1, n2, n3, n4, Bool.and_true, Bool.and_false, Bool.false_and, if_true, if_false, decide_true, decide_false, Bool.false_eq_true, Bool.not_true, Bool.not_false, and_self]
theorem cir_diag {a b c d : Pt} (h1 : 0 < arQ a b c) (h2 : 0 < arQ b c d) (h3 : 0 < arQ c d a) (h4 : 0 < arQ d a b) : cirQ c d a b = cirQ a b c d ∧ cirQ b c d a = !cirQ a b c d ∧ cirQ d a b c = !cirQ a b c d := by
  obtain ⟨t1, t2, t3⟩ := tie_diag h1 h2 h3 h4
  have t : ∀ x y z u : Pt, deQ y z u x = -deQ x y z u := fun x y z u => (de_turnQ u y z x).trans (de_firstQ x y z u)
  have k1 : deQ b c d a = -deQ a b c d := t a b c d
  have k2 : deQ c d a b = deQ a b c d := by rw [t b c d a, k1, Int.neg_neg]
  have k3 : deQ d a b c = -deQ a b c d := by rw [t c d a b, k2]
  unfold cirQ
  rw [k1, k2, k3, t1, t2, t3]
  rcases Int.lt_trichotomy (deQ a b c d) 0 with h | h | h
  · have q1 : ¬ deQ a b c d = 0 := by omega
    have q2 : ¬ -deQ a b c d = 0 := by omega
    have q3 : ¬ 0 < deQ a b c d := by omega
    have q4 : 0 < -deQ a b c d := by omega
    simp only [if_neg q1, if_neg q2, decide_eq_false q3, decide_eq_true q4, Bool.not_false, and_self]
  · simp [h]
  · have q1 : ¬ deQ a b c d = 0 := by omega
    have q2 : ¬ -deQ a b c d = 0 := by omega
    have q3 : ¬ 0 < -deQ a b c d := by omega
    simp only [if_neg q1, if_neg q2, decide_eq_false q3, decide_eq_true h, Bool.not_true, and_self]
/-- Moved alike. -/
def mvQ (s p : Pt) : Pt := (p.1 + s.1, p.2 + s.2)
theorem lt_mv (s p q : Pt) : ltQ (mvQ s p) (mvQ s q) = ltQ p q := by unfold ltQ mvQ; rw [decide_eq_decide]; dsimp only; omega
theorem ar_mv (s a b c : Pt) : arQ (mvQ s a) (mvQ s b) (mvQ s c) = arQ a b c := area_moved _ _ _ _ _ _ _ _
theorem de_mv (s a b c d : Pt) : deQ (mvQ s a) (mvQ s b) (mvQ s c) (mvQ s d) = deQ a b c d := det_moved _ _ _ _ _ _ _ _ _ _
theorem cir_mv (s a b c d : Pt) : cirQ (mvQ s a) (mvQ s b) (mvQ s c) (mvQ s d) = cirQ a b c d := by
  unfold cirQ tieQ lastQ; simp only [lt_mv, ar_mv, de_mv]
end Go.Proofs.Ytnemailhijkemaa

namespace Go.Proofs.Ytnemailhijkemaa
open Go.RowKit
set_option linter.unusedVariables false

/-- (c - a) times (c - b): nought on the circle over a and b as ends. -/
def doQ (a b c : Pt) : Int := (c.1 - a.1) * (c.1 - b.1) + (c.2 - a.2) * (c.2 - b.2)
theorem de_do (a b c d : Pt) : deQ a b c d = arQ a b d * doQ a b c - arQ a b c * doQ a b d := by unfold deQ detP distP arQ areaP doQ; grind
/-- The turn about a, and about b, of points to the left. -/
theorem turn_a (a b c d e : Pt) : arQ a b d * arQ a e c = arQ a b c * arQ a e d + arQ a b e * arQ a d c := by unfold arQ areaP; grind
theorem turn_b (a b c d e : Pt) : arQ a b d * arQ e b c = arQ a b c * arQ e b d + arQ a b e * arQ d b c := by unfold arQ areaP; grind
theorem pos_of_mul {x y : Int} (hx : 0 < x) (h : 0 < x * y) : 0 < y := by
  rcases Int.lt_trichotomy y 0 with g | g | g
  · have := Int.mul_neg_of_pos_of_neg hx g; omega
  · subst g; rw [Int.mul_zero] at h; omega
  · exact g
theorem trans_a {a b c d e : Pt} (hc : 0 < arQ a b c) (hd : 0 < arQ a b d) (he : 0 < arQ a b e) (h1 : 0 < arQ a d c) (h2 : 0 < arQ a e d) : 0 < arQ a e c := by
  refine pos_of_mul hd ?_
  rw [turn_a]
  have := Int.mul_pos hc h2
  have := Int.mul_pos he h1
  omega
theorem trans_b {a b c d e : Pt} (hc : 0 < arQ a b c) (hd : 0 < arQ a b d) (he : 0 < arQ a b e) (h1 : 0 < arQ d b c) (h2 : 0 < arQ e b d) : 0 < arQ e b c := by
  refine pos_of_mul hd ?_
  rw [turn_b]
  have := Int.mul_pos hc h2
  have := Int.mul_pos he h1
  omega
/-- What 'd does away with a, b, c' comes to on a circle, of points to the left. -/
theorem tie_left {a b c d : Pt} (hc : 0 < arQ a b c) (hd : 0 < arQ a b d) (dc : d ≠ c) :
    tieQ a b c d = if ltQ a c && ltQ b c || ltQ a d && ltQ b d then ltQ d c else if ltQ a b then decide (0 < arQ a d c) else decide (0 < arQ d b c) := by
  obtain ⟨ab, ac, bc⟩ := ar_ne hc
  obtain ⟨_, ad, bd⟩ := ar_ne hd
  unfold tieQ lastQ
  rcases one_last ab ac bc (Ne.symm ad) (Ne.symm bd) dc with ⟨g1, g2, g3, g4, g5, g6⟩ | ⟨g1, g2, g3, g4, g5, g6⟩ | ⟨g1, g2, g3, g4, g5, g6⟩ | ⟨g1, g2, g3, g4, g5, g6⟩ <;> simp [g1, g2, g3, g4, g5, g6, hd]
/-- Whether d does away with c, of points to the left of the way from a to b. -/
def beatQ (a b c d : Pt) : Bool := decide (d ≠ c) && cirQ a b c d
theorem ratio_trans {p q r x y z : Int} (hx : 0 < x) (hy : 0 < y) (hz : 0 < z) (h1 : q * x ≤ p * y) (h2 : r * y ≤ q * z) : r * x ≤ p * z ∧ ((q * x < p * y ∨ r * y < q * z) → r * x < p * z) := by
  have e1 : y * (r * x) = x * (r * y) := by grind
  have e2 : y * (p * z) = z * (p * y) := by grind
  have e3 : x * (q * z) = z * (q * x) := by grind
  have m1 := Int.mul_le_mul_of_nonneg_left h1 (Int.le_of_lt hz)
  have m2 := Int.mul_le_mul_of_nonneg_left h2 (Int.le_of_lt hx)
  constructor
  · refine Int.le_of_mul_le_mul_left ?_ hy
    rw [e1, e2]
    omega
  · intro h
    refine Int.lt_of_mul_lt_mul_left (a := y) ?_ (Int.le_of_lt hy)
    rw [e1, e2]
    rcases h with h | h
    · have := Int.mul_lt_mul_of_pos_left h hz; omega
    · have := Int.mul_lt_mul_of_pos_left h hx; omega
theorem beat_iff {a b c d : Pt} (hc : 0 < arQ a b c) (hd : 0 < arQ a b d) : beatQ a b c d = true ↔ (d ≠ c ∧ (arQ a b c * doQ a b d < arQ a b d * doQ a b c ∨ (arQ a b c * doQ a b d = arQ a b d * doQ a b c ∧ tieQ a b c d = true))) := by
  unfold beatQ cirQ
  rw [Bool.and_eq_true_iff, decide_eq_true_iff, de_do]
  generalize arQ a b c * doQ a b d = x
  generalize arQ a b d * doQ a b c = y
  constructor
  · rintro ⟨h1, h2⟩
    refine ⟨h1, ?_⟩
    split at h2
    · exact Or.inr ⟨by omega, h2⟩
    · exact Or.inl (by have := of_decide_eq_true h2; omega)
  · rintro ⟨h1, h | ⟨h, h2⟩⟩
    · exact ⟨h1, by rw [if_neg (by omega)]; exact decide_eq_true (by omega)⟩
    · exact ⟨h1, by rw [if_pos (by omega)]; exact h2⟩
theorem beat_irr (a b c : Pt) : beatQ a b c c = false := by unfold beatQ; simp
theorem low_high {a b x c : Pt} (xa : a ≠ x) (xb : b ≠ x) (hx : (ltQ a x && ltQ b x) = false) (hc : (ltQ a c && ltQ b c) = true) : ltQ x c = true := by
  rw [Bool.and_eq_true_iff] at hc
  rcases lt_tri xa with ⟨h, _⟩ | ⟨h, _⟩
  · rcases lt_tri xb with ⟨k, _⟩ | ⟨k, _⟩
    · rw [h, k] at hx; cases hx
    · exact lt_trans k hc.2
  · exact lt_trans h hc.1
theorem tie_trans {a b c d e : Pt} (hc : 0 < arQ a b c) (hd : 0 < arQ a b d) (he : 0 < arQ a b e) (dc : d ≠ c) (ed : e ≠ d) (ec : e ≠ c) (h1 : tieQ a b c d = true) (h2 : tieQ a b d e = true) : tieQ a b c e = true := by
  rw [tie_left hc hd dc] at h1
  rw [tie_left hd he ed] at h2
  rw [tie_left hc he ec]
  obtain ⟨ab, ac, bc⟩ := ar_ne hc
  obtain ⟨_, ad, bd⟩ := ar_ne hd
  obtain ⟨_, ae, be⟩ := ar_ne he
  cases kc : (ltQ a c && ltQ b c) <;> cases kd : (ltQ a d && ltQ b d) <;> cases ke : (ltQ a e && ltQ b e) <;> simp only [kc, kd, ke, Bool.or_self, Bool.or_false, Bool.or_true, if_true, if_false, Bool.false_eq_true] at h1 h2 ⊢
  · cases k : ltQ a b <;> simp only [k, if_true, if_false, Bool.false_eq_true, decide_eq_true_iff] at h1 h2 ⊢
    · exact trans_b hc hd he h1 h2
    · exact trans_a hc hd he h1 h2
  · rw [lt_anti (low_high ad bd kd ke)] at h2; cases h2
  · rw [lt_anti (low_high ac bc kc kd)] at h1; cases h1
  · rw [lt_anti (low_high ac bc kc kd)] at h1; cases h1
  · exact low_high ae be ke kc
  · rw [lt_anti (low_high ad bd kd ke)] at h2; cases h2
  · exact low_high ae be ke kc
  · exact lt_trans h2 h1
theorem tie_anti {a b c d : Pt} (hc : 0 < arQ a b c) (hd : 0 < arQ a b d) (dc : d ≠ c) (h1 : tieQ a b c d = true) : tieQ a b d c = false := by
  rw [tie_left hc hd dc] at h1
  rw [tie_left hd hc (Ne.symm dc), Bool.or_comm]
  split at h1
  · rename_i k; rw [if_pos k]; exact lt_anti h1
  · rename_i k; rw [if_neg k]
    split at h1
    · rename_i k2; rw [if_pos k2]
      have := of_decide_eq_true h1
      have e : arQ a c d = -arQ a d c := by unfold arQ areaP; grind
      exact decide_eq_false (by omega)
    · rename_i k2; rw [if_neg k2]
      have := of_decide_eq_true h1
      have e : arQ c b d = -arQ d b c := by unfold arQ areaP; grind
      exact decide_eq_false (by omega)
theorem beat_trans {a b c d e : Pt} (hc : 0 < arQ a b c) (hd : 0 < arQ a b d) (he : 0 < arQ a b e) (h1 : beatQ a b c d = true) (h2 : beatQ a b d e = true) : beatQ a b c e = true := by
  rw [beat_iff hc hd] at h1
  rw [beat_iff hd he] at h2
  rw [beat_iff hc he]
  obtain ⟨dc, h1⟩ := h1
  obtain ⟨ed, h2⟩ := h2
  have T := ratio_trans (p := doQ a b c) (q := doQ a b d) (r := doQ a b e) hc hd he
  simp only [Int.mul_comm (doQ a b _) _] at T
  have l1 : arQ a b c * doQ a b d ≤ arQ a b d * doQ a b c := by omega
  have l2 : arQ a b d * doQ a b e ≤ arQ a b e * doQ a b d := by omega
  obtain ⟨t1, t2⟩ := T l1 l2
  have ec : e ≠ c := by
    rintro rfl
    rcases h1 with h1 | ⟨h1, k1⟩
    · omega
    · rcases h2 with h2 | ⟨h2, k2⟩
      · omega
      · rw [tie_anti hc hd dc k1] at k2; cases k2
  refine ⟨ec, ?_⟩
  rcases h1 with h1 | ⟨h1, k1⟩
  · exact Or.inl (t2 (Or.inl h1))
  · rcases h2 with h2 | ⟨h2, k2⟩
    · exact Or.inl (t2 (Or.inr h2))
    · rcases Int.lt_or_eq_of_le t1 with t | t
      · exact Or.inl t
      · exact Or.inr ⟨t, tie_trans hc hd he dc ed ec k1 k2⟩
theorem sq_pos {x y : Int} (h : x ≠ 0 ∨ y ≠ 0) : 0 < x * x + y * y := by
  have a : 0 ≤ x * x := by rw [← Int.natAbs_mul_self]; exact Int.natCast_nonneg _
  have b : 0 ≤ y * y := by rw [← Int.natAbs_mul_self]; exact Int.natCast_nonneg _
  rcases h with h | h
  · have : x * x ≠ 0 := fun e => h (by rcases Int.mul_eq_zero.1 e with e | e <;> exact e)
    omega
  · have : y * y ≠ 0 := fun e => h (by rcases Int.mul_eq_zero.1 e with e | e <;> exact e)
    omega
/-- Two points of a circle through nought, in line with it: they are one. -/
theorem circ_line {u1 u2 p1 p2 q1 q2 : Int} (hA : u1 * p2 - u2 * p1 ≠ 0) (hB : u1 * q2 - u2 * q1 ≠ 0) (hx : p1 * q2 - p2 * q1 = 0) (he : (u1 * p2 - u2 * p1) * (q1 * q1 + q2 * q2 - (q1 * u1 + q2 * u2)) = (u1 * q2 - u2 * q1) * (p1 * p1 + p2 * p2 - (p1 * u1 + p2 * u2))) : p1 = q1 ∧ p2 = q2 := by
  have h1 : (u1 * p2 - u2 * p1) * q1 = (u1 * q2 - u2 * q1) * p1 := by grind
  have h2 : (u1 * p2 - u2 * p1) * q2 = (u1 * q2 - u2 * q1) * p2 := by grind
  have h3 : (u1 * q2 - u2 * q1) * (p1 * q1 + p2 * q2) = (u1 * q2 - u2 * q1) * (p1 * p1 + p2 * p2) := by grind
  have h4 : p1 * q1 + p2 * q2 = p1 * p1 + p2 * p2 := Int.eq_of_mul_eq_mul_left hB h3
  have hp : 0 < p1 * p1 + p2 * p2 := sq_pos (by
    rcases Decidable.em (p1 = 0) with e | e
    · right; rintro rfl; subst e; simp at hA
    · exact Or.inl e)
  have h5 : (p1 * p1 + p2 * p2) * p1 = (p1 * p1 + p2 * p2) * q1 := by grind
  have h6 : (p1 * p1 + p2 * p2) * p2 = (p1 * p1 + p2 * p2) * q2 := by grind
  exact ⟨Int.eq_of_mul_eq_mul_left (by omega) h5, Int.eq_of_mul_eq_mul_left (by omega) h6⟩
theorem line_a {a b c d : Pt} (hc : 0 < arQ a b c) (hd : 0 < arQ a b d) (he : arQ a b c * doQ a b d = arQ a b d * doQ a b c) (h : arQ a d c = 0) : d = c := by
  have := circ_line (u1 := b.1 - a.1) (u2 := b.2 - a.2) (p1 := c.1 - a.1) (p2 := c.2 - a.2) (q1 := d.1 - a.1) (q2 := d.2 - a.2) (by unfold arQ areaP at hc; omega) (by unfold arQ areaP at hd; omega) (by unfold arQ areaP at h; grind) (by unfold arQ areaP doQ at he; grind)
  exact Prod.ext (by omega) (by omega)
theorem line_b {a b c d : Pt} (hc : 0 < arQ a b c) (hd : 0 < arQ a b d) (he : arQ a b c * doQ a b d = arQ a b d * doQ a b c) (h : arQ d b c = 0) : d = c := by
  have e1 : arQ a b c = (b.1 - a.1) * (c.2 - b.2) - (b.2 - a.2) * (c.1 - b.1) := by unfold arQ areaP; grind
  have e2 : arQ a b d = (b.1 - a.1) * (d.2 - b.2) - (b.2 - a.2) * (d.1 - b.1) := by unfold arQ areaP; grind
  have f1 : ∀ x : Pt, (a.1 - b.1) * (x.2 - b.2) - (a.2 - b.2) * (x.1 - b.1) = -((b.1 - a.1) * (x.2 - b.2) - (b.2 - a.2) * (x.1 - b.1)) := fun x => by grind
  have f2 : ∀ x : Pt, (x.1 - b.1) * (x.1 - b.1) + (x.2 - b.2) * (x.2 - b.2) - ((x.1 - b.1) * (a.1 - b.1) + (x.2 - b.2) * (a.2 - b.2)) = doQ a b x := fun x => by unfold doQ; grind
  rw [e1, e2] at he
  rw [e1] at hc
  rw [e2] at hd
  have := circ_line (u1 := a.1 - b.1) (u2 := a.2 - b.2) (p1 := c.1 - b.1) (p2 := c.2 - b.2) (q1 := d.1 - b.1) (q2 := d.2 - b.2) (by grind) (by grind) (by unfold arQ areaP at h; grind) (by rw [f1 c, f1 d, f2 c, f2 d, Int.neg_mul, Int.neg_mul, he])
  exact Prod.ext (by omega) (by omega)
/-- Of two points to the left one does away with the other. -/
theorem beat_total {a b c d : Pt} (hc : 0 < arQ a b c) (hd : 0 < arQ a b d) (dc : d ≠ c) : beatQ a b c d = true ∨ beatQ a b d c = true := by
  rw [beat_iff hc hd, beat_iff hd hc]
  rcases Int.lt_trichotomy (arQ a b c * doQ a b d) (arQ a b d * doQ a b c) with h | h | h
  · exact Or.inl ⟨dc, Or.inl h⟩
  · rw [tie_left hc hd dc, tie_left hd hc (Ne.symm dc), Bool.or_comm (ltQ a d && ltQ b d)]
    cases k : (ltQ a c && ltQ b c || ltQ a d && ltQ b d) <;> simp only [if_true, if_false, Bool.false_eq_true]
    · cases k2 : ltQ a b <;> simp only [if_true, if_false, Bool.false_eq_true, decide_eq_true_iff]
      · have n := fun e => dc (line_b hc hd h e)
        have e : arQ c b d = -arQ d b c := by unfold arQ areaP; grind
        rcases Int.lt_trichotomy (arQ d b c) 0 with g | g | g
        · exact Or.inr ⟨Ne.symm dc, Or.inr ⟨h.symm, by omega⟩⟩
        · exact absurd g n
        · exact Or.inl ⟨dc, Or.inr ⟨h, g⟩⟩
      · have n := fun e => dc (line_a hc hd h e)
        have e : arQ a c d = -arQ a d c := by unfold arQ areaP; grind
        rcases Int.lt_trichotomy (arQ a d c) 0 with g | g | g
        · exact Or.inr ⟨Ne.symm dc, Or.inr ⟨h.symm, by omega⟩⟩
        · exact absurd g n
        · exact Or.inl ⟨dc, Or.inr ⟨h, g⟩⟩
    · rcases lt_tri dc with ⟨g, _⟩ | ⟨g, _⟩
      · exact Or.inl ⟨dc, Or.inr ⟨h, g⟩⟩
      · exact Or.inr ⟨Ne.symm dc, Or.inr ⟨h.symm, g⟩⟩
  · exact Or.inr ⟨Ne.symm dc, Or.inl h⟩
end Go.Proofs.Ytnemailhijkemaa

namespace Go.Proofs.Ytnemailhijkemaa
open Go.RowKit
set_option linter.unusedVariables false

theorem cell_lt {w : World} {p : Addr} {v : Value} (h : w.cell? p = some v) : p.block < w.heap.size := by
  refine Nat.lt_of_not_le fun hle => ?_
  unfold World.cell? at h
  rw [Array.getElem?_eq_none hle] at h
  simp at h
theorem cell_far {w w' : World} {b g i : Nat} {v : Value} (h : w.cell? ⟨b, i, none⟩ = some v) (hg : w.grownBy w' (some g)) (hne : b ≠ g) : w'.cell? ⟨b, i, none⟩ = some v :=
  (hg.cell_far ⟨b, i, none⟩ (cell_lt h) (by simpa using hne)).trans h
theorem free_far {w w' : World} {b g i : Nat} {v : Value} (h : w.cell? ⟨b, i, none⟩ = some v) (hf : w.frozen? ⟨b, i, none⟩ = false) (hg : w.grownBy w' (some g)) (hne : b ≠ g) : w'.frozen? ⟨b, i, none⟩ = false :=
  (hg.frozen_far ⟨b, i, none⟩ (cell_lt h) (by simpa using hne)).trans hf
/-- A block of 3 cells. -/
structure B3 (w : World) (b : Nat) (x0 x1 x2 : Value) : Prop where
  c0 : w.cell? ⟨b, 0, none⟩ = some x0
  c1 : w.cell? ⟨b, 1, none⟩ = some x1
  c2 : w.cell? ⟨b, 2, none⟩ = some x2
  f0 : w.frozen? ⟨b, 0, none⟩ = false
  f1 : w.frozen? ⟨b, 1, none⟩ = false
  f2 : w.frozen? ⟨b, 2, none⟩ = false
theorem B3.on {w w' : World} {b : Nat} {x0 x1 x2 : Value} (h : B3 w b x0 x1 x2) (hb : Below w.heap.size w w') : B3 w' b x0 x1 x2 := ⟨cell_on hb h.c0, cell_on hb h.c1, cell_on hb h.c2, free_on hb h.c0 h.f0, free_on hb h.c1 h.f1, free_on hb h.c2 h.f2⟩
theorem B3.put {w : World} {b k i : Nat} {x0 x1 x2 v : Value} (h : B3 w b x0 x1 x2) (hk : k ≠ b) : B3 (w.setCell ⟨k, i, none⟩ v) b x0 x1 x2 := by
  refine ⟨?_, ?_, ?_, by rw [World.frozen?_setCell]; exact h.f0, by rw [World.frozen?_setCell]; exact h.f1, by rw [World.frozen?_setCell]; exact h.f2⟩
  · rw [World.cell?_setCell_other _ _ _ _ (by intro q; simp only [Addr.mk.injEq] at q; omega)]; exact h.c0
  · rw [World.cell?_setCell_other _ _ _ _ (by intro q; simp only [Addr.mk.injEq] at q; omega)]; exact h.c1
  · rw [World.cell?_setCell_other _ _ _ _ (by intro q; simp only [Addr.mk.injEq] at q; omega)]; exact h.c2
theorem B3.set {w : World} {b : Nat} {x0 x1 x2 u0 u1 u2 : Value} (h : B3 w b x0 x1 x2) : B3 (((w.setCell ⟨b, 0, none⟩ u0).setCell ⟨b, 1, none⟩ u1).setCell ⟨b, 2, none⟩ u2) b u0 u1 u2 := by
  refine ⟨?_, ?_, ?_, by simp only [World.frozen?_setCell]; exact h.f0, by simp only [World.frozen?_setCell]; exact h.f1, by simp only [World.frozen?_setCell]; exact h.f2⟩
  · rw [World.cell?_setCell_other _ _ _ _ (by intro q; simp only [Addr.mk.injEq] at q; omega)]; rw [World.cell?_setCell_other _ _ _ _ (by intro q; simp only [Addr.mk.injEq] at q; omega)]; have hh : _ = some x0 := h.c0
    have h1 : w.cell? ⟨b, 0, none⟩ = some x0 := by
      exact hh
    exact World.cell?_setCell_same _ _ _ h1
  · rw [World.cell?_setCell_other _ _ _ _ (by intro q; simp only [Addr.mk.injEq] at q; omega)]; have hh : _ = some x1 := h.c1
    have h1 : (w.setCell ⟨b, 0, none⟩ u0).cell? ⟨b, 1, none⟩ = some x1 := by
      rw [World.cell?_setCell_other _ _ _ _ (by intro q; simp only [Addr.mk.injEq] at q; omega)]; exact hh
    exact World.cell?_setCell_same _ _ _ h1
  · have hh : _ = some x2 := h.c2
    have h1 : ((w.setCell ⟨b, 0, none⟩ u0).setCell ⟨b, 1, none⟩ u1).cell? ⟨b, 2, none⟩ = some x2 := by
      rw [World.cell?_setCell_other _ _ _ _ (by intro q; simp only [Addr.mk.injEq] at q; omega)]; rw [World.cell?_setCell_other _ _ _ _ (by intro q; simp only [Addr.mk.injEq] at q; omega)]; exact hh
    exact World.cell?_setCell_same _ _ _ h1
theorem B3.drew {w : World} {b : Nat} {x0 x1 x2 : Value} (h : B3 w b x0 x1 x2) : B3 w.drew b x0 x1 x2 := ⟨h.c0, h.c1, h.c2, h.f0, h.f1, h.f2⟩
theorem B3.grown {w w' : World} {b g : Nat} {x0 x1 x2 : Value} (h : B3 w b x0 x1 x2) (hg : w.grownBy w' (some g)) (hne : b ≠ g) : B3 w' b x0 x1 x2 := ⟨cell_far h.c0 hg hne, cell_far h.c1 hg hne, cell_far h.c2 hg hne, free_far h.c0 h.f0 hg hne, free_far h.c1 h.f1 hg hne, free_far h.c2 h.f2 hg hne⟩
/-- A block of 4 cells. -/
structure B4 (w : World) (b : Nat) (x0 x1 x2 x3 : Value) : Prop where
  c0 : w.cell? ⟨b, 0, none⟩ = some x0
  c1 : w.cell? ⟨b, 1, none⟩ = some x1
  c2 : w.cell? ⟨b, 2, none⟩ = some x2
  c3 : w.cell? ⟨b, 3, none⟩ = some x3
  f0 : w.frozen? ⟨b, 0, none⟩ = false
  f1 : w.frozen? ⟨b, 1, none⟩ = false
  f2 : w.frozen? ⟨b, 2, none⟩ = false
  f3 : w.frozen? ⟨b, 3, none⟩ = false
theorem B4.on {w w' : World} {b : Nat} {x0 x1 x2 x3 : Value} (h : B4 w b x0 x1 x2 x3) (hb : Below w.heap.size w w') : B4 w' b x0 x1 x2 x3 := ⟨cell_on hb h.c0, cell_on hb h.c1, cell_on hb h.c2, cell_on hb h.c3, free_on hb h.c0 h.f0, free_on hb h.c1 h.f1, free_on hb h.c2 h.f2, free_on hb h.c3 h.f3⟩
theorem B4.put {w : World} {b k i : Nat} {x0 x1 x2 x3 v : Value} (h : B4 w b x0 x1 x2 x3) (hk : k ≠ b) : B4 (w.setCell ⟨k, i, none⟩ v) b x0 x1 x2 x3 := by
  refine ⟨?_, ?_, ?_, ?_, by rw [World.frozen?_setCell]; exact h.f0, by rw [World.frozen?_setCell]; exact h.f1, by rw [World.frozen?_setCell]; exact h.f2, by rw [World.frozen?_setCell]; exact h.f3⟩
  · rw [World.cell?_setCell_other _ _ _ _ (by intro q; simp only [Addr.mk.injEq] at q; omega)]; exact h.c0
  · rw [World.cell?_setCell_other _ _ _ _ (by intro q; simp only [Addr.mk.injEq] at q; omega)]; exact h.c1
  · rw [World.cell?_setCell_other _ _ _ _ (by intro q; simp only [Addr.mk.injEq] at q; omega)]; exact h.c2
  · rw [World.cell?_setCell_other _ _ _ _ (by intro q; simp only [Addr.mk.injEq] at q; omega)]; exact h.c3
theorem B4.set {w : World} {b : Nat} {x0 x1 x2 x3 u0 u1 u2 u3 : Value} (h : B4 w b x0 x1 x2 x3) : B4 ((((w.setCell ⟨b, 0, none⟩ u0).setCell ⟨b, 1, none⟩ u1).setCell ⟨b, 2, none⟩ u2).setCell ⟨b, 3, none⟩ u3) b u0 u1 u2 u3 := by
  refine ⟨?_, ?_, ?_, ?_, by simp only [World.frozen?_setCell]; exact h.f0, by simp only [World.frozen?_setCell]; exact h.f1, by simp only [World.frozen?_setCell]; exact h.f2, by simp only [World.frozen?_setCell]; exact h.f3⟩
  · rw [World.cell?_setCell_other _ _ _ _ (by intro q; simp only [Addr.mk.injEq] at q; omega)]; rw [World.cell?_setCell_other _ _ _ _ (by intro q; simp only [Addr.mk.injEq] at q; omega)]; rw [World.cell?_setCell_other _ _ _ _ (by intro q; simp only [Addr.mk.injEq] at q; omega)]; have hh : _ = some x0 := h.c0
    have h1 : w.cell? ⟨b, 0, none⟩ = some x0 := by
      exact hh
    exact World.cell?_setCell_same _ _ _ h1
  · rw [World.cell?_setCell_other _ _ _ _ (by intro q; simp only [Addr.mk.injEq] at q; omega)]; rw [World.cell?_setCell_other _ _ _ _ (by intro q; simp only [Addr.mk.injEq] at q; omega)]; have hh : _ = some x1 := h.c1
    have h1 : (w.setCell ⟨b, 0, none⟩ u0).cell? ⟨b, 1, none⟩ = some x1 := by
      rw [World.cell?_setCell_other _ _ _ _ (by intro q; simp only [Addr.mk.injEq] at q; omega)]; exact hh
    exact World.cell?_setCell_same _ _ _ h1
  · rw [World.cell?_setCell_other _ _ _ _ (by intro q; simp only [Addr.mk.injEq] at q; omega)]; have hh : _ = some x2 := h.c2
    have h1 : ((w.setCell ⟨b, 0, none⟩ u0).setCell ⟨b, 1, none⟩ u1).cell? ⟨b, 2, none⟩ = some x2 := by
      rw [World.cell?_setCell_other _ _ _ _ (by intro q; simp only [Addr.mk.injEq] at q; omega)]; rw [World.cell?_setCell_other _ _ _ _ (by intro q; simp only [Addr.mk.injEq] at q; omega)]; exact hh
    exact World.cell?_setCell_same _ _ _ h1
  · have hh : _ = some x3 := h.c3
    have h1 : (((w.setCell ⟨b, 0, none⟩ u0).setCell ⟨b, 1, none⟩ u1).setCell ⟨b, 2, none⟩ u2).cell? ⟨b, 3, none⟩ = some x3 := by
      rw [World.cell?_setCell_other _ _ _ _ (by intro q; simp only [Addr.mk.injEq] at q; omega)]; rw [World.cell?_setCell_other _ _ _ _ (by intro q; simp only [Addr.mk.injEq] at q; omega)]; rw [World.cell?_setCell_other _ _ _ _ (by intro q; simp only [Addr.mk.injEq] at q; omega)]; exact hh
    exact World.cell?_setCell_same _ _ _ h1
theorem B4.drew {w : World} {b : Nat} {x0 x1 x2 x3 : Value} (h : B4 w b x0 x1 x2 x3) : B4 w.drew b x0 x1 x2 x3 := ⟨h.c0, h.c1, h.c2, h.c3, h.f0, h.f1, h.f2, h.f3⟩
theorem B4.grown {w w' : World} {b g : Nat} {x0 x1 x2 x3 : Value} (h : B4 w b x0 x1 x2 x3) (hg : w.grownBy w' (some g)) (hne : b ≠ g) : B4 w' b x0 x1 x2 x3 := ⟨cell_far h.c0 hg hne, cell_far h.c1 hg hne, cell_far h.c2 hg hne, cell_far h.c3 hg hne, free_far h.c0 h.f0 hg hne, free_far h.c1 h.f1 hg hne, free_far h.c2 h.f2 hg hne, free_far h.c3 h.f3 hg hne⟩
end Go.Proofs.Ytnemailhijkemaa

namespace Go.Proofs.Ytnemailhijkemaa
open Go.RowKit
set_option linter.unusedVariables false
theorem below_put4 {B b : Nat} {w w' : World} (h : Below B w w') (hb : B ≤ b) (u v t s : Value) : Below B w ((((w'.setCell ⟨b, 0, none⟩ u).setCell ⟨b, 1, none⟩ v).setCell ⟨b, 2, none⟩ t).setCell ⟨b, 3, none⟩ s) := (((h.setCell hb _).setCell hb _).setCell hb _).setCell hb _
theorem b4_row {w : World} {k : Nat} {x y z t : Value} (h : Row w k [x, y, z, t]) : B4 w k x y z t := ⟨(h 0 x rfl).1, (h 1 y rfl).1, (h 2 z rfl).1, (h 3 t rfl).1, (h 0 x rfl).2, (h 1 y rfl).2, (h 2 z rfl).2, (h 3 t rfl).2⟩
theorem cell_put1 {w : World} {n k i j : Nat} {v : Value} (h : w.cell? ⟨n, i, none⟩ = some v) (hk : n ≠ k) (u : Value) : (w.setCell ⟨k, j, none⟩ u).cell? ⟨n, i, none⟩ = some v := by
  rw [World.cell?_setCell_other _ _ _ _ (by intro q; simp only [Addr.mk.injEq] at q; omega)]; exact h
theorem cell_put2 {w : World} {n k i : Nat} {x : Value} (h : w.cell? ⟨n, i, none⟩ = some x) (hk : n ≠ k) (u v : Value) : ((w.setCell ⟨k, 0, none⟩ u).setCell ⟨k, 1, none⟩ v).cell? ⟨n, i, none⟩ = some x := cell_put1 (cell_put1 h hk u) hk v
theorem cell_put3 {w : World} {n k i : Nat} {x : Value} (h : w.cell? ⟨n, i, none⟩ = some x) (hk : n ≠ k) (u v t : Value) : (((w.setCell ⟨k, 0, none⟩ u).setCell ⟨k, 1, none⟩ v).setCell ⟨k, 2, none⟩ t).cell? ⟨n, i, none⟩ = some x := cell_put1 (cell_put2 h hk u v) hk t
theorem cell_put4 {w : World} {n k i : Nat} {x : Value} (h : w.cell? ⟨n, i, none⟩ = some x) (hk : n ≠ k) (u v t s : Value) : ((((w.setCell ⟨k, 0, none⟩ u).setCell ⟨k, 1, none⟩ v).setCell ⟨k, 2, none⟩ t).setCell ⟨k, 3, none⟩ s).cell? ⟨n, i, none⟩ = some x := cell_put1 (cell_put3 h hk u v t) hk s
theorem bs_22 (w : World) (x00 x01 x10 x11 : Value) (t0 t1 : TypeId) : ∃ W, W = ((w.alloc (.cells #[x00, x01] t0)).alloc (.cells #[x10, x11] t1)) ∧ Below w.heap.size w W ∧ Bx W (w.heap.size) x00 x01 ∧ Bx W (w.heap.size + 1) x10 x11 ∧ w.heap.size + 1 < W.heap.size := by
  have e0 : Below w.heap.size w (w.alloc (.cells #[x00, x01] t0)) := (Below.refl _ _).alloc (Nat.le_refl _) _
  have h0 := bx_new w x00 x01 t0
  have e1 : Below (w.alloc (.cells #[x00, x01] t0)).heap.size (w.alloc (.cells #[x00, x01] t0)) ((w.alloc (.cells #[x00, x01] t0)).alloc (.cells #[x10, x11] t1)) := (Below.refl _ _).alloc (Nat.le_refl _) _
  have h1 := bx_new (w.alloc (.cells #[x00, x01] t0)) x10 x11 t1
  rw [World.size_alloc] at h1
  exact ⟨_, rfl, also (e0) e1, (h0.on e1), h1, by simp⟩
theorem bs_2 (w : World) (x00 x01 : Value) (t0 : TypeId) : ∃ W, W = (w.alloc (.cells #[x00, x01] t0)) ∧ Below w.heap.size w W ∧ Bx W (w.heap.size) x00 x01 ∧ w.heap.size < W.heap.size := by
  have e0 : Below w.heap.size w (w.alloc (.cells #[x00, x01] t0)) := (Below.refl _ _).alloc (Nat.le_refl _) _
  have h0 := bx_new w x00 x01 t0
  exact ⟨_, rfl, e0, h0, by simp⟩
theorem bs_222 (w : World) (x00 x01 x10 x11 x20 x21 : Value) (t0 t1 t2 : TypeId) : ∃ W, W = (((w.alloc (.cells #[x00, x01] t0)).alloc (.cells #[x10, x11] t1)).alloc (.cells #[x20, x21] t2)) ∧ Below w.heap.size w W ∧ Bx W (w.heap.size) x00 x01 ∧ Bx W (w.heap.size + 1) x10 x11 ∧ Bx W (w.heap.size + 1 + 1) x20 x21 ∧ w.heap.size + 1 + 1 < W.heap.size := by
  have e0 : Below w.heap.size w (w.alloc (.cells #[x00, x01] t0)) := (Below.refl _ _).alloc (Nat.le_refl _) _
  have h0 := bx_new w x00 x01 t0
  have e1 : Below (w.alloc (.cells #[x00, x01] t0)).heap.size (w.alloc (.cells #[x00, x01] t0)) ((w.alloc (.cells #[x00, x01] t0)).alloc (.cells #[x10, x11] t1)) := (Below.refl _ _).alloc (Nat.le_refl _) _
  have h1 := bx_new (w.alloc (.cells #[x00, x01] t0)) x10 x11 t1
  rw [World.size_alloc] at h1
  have e2 : Below ((w.alloc (.cells #[x00, x01] t0)).alloc (.cells #[x10, x11] t1)).heap.size ((w.alloc (.cells #[x00, x01] t0)).alloc (.cells #[x10, x11] t1)) (((w.alloc (.cells #[x00, x01] t0)).alloc (.cells #[x10, x11] t1)).alloc (.cells #[x20, x21] t2)) := (Below.refl _ _).alloc (Nat.le_refl _) _
  have h2 := bx_new ((w.alloc (.cells #[x00, x01] t0)).alloc (.cells #[x10, x11] t1)) x20 x21 t2
  rw [World.size_alloc, World.size_alloc] at h2
  exact ⟨_, rfl, also (also (e0) e1) e2, ((h0.on e1).on e2), (h1.on e2), h2, by simp⟩
theorem bs_2222 (w : World) (x00 x01 x10 x11 x20 x21 x30 x31 : Value) (t0 t1 t2 t3 : TypeId) : ∃ W, W = ((((w.alloc (.cells #[x00, x01] t0)).alloc (.cells #[x10, x11] t1)).alloc (.cells #[x20, x21] t2)).alloc (.cells #[x30, x31] t3)) ∧ Below w.heap.size w W ∧ Bx W (w.heap.size) x00 x01 ∧ Bx W (w.heap.size + 1) x10 x11 ∧ Bx W (w.heap.size + 1 + 1) x20 x21 ∧ Bx W (w.heap.size + 1 + 1 + 1) x30 x31 ∧ w.heap.size + 1 + 1 + 1 < W.heap.size := by
  have e0 : Below w.heap.size w (w.alloc (.cells #[x00, x01] t0)) := (Below.refl _ _).alloc (Nat.le_refl _) _
  have h0 := bx_new w x00 x01 t0
  have e1 : Below (w.alloc (.cells #[x00, x01] t0)).heap.size (w.alloc (.cells #[x00, x01] t0)) ((w.alloc (.cells #[x00, x01] t0)).alloc (.cells #[x10, x11] t1)) := (Below.refl _ _).alloc (Nat.le_refl _) _
  have h1 := bx_new (w.alloc (.cells #[x00, x01] t0)) x10 x11 t1
  rw [World.size_alloc] at h1
  have e2 : Below ((w.alloc (.cells #[x00, x01] t0)).alloc (.cells #[x10, x11] t1)).heap.size ((w.alloc (.cells #[x00, x01] t0)).alloc (.cells #[x10, x11] t1)) (((w.alloc (.cells #[x00, x01] t0)).alloc (.cells #[x10, x11] t1)).alloc (.cells #[x20, x21] t2)) := (Below.refl _ _).alloc (Nat.le_refl _) _
  have h2 := bx_new ((w.alloc (.cells #[x00, x01] t0)).alloc (.cells #[x10, x11] t1)) x20 x21 t2
  rw [World.size_alloc, World.size_alloc] at h2
  have e3 : Below (((w.alloc (.cells #[x00, x01] t0)).alloc (.cells #[x10, x11] t1)).alloc (.cells #[x20, x21] t2)).heap.size (((w.alloc (.cells #[x00, x01] t0)).alloc (.cells #[x10, x11] t1)).alloc (.cells #[x20, x21] t2)) ((((w.alloc (.cells #[x00, x01] t0)).alloc (.cells #[x10, x11] t1)).alloc (.cells #[x20, x21] t2)).alloc (.cells #[x30, x31] t3)) := (Below.refl _ _).alloc (Nat.le_refl _) _
  have h3 := bx_new (((w.alloc (.cells #[x00, x01] t0)).alloc (.cells #[x10, x11] t1)).alloc (.cells #[x20, x21] t2)) x30 x31 t3
  rw [World.size_alloc, World.size_alloc, World.size_alloc] at h3
  exact ⟨_, rfl, also (also (also (e0) e1) e2) e3, (((h0.on e1).on e2).on e3), ((h1.on e2).on e3), (h2.on e3), h3, by simp⟩
end Go.Proofs.Ytnemailhijkemaa

namespace Go.Proofs.Ytnemailhijkemaa
open Go.RowKit
set_option linter.unusedVariables false

end Go.Proofs.Ytnemailhijkemaa
