/-
  Joined texts, part 2:
  How many digits a number needs, to the base 65536, and its digits without noughts at the end. It imports nothing of the program.
  The arithmetic of a difference, and of a division by a small number, digit by digit. It imports nothing of the program.
  The arithmetic of a product, digit by digit. It imports nothing of the program.
  Digits to the base 65536, cut, joined, held against each other. It imports nothing of the program.
  A region whose order is open, an operation at a time: one that is wanted and yields in every world of interest, one that is not wanted, a call. It imports nothing of the program.
  What zelligeref03's Trim and Of answer.
  What zelligeref03's Nat and Same answer.
  What zelligeref03's Same answers of a number and its digits.
  What nat's DivMod answers, where the divisor is nought, longer, or one word.
  Numbers as digits to the base 2: which digits a sum, a difference, a product has. It imports nothing of the program.
  How many digits a number needs, to the base 2, and its digits without noughts at the end. It imports nothing of the program.
  How many bits a number needs: math/bits.Len32 off the shelf, nat's Bits, and zelligeref03's Half and Bits.
  What nat's shiftUp and shiftDown answer, and math/bits.LeadingZeros32.
  What nat's guess answers: right, or one too high.
  What nat's shiftDown and takeOff answer.
  What nat's divideLong answers, and DivMod where the divisor has two words at least.
  What nat's DivMod answers.
  slices.Backward over a nat: what a loop over it is handed.
  What nat's Cmp answers.
  What nat's Cmp answers where both numbers have the same length.
  What nat's Sub answers.
-/
import Derived.Test.YtnemailhijkemaaP1
import Derived.Deep.RegionHeld3
import Derived.Deep.AppendLies
import Derived.WalkKit
import Derived.Shelf.Abstract
import Derived.Lib.ItoaNum
import Derived.BigQuiet
import Derived.RangeFuncNested
import Derived.RangeFuncBound
import Derived.RangeFuncCalls
import Derived.RangeFuncLeaves
import Derived.RangeFuncBox
import Derived.Shelf.RegionOpen
import Derived.OwnWalkIn
import Derived.TacticsInMore
import Derived.LoopNIn
import Derived.LoopIn
namespace Go.Proofs.Ytnemailhijkemaa.hf
open Go.RowKit
set_option linter.unusedVariables false

/-- v needs n digits: none for nought. -/
def IsLen (v n : Nat) : Prop := v < 65536 ^ n ∧ (n = 0 ∨ 65536 ^ (n - 1) ≤ v)
theorem isLen_one {v n m : Nat} (h : IsLen v n) (h' : IsLen v m) : n = m := by
  obtain ⟨a, b⟩ := h
  obtain ⟨a', b'⟩ := h'
  rcases Nat.lt_trichotomy n m with e | e | e
  · rcases b' with b' | b'
    · omega
    · have := Nat.pow_le_pow_right (n := 65536) (by decide) (show n ≤ m - 1 by omega)
      omega
  · exact e
  · rcases b with b | b
    · omega
    · have := Nat.pow_le_pow_right (n := 65536) (by decide) (show m ≤ n - 1 by omega)
      omega
/-- A number below 65536^n has a length of n at most, and is found by cutting noughts off the end. -/
theorem isLen_cut : ∀ (n v : Nat), v < 65536 ^ n → ∃ m, m ≤ n ∧ IsLen v m
  | 0, v, h => ⟨0, Nat.le_refl _, h, Or.inl rfl⟩
  | n + 1, v, h => by
    by_cases c : v < 65536 ^ n
    · obtain ⟨m, h1, h2⟩ := isLen_cut n v c
      exact ⟨m, by omega, h2⟩
    · exact ⟨n + 1, Nat.le_refl _, h, Or.inr (by simp; omega)⟩
theorem lt_pow_self (v : Nat) : v < 65536 ^ v := Nat.lt_pow_self (by decide)
theorem isLen_ex (v : Nat) : ∃ m, IsLen v m := by
  obtain ⟨m, _, h⟩ := isLen_cut v v (lt_pow_self v)
  exact ⟨m, h⟩
/-- How many digits v needs. -/
def nlen (v : Nat) : Nat := if h : v = 0 then 0 else nlen (v / 65536) + 1
  termination_by v
  decreasing_by exact Nat.div_lt_self (Nat.pos_of_ne_zero h) (by decide)
theorem nlen_is (v : Nat) : IsLen v (nlen v) := by
  induction v using Nat.strongRecOn with
  | ind v ih =>
    unfold nlen
    split
    · rename_i h
      rw [h]
      exact ⟨by decide, Or.inl rfl⟩
    · rename_i h
      obtain ⟨h1, h2⟩ := ih (v / 65536) (Nat.div_lt_self (Nat.pos_of_ne_zero h) (by decide))
      refine ⟨?_, Or.inr ?_⟩
      · rw [Nat.pow_succ]
        exact (Nat.div_lt_iff_lt_mul (by decide)).1 h1
      · rw [Nat.add_sub_cancel]
        rcases h2 with h2 | h2
        · rw [h2]
          exact Nat.pos_of_ne_zero h
        · rcases Nat.eq_zero_or_pos (nlen (v / 65536)) with h3 | h3
          · rw [h3]
            exact Nat.pos_of_ne_zero h
          · have h4 := (Nat.le_div_iff_mul_le (by decide)).1 h2
            rw [← Nat.pow_succ] at h4
            rwa [show (nlen (v / 65536) - 1).succ = nlen (v / 65536) by omega] at h4
theorem nlen_eq {v n : Nat} (h : IsLen v n) : nlen v = n := isLen_one (nlen_is v) h
theorem nlen_le {v n : Nat} (h : v < 65536 ^ n) : nlen v ≤ n := by
  obtain ⟨m, h1, h2⟩ := isLen_cut n v h
  rw [nlen_eq h2]; exact h1
theorem nlen_zero : nlen 0 = 0 := nlen_eq ⟨by decide, Or.inl rfl⟩
theorem nlen_lt (v : Nat) : v < 65536 ^ nlen v := (nlen_is v).1
theorem nlen_pos {v : Nat} (h : 0 < v) : 0 < nlen v := by
  rcases Nat.lt_or_ge 0 (nlen v) with l | l
  · exact l
  · have := nlen_lt v
    rw [show nlen v = 0 by omega] at this
    simp at this
    omega
/-- The longer number is the greater. -/
theorem lt_of_nlen {u v : Nat} (h : nlen u < nlen v) : u < v := by
  obtain ⟨_, b⟩ := nlen_is v
  rcases b with b | b
  · omega
  · have := nlen_lt u
    have := Nat.pow_le_pow_right (n := 65536) (by decide) (show nlen u ≤ nlen v - 1 by omega)
    omega
theorem pow_cast (k : Nat) : ((65536 ^ k : Nat) : Int) = (65536 : Int) ^ k := by rw [Int.natCast_pow]; rfl
theorem dg_nat (v k : Nat) : dg (v : Int) k = ((v / 65536 ^ k % 65536 : Nat) : Int) := by
  unfold dg
  rw [← pow_cast]
  omega
/-- The digit at a place that a number does not reach is nought; the highest one that it has is not. -/
theorem dg_over {v k : Nat} (h : v < 65536 ^ k) : dg (v : Int) k = 0 := by rw [dg_nat, Nat.div_eq_of_lt h]; rfl
theorem dg_top {v n : Nat} (h : IsLen v (n + 1)) : dg (v : Int) n ≠ 0 := by
  obtain ⟨a, b⟩ := h
  have b : 65536 ^ n ≤ v := by
    rcases b with b | b
    · omega
    · exact b
  rw [dg_nat]
  have h1 : 1 ≤ v / 65536 ^ n := (Nat.one_le_div_iff (Nat.pow_pos (by decide))).2 b
  have h2 : v / 65536 ^ n < 65536 := by
    rw [Nat.pow_succ] at a
    exact Nat.div_lt_of_lt_mul a
  rw [Nat.mod_eq_of_lt h2]
  omega
/-- One nought at the end cut off. -/
theorem lt_of_dg_zero {v n : Nat} (h : v < 65536 ^ (n + 1)) (z : dg (v : Int) n = 0) : v < 65536 ^ n := by
  rcases Nat.lt_or_ge v (65536 ^ n) with l | l
  · exact l
  · exact absurd z (dg_top ⟨h, Or.inr (by simpa using l)⟩)
/-- Two numbers of n digits with the same digits are the same. -/
theorem eq_of_dcells : ∀ (n : Nat) (u v : Nat), u < 65536 ^ n → v < 65536 ^ n → (∀ j, j < n → dg (u : Int) j = dg (v : Int) j) → u = v := by
  intro n
  induction n with
  | zero => intro u v hu hv _; simp at hu hv; omega
  | succ n ih =>
    intro u v hu hv h
    have e := ih (u % 65536 ^ n) (v % 65536 ^ n) (Nat.mod_lt _ (Nat.pow_pos (by decide))) (Nat.mod_lt _ (Nat.pow_pos (by decide))) (fun j hj => by
      have a : ∀ x : Nat, dg ((x % 65536 ^ n : Nat) : Int) j = dg (x : Int) j := fun x => by
        refine dg_congr (i := n) (-((x / 65536 ^ n : Nat) : Int)) ?_ hj
        have := Nat.mod_add_div x (65536 ^ n)
        rw [← pow_cast, Int.neg_mul, ← Int.natCast_mul, Nat.mul_comm (x / 65536 ^ n)]
        omega
      rw [a, a]
      exact h j (by omega))
    have t := h n (by omega)
    rw [dg_nat, dg_nat] at t
    have du : u / 65536 ^ n < 65536 := by rw [Nat.pow_succ] at hu; exact Nat.div_lt_of_lt_mul hu
    have dv : v / 65536 ^ n < 65536 := by rw [Nat.pow_succ] at hv; exact Nat.div_lt_of_lt_mul hv
    rw [Nat.mod_eq_of_lt du, Nat.mod_eq_of_lt dv] at t
    have t' : u / 65536 ^ n = v / 65536 ^ n := by omega
    have h1 := Nat.mod_add_div u (65536 ^ n)
    have h2 := Nat.mod_add_div v (65536 ^ n)
    rw [e, t'] at h1
    omega
end Go.Proofs.Ytnemailhijkemaa.hf

namespace Go.Proofs.Ytnemailhijkemaa.hf
open Go.RowKit
set_option linter.unusedVariables false

/-- The borrow, under a name. -/
def bor (x y : Int) : Int := if x < y then 1 else 0
/-- The borrow out of the places below i when y is taken off x. -/
def bw (x y : Int) (i : Nat) : Int := -((x % 65536 ^ i - y % 65536 ^ i) / 65536 ^ i)
theorem bw_zero (x y : Int) : bw x y 0 = 0 := by simp [bw, Int.emod_one]
theorem bw_sum (x y : Int) (i : Nat) : (x % 65536 ^ (i + 1) - y % 65536 ^ (i + 1)) / 65536 ^ i = dg x i - dg y i - bw x y i := by
  rw [emod_succ, emod_succ]
  unfold bw
  have e : dg x i * 65536 ^ i + x % 65536 ^ i - (dg y i * 65536 ^ i + y % 65536 ^ i) = (x % 65536 ^ i - y % 65536 ^ i) + (dg x i - dg y i) * 65536 ^ i := by rw [Int.sub_mul]; omega
  rw [e, Int.add_mul_ediv_right _ _ (Int.ne_of_gt (p256 i))]
  omega
theorem bw_range (x y : Int) (i : Nat) : 0 ≤ bw x y i ∧ bw x y i ≤ 1 := by
  unfold bw
  have hp := p256 i
  have a := Int.emod_nonneg x (Int.ne_of_gt hp)
  have a' := Int.emod_lt_of_pos x hp
  have b := Int.emod_nonneg y (Int.ne_of_gt hp)
  have b' := Int.emod_lt_of_pos y hp
  have h1 : (x % 65536 ^ i - y % 65536 ^ i) / 65536 ^ i < 1 := Int.ediv_lt_of_lt_mul hp (by omega)
  have h2 : -1 ≤ (x % 65536 ^ i - y % 65536 ^ i) / 65536 ^ i := Int.le_ediv_of_mul_le hp (by omega)
  omega
theorem bw_succ (x y : Int) (i : Nat) : bor (dg x i) (dg y i + bw x y i) = bw x y (i + 1) := by
  have e : bw x y (i + 1) = -((dg x i - dg y i - bw x y i) / 65536) := by
    rw [← bw_sum]
    show -((x % 65536 ^ (i + 1) - y % 65536 ^ (i + 1)) / 65536 ^ (i + 1)) = _
    have hp := p256 i
    rw [Int.pow_succ, Int.ediv_ediv, if_neg (by omega)]
    omega
  rw [e]
  have h := bw_range x y i
  have a := dg_range x i
  have b := dg_range y i
  unfold bor
  split <;> omega
theorem sub_digit (x y : Int) (i : Nat) : (dg x i - dg y i - bw x y i) % 65536 = dg (x - y) i := by
  unfold dg bw
  have hp := p256 i
  have h1 := Int.mul_ediv_add_emod x (65536 ^ i)
  have h2 := Int.mul_ediv_add_emod y (65536 ^ i)
  have e : x - y = (x % 65536 ^ i - y % 65536 ^ i) + (x / 65536 ^ i - y / 65536 ^ i) * 65536 ^ i := by
    have a1 : x / 65536 ^ i * (65536 : Int) ^ i = 65536 ^ i * (x / 65536 ^ i) := Int.mul_comm _ _
    have a2 : y / 65536 ^ i * (65536 : Int) ^ i = 65536 ^ i * (y / 65536 ^ i) := Int.mul_comm _ _
    rw [Int.sub_mul]; omega
  have e2 : (x - y) / 65536 ^ i = (x % 65536 ^ i - y % 65536 ^ i) / 65536 ^ i + (x / 65536 ^ i - y / 65536 ^ i) := by
    conv => lhs; rw [e]
    exact Int.add_mul_ediv_right _ _ (Int.ne_of_gt hp)
  rw [e2]
  omega
/-- Long division by d: what is left of the places from k + 1 on, and digit k, give digit k of the quotient, and what is left of the places from k on. -/
theorem long_div (v d : Int) (k : Nat) (hd : 0 < d) : (v / 65536 ^ (k + 1) % d * 65536 + dg v k) / d = v / 65536 ^ k / d - 65536 * (v / 65536 ^ (k + 1) / d) ∧ (v / 65536 ^ (k + 1) % d * 65536 + dg v k) % d = v / 65536 ^ k % d := by
  have hp := p256 k
  have e : v / 65536 ^ (k + 1) = v / 65536 ^ k / 65536 := by rw [Int.pow_succ, Int.ediv_ediv, if_neg (by omega)]; omega
  unfold dg
  rw [e]
  generalize v / 65536 ^ k = u
  have h1 : u / 65536 % d = u / 65536 - d * (u / 65536 / d) := by have := Int.mul_ediv_add_emod (u / 65536) d; omega
  have h2 : u / 65536 % d * 65536 + u % 65536 = u + (-(65536 * (u / 65536 / d))) * d := by
    rw [h1, Int.sub_mul, Int.neg_mul, Int.mul_comm d, Int.mul_assoc, Int.mul_comm d 65536, Int.mul_left_comm, Int.mul_assoc]
    omega
  rw [h2]
  refine ⟨?_, Int.add_mul_emod_self_right _ _ _⟩
  rw [Int.add_mul_ediv_right _ _ (by omega)]
  omega
end Go.Proofs.Ytnemailhijkemaa.hf

namespace Go.Proofs.Ytnemailhijkemaa.hf
set_option linter.unusedVariables false

/-- What stands below place i + k, and over it, when k digits of y have been taken times digit i of x. -/
def tk (O xi y : Int) (i k : Nat) : Int := O % 65536 ^ (i + k) + xi * 65536 ^ i * (y % 65536 ^ k)
def cy (O xi y : Int) (i k : Nat) : Int := tk O xi y i k / 65536 ^ (i + k)
theorem pow_ik (i k : Nat) : (65536 : Int) ^ (i + k) = 65536 ^ i * 65536 ^ k := Int.pow_add _ _ _
theorem tk_succ (O xi y : Int) (i k : Nat) : tk O xi y i (k + 1) = tk O xi y i k + (dg O (i + k) + xi * dg y k) * 65536 ^ (i + k) := by
  unfold tk
  rw [← Nat.add_assoc, emod_succ, emod_succ, Int.add_mul, Int.mul_add, pow_ik]
  have e : xi * 65536 ^ i * (dg y k * 65536 ^ k) = xi * dg y k * (65536 ^ i * 65536 ^ k) := by
    rw [Int.mul_assoc xi, Int.mul_left_comm (65536 ^ i) (dg y k), Int.mul_assoc xi (dg y k)]
  rw [e]; omega
theorem cy_sum (O xi y : Int) (i k : Nat) : tk O xi y i (k + 1) / 65536 ^ (i + k) = cy O xi y i k + dg O (i + k) + xi * dg y k := by
  rw [tk_succ, Int.add_mul_ediv_right _ _ (Int.ne_of_gt (p256 _))]; unfold cy; omega
theorem cy_succ (O xi y : Int) (i k : Nat) : cy O xi y i (k + 1) = (cy O xi y i k + dg O (i + k) + xi * dg y k) / 65536 := by
  rw [← cy_sum]
  show tk O xi y i (k + 1) / 65536 ^ (i + k + 1) = _
  have hp := p256 (i + k)
  rw [Int.pow_succ, Int.ediv_ediv, if_neg (by omega)]; omega
theorem mul_digit (O xi y : Int) (i k : Nat) : (cy O xi y i k + dg O (i + k) + xi * dg y k) % 65536 = dg (O + xi * 65536 ^ i * y) (i + k) := by
  rw [← cy_sum]
  show dg (tk O xi y i (k + 1)) (i + k) = _
  refine (dg_congr (i := i + k + 1) (O / 65536 ^ (i + k + 1) + xi * (y / 65536 ^ (k + 1))) ?_ (by omega)).symm
  unfold tk
  have h1 := Int.mul_ediv_add_emod O (65536 ^ (i + k + 1))
  have h2 := Int.mul_ediv_add_emod y (65536 ^ (k + 1))
  have e0 : i + (k + 1) = i + k + 1 := by omega
  rw [e0, Int.add_mul]
  have e1 : O / 65536 ^ (i + k + 1) * (65536 : Int) ^ (i + k + 1) = 65536 ^ (i + k + 1) * (O / 65536 ^ (i + k + 1)) := Int.mul_comm _ _
  have e2 : xi * (y / 65536 ^ (k + 1)) * (65536 : Int) ^ (i + k + 1) = xi * 65536 ^ i * (65536 ^ (k + 1) * (y / 65536 ^ (k + 1))) := by
    rw [← e0, pow_ik i (k + 1)]
    generalize (65536 : Int) ^ (k + 1) = K
    rw [Int.mul_assoc xi, Int.mul_assoc xi, Int.mul_left_comm (y / K) (65536 ^ i) K, Int.mul_comm (y / K) K]
  have e3 : xi * 65536 ^ i * y = xi * 65536 ^ i * (65536 ^ (k + 1) * (y / 65536 ^ (k + 1))) + xi * 65536 ^ i * (y % 65536 ^ (k + 1)) := by rw [← Int.mul_add, h2]
  rw [e1, e2, e3]; omega
theorem cy_zero (O xi y : Int) (i : Nat) : cy O xi y i 0 = 0 := by
  unfold cy tk
  have hp := p256 i
  have a := Int.emod_nonneg O (Int.ne_of_gt hp)
  have a' := Int.emod_lt_of_pos O hp
  have e : y % (65536 : Int) ^ 0 = 0 := by simp [Int.emod_one]
  rw [e]
  simp only [Nat.add_zero, Int.mul_zero, Int.add_zero]
  exact Int.ediv_eq_zero_of_lt a a'
theorem cy_range (O xi y : Int) (i k : Nat) (h0 : 0 ≤ xi) (h1 : xi < 65536) : 0 ≤ cy O xi y i k ∧ cy O xi y i k ≤ 65535 := by
  unfold cy tk
  have hp := p256 (i + k)
  have hi := p256 i
  have hk := p256 k
  have a := Int.emod_nonneg O (Int.ne_of_gt hp)
  have a' := Int.emod_lt_of_pos O hp
  have b := Int.emod_nonneg y (Int.ne_of_gt hk)
  have b' := Int.emod_lt_of_pos y hk
  have c : 0 ≤ xi * 65536 ^ i * (y % 65536 ^ k) := Int.mul_nonneg (Int.mul_nonneg h0 (Int.le_of_lt hi)) b
  have c' : xi * 65536 ^ i * (y % 65536 ^ k) ≤ 65535 * 65536 ^ (i + k) := by
    rw [pow_ik, ← Int.mul_assoc]
    exact Int.mul_le_mul (Int.mul_le_mul_of_nonneg_right (by omega) (Int.le_of_lt hi)) (by omega) b (Int.mul_nonneg (by decide) (Int.le_of_lt hi))
  refine ⟨Int.ediv_nonneg (by omega) (by omega), ?_⟩
  have : (O % 65536 ^ (i + k) + xi * 65536 ^ i * (y % 65536 ^ k)) / 65536 ^ (i + k) < 65536 := Int.ediv_lt_of_lt_mul hp (by omega)
  omega
theorem dg_mul (x y : Int) (i k : Nat) : 0 ≤ dg x i * dg y k ∧ dg x i * dg y k ≤ 4294836225 := by
  obtain ⟨a, a'⟩ := dg_range x i
  obtain ⟨b, b'⟩ := dg_range y k
  refine ⟨Int.mul_nonneg a b, ?_⟩
  have := Int.mul_le_mul (show dg x i ≤ 65535 by omega) (show dg y k ≤ 65535 by omega) b (by decide)
  omega
theorem mul_next (x y : Int) (i : Nat) : x % 65536 ^ i * y + dg x i * 65536 ^ i * y = x % 65536 ^ (i + 1) * y := by rw [emod_succ, Int.add_mul]; omega
theorem mix_start (n i : Nat) (O xi y : Int) : mix n i (O + xi * 65536 ^ i * y) O = dcells n O := by
  rw [← mix_zero n O O]
  refine fill_congr fun j _ => ?_
  by_cases h : j < i
  · have e : dg (O + xi * 65536 ^ i * y) j = dg O j := dg_congr (i := i) (xi * y) (by rw [Int.mul_assoc, Int.mul_comm (65536 ^ i) y, ← Int.mul_assoc]) h
    simp [h, e]
  · simp [h]
end Go.Proofs.Ytnemailhijkemaa.hf

namespace Go.Proofs.Ytnemailhijkemaa.hf
open Go.RowKit
set_option linter.unusedVariables false

theorem dg_div (v : Int) (i j : Nat) : dg (v / 65536 ^ i) j = dg v (i + j) := by
  unfold dg
  have hp := p256 i
  rw [Int.pow_add, Int.ediv_ediv, if_neg (by omega)]
  omega
theorem dcells_take (n m : Nat) (v : Int) (h : m ≤ n) : (dcells n v).take m = dcells m v := by
  unfold dcells
  rw [← List.map_take, List.take_range, Nat.min_eq_left h]
theorem dcells_drop (n i : Nat) (v : Int) : (dcells n v).drop i = dcells (n - i) (v / 65536 ^ i) := by
  refine List.ext_getElem? fun j => ?_
  rw [List.getElem?_drop]
  by_cases h : i + j < n
  · rw [dcells_at _ _ _ h, dcells_at _ _ _ (by omega), dg_div]
  · rw [List.getElem?_eq_none (by rw [dcells_length]; omega), List.getElem?_eq_none (by rw [dcells_length]; omega)]
theorem dcells_join (n m : Nat) (u v : Int) : dcells n u ++ dcells m v = dcells (n + m) (u % 65536 ^ n + v * 65536 ^ n) := by
  refine List.ext_getElem? fun j => ?_
  by_cases h : j < n
  · rw [List.getElem?_append_left (by rw [dcells_length]; exact h), dcells_at _ _ _ h, dcells_at _ _ _ (by omega)]
    have h1 := Int.mul_ediv_add_emod u (65536 ^ n)
    rw [dg_congr (u := u) (v := u % 65536 ^ n + v * 65536 ^ n) (i := n) (u / 65536 ^ n - v) (by rw [Int.sub_mul]; have : u / 65536 ^ n * (65536 : Int) ^ n = 65536 ^ n * (u / 65536 ^ n) := Int.mul_comm _ _; omega) h]
  · rw [List.getElem?_append_right (by rw [dcells_length]; omega), dcells_length]
    by_cases h2 : j < n + m
    · rw [dcells_at _ _ _ (by omega), dcells_at _ _ _ h2]
      have hp := p256 n
      have a := Int.emod_nonneg u (Int.ne_of_gt hp)
      have a' := Int.emod_lt_of_pos u hp
      have e : (u % 65536 ^ n + v * 65536 ^ n) / 65536 ^ n = v := by
        rw [Int.add_mul_ediv_right _ _ (Int.ne_of_gt hp), Int.ediv_eq_zero_of_lt a a']; omega
      have := dg_div (u % 65536 ^ n + v * 65536 ^ n) n (j - n)
      rw [e, show n + (j - n) = j by omega] at this
      rw [this]
    · rw [List.getElem?_eq_none (by rw [dcells_length]; omega), List.getElem?_eq_none (by rw [dcells_length]; omega)]
theorem dcells_zero (n : Nat) : dcells n 0 = List.replicate n (.int .i64 0) := by
  refine List.ext_getElem? fun j => ?_
  by_cases h : j < n
  · rw [dcells_at _ _ _ h, List.getElem?_replicate, if_pos h]; simp [dg]
  · rw [List.getElem?_eq_none (by rw [dcells_length]; omega), List.getElem?_eq_none (by simp; omega)]
theorem dcells_succ (t : Nat) (a : Int) : dcells (t + 1) a = dcells t a ++ [.int .i64 (dg a t)] := by
  unfold dcells; rw [List.range_succ, List.map_append]; rfl
/-- Any digits are some number's. -/
theorem digits_num : ∀ zs : List Int, (∀ z ∈ zs, 0 ≤ z ∧ z < 65536) → ∃ u : Nat, u < 65536 ^ zs.length ∧ zs.map (Value.int .i64) = dcells zs.length (u : Int)
  | [], _ => ⟨0, by simp, by simp [dcells]⟩
  | z :: zs, h => by
    obtain ⟨u, hu, e⟩ := digits_num zs (fun x hx => h x (List.mem_cons_of_mem _ hx))
    obtain ⟨h0, h1⟩ := h z (List.mem_cons_self ..)
    refine ⟨z.toNat + 65536 * u, ?_, ?_⟩
    · rw [List.length_cons, Nat.pow_succ]
      have : z.toNat < 65536 := by omega
      omega
    · rw [List.map_cons, List.length_cons, e]
      have e1 : [Value.int .i64 z] = dcells 1 z := by
        simp [dcells, List.range_succ, dg]
        omega
      have := dcells_join 1 zs.length z u
      rw [← e1] at this
      rw [show zs.length + 1 = 1 + zs.length by omega, show ((z.toNat + 65536 * u : Nat) : Int) = z % 65536 ^ 1 + u * 65536 ^ 1 by simp; omega]
      exact this
/-- Number by number: the length of a number's digits without noughts at the end. -/
theorem take_len {u n : Nat} (h : u < 65536 ^ n) : (dcells n (u : Int)).take (nlen u) = dcells (nlen u) (u : Int) := dcells_take _ _ _ (nlen_le h)
theorem nlen_eq_zero {u : Nat} : nlen u = 0 ↔ u = 0 := by
  refine ⟨fun h => ?_, fun h => by rw [h, nlen_zero]⟩
  have := nlen_lt u
  rw [h] at this
  simpa using this
/-- Two numbers, held against each other from the highest digit on. -/
theorem div_step (u k : Nat) : u / 65536 ^ k = 65536 * (u / 65536 ^ (k + 1)) + u / 65536 ^ k % 65536 := by
  rw [Nat.pow_succ, ← Nat.div_div_eq_div_mul]; omega
theorem lt_of_top {u v k : Nat} (h : u / 65536 ^ (k + 1) = v / 65536 ^ (k + 1)) (hd : dg (u : Int) k < dg (v : Int) k) : u < v := by
  rw [dg_nat, dg_nat] at hd
  have h1 := div_step u k
  have h2 := div_step v k
  rcases Nat.lt_or_ge u v with l | l
  · exact l
  · have := Nat.div_le_div_right (c := 65536 ^ k) l
    omega
theorem eq_of_top {u v k : Nat} (h : u / 65536 ^ (k + 1) = v / 65536 ^ (k + 1)) (hd : dg (u : Int) k = dg (v : Int) k) : u / 65536 ^ k = v / 65536 ^ k := by
  rw [dg_nat, dg_nat] at hd
  have h1 := div_step u k
  have h2 := div_step v k
  omega
theorem quot_digit (v d : Int) (k : Nat) (hd : 0 < d) : (v / 65536 ^ (k + 1) % d * 65536 + dg v k) / d = dg (v / d) k := by
  rw [(long_div v d k hd).1]
  have hp := p256 k
  have hp1 := p256 (k + 1)
  have e1 : v / d / 65536 ^ k = v / 65536 ^ k / d := by rw [Int.ediv_ediv, if_neg (by omega), Int.ediv_ediv, if_neg (by omega), Int.mul_comm]
  have e2 : v / d / 65536 ^ (k + 1) = v / 65536 ^ (k + 1) / d := by rw [Int.ediv_ediv, if_neg (by omega), Int.ediv_ediv, if_neg (by omega), Int.mul_comm]
  have e3 : ∀ x : Int, x / 65536 ^ (k + 1) = x / 65536 ^ k / 65536 := fun x => by rw [Int.pow_succ, Int.ediv_ediv, if_neg (by omega)]; omega
  unfold dg
  rw [← e2, e3, ← e1]
  omega
/-- Cells from place k on those of u, below it those of v. -/
def xim (n k : Nat) (u v : Int) : List Value := fill n (fun j => decide (k ≤ j)) u v
theorem xim_length (n k : Nat) (u v : Int) : (xim n k u v).length = n := fill_length _ _ _ _
theorem xim_at (n k : Nat) (u v : Int) (i : Nat) (h : i < n) (hk : i < k) : (xim n k u v)[i]? = some (.int .i64 (dg v i)) := by
  rw [xim, fill_at _ _ _ _ _ h]; simp; omega
theorem xim_set (n k : Nat) (u v : Int) : (xim n (k + 1) u v).set k (.int .i64 (dg u k)) = xim n k u v := by
  unfold xim
  rw [fill_set]
  refine fill_congr fun j _ => ?_
  have : (decide (k + 1 ≤ j) || j == k) = decide (k ≤ j) := by rw [Bool.eq_iff_iff]; simp; omega
  rw [this]
theorem xim_full (n : Nat) (u v : Int) : xim n n u v = dcells n v := by
  unfold xim fill dcells
  refine List.map_congr_left fun j hj => ?_
  have : ¬ n ≤ j := by have : j < n := by simpa using hj
                       omega
  simp [this]
theorem xim_zero (n : Nat) (u v : Int) : xim n 0 u v = dcells n u := by unfold xim fill dcells; simp
theorem pow_nat (k : Nat) : 0 < 65536 ^ k := Nat.pow_pos (by decide)
theorem dg_lt_int (v : Int) (k : Nat) (h0 : 0 ≤ v) (h : v < 65536 ^ k) : dg v k = 0 := by
  unfold dg; rw [Int.ediv_eq_zero_of_lt h0 h]; rfl
end Go.Proofs.Ytnemailhijkemaa.hf

namespace Go.Proofs.Ytnemailhijkemaa
variable {P : Program} {md : Region.Mode} {Q : Exit → Act → World → Prop} {S : World → Prop}

theorem take_yes {l : List Oper} {i : Nat} {oi : Oper} {v : Value} {fuel : Nat} {listed : Array Bool} {a : Act} {w : World} (hi : l[i]? = some oi)
    (hs : Region.noSelect l.toArray = true) (hf : Region.free md l.toArray listed i = true) (hr : (Region.ready md l.toArray listed).contains i = true)
    (hQ : ∀ c a w, Q (.panic c) (a.put oi.dst v) w → Q (.panic c) a w) (hw : Region.wanted oi (yielded l.toArray a.tmps) = true) (hS : S w)
    (hy : ∀ w, S w → (execOp a.eval oi).run P w = .ok (.value v) w)
    (h : wpAnyH P md l.toArray Q S fuel (listed.setIfInBounds i true) (a.put oi.dst v) w) : wpAnyH P md l.toArray Q S (fuel + 1) listed a w :=
  wpAnyH_take (by simpa using hi) hs hf hr hQ (Or.inl ⟨hw, hy⟩) hS h
theorem take_no {l : List Oper} {i : Nat} {oi : Oper} {fuel : Nat} {listed : Array Bool} {a : Act} {w : World} (hi : l[i]? = some oi)
    (hs : Region.noSelect l.toArray = true) (hf : Region.free md l.toArray listed i = true) (hr : (Region.ready md l.toArray listed).contains i = true)
    (hQ : ∀ c a w, Q (.panic c) (a.put oi.dst undef) w → Q (.panic c) a w) (hw : Region.wanted oi (yielded l.toArray a.tmps) = false) (hS : S w)
    (h : wpAnyH P md l.toArray Q S fuel (listed.setIfInBounds i true) (a.put oi.dst undef) w) : wpAnyH P md l.toArray Q S (fuel + 1) listed a w :=
  wpAnyH_take (v := undef) (by simpa using hi) hs hf hr hQ (Or.inr ⟨hw, rfl⟩) hS h
theorem take_call {l : List Oper} {i : Nat} {o : Oper} {fuel : Nat} {listed : Array Bool} {a : Act} {w : World} (ho : l[i]? = some o) (hr : Region.ready md l.toArray listed = [i])
    (h : ∀ K' : Act → World → Prop, Shut (∀ a w, S w → (S w → wpAnyH P md l.toArray Q S fuel (listed.setIfInBounds i true) a w) → K' a w) → if Region.wanted o (yielded l.toArray a.tmps) = true then Oper.wp P o a w K' Q else K' (a.put o.dst undef) w) :
    wpAnyH P md l.toArray Q S (fuel + 1) listed a w :=
  wpAnyH_ready hr (by simp) (AllReadyH.cons (by simpa using ho) h AllReadyH.nil)
end Go.Proofs.Ytnemailhijkemaa

namespace Go.Proofs.Ytnemailhijkemaa
open Go.RowKit
set_option linter.unusedVariables false

set_option maxRecDepth 100000 in
set_option maxHeartbeats 400000 in
theorem rtrim_own (a : Option Addr) (l cap u base : Nat) (w : World) (hown : Own w base 3 a l cap (hf.dcells l (u : Int))) (hu : u < 65536 ^ l) :
    Calls Try.prog 63 #[.slice a l cap] w fun e w' => e = .returned (.slice a (hf.nlen u) cap) ∧ w = w' ∧ Own w base 3 a (hf.nlen u) cap (hf.dcells (hf.nlen u) (u : Int)) := by
  have hs := Own.sl hown
  have hcap := hs.big
  have hroom := hs.room
  unfold maxLen at hcap
  have HO : Hid (Own w base 3 a (hf.nlen u) cap (hf.dcells (hf.nlen u) (u : Int))) := by
    have := Own.take hown (hf.nlen_le hu)
    rwa [hf.dcells_take _ _ _ (hf.nlen_le hu)] at this
  have hsh : (a = none ∧ cap = 0) ∨ ∃ g, a = some ⟨g, 0, none⟩ := by
    obtain ⟨_, ⟨h1, _⟩ | ⟨g, cap', cur, hv, _⟩⟩ := hown
    · cases h1; exact Or.inl ⟨rfl, rfl⟩
    · cases hv; exact Or.inr ⟨g, rfl⟩
  rcases hsh with ⟨rfl, rfl⟩ | ⟨g, rfl⟩
  · obtain rfl : l = 0 := by omega
    have hz : Hid (hf.nlen u = 0) := hf.nlen_eq_zero.2 (by simpa using hu)
    clear hown hs
    go_enter Try.func63, Try.ntmps63
    go_wp2
    go_loop [3] (fun i => i = .int .i64 0) (fun i => (intOf i).toNat)
    case atStart => rfl
    case round =>
      obtain rfl := hrel
      go_wp2
      go_ret
      exact ⟨by rw [hz.out]; rfl, rfl, HO.out⟩
  · go_enter Try.func63, Try.ntmps63
    go_wp2
    go_loop [3] (fun i => ∃ k : Nat, k ≤ l ∧ u < 65536 ^ k ∧ i = .int .i64 (k : Int)) (fun i => (intOf i).toNat)
    case atStart => exact ⟨l, Nat.le_refl _, hu, rfl⟩
    case round =>
      obtain ⟨k, hk, huk, rfl⟩ := hrel
      rcases k with _ | k
      · have hz : Hid (hf.nlen u = 0) := hf.nlen_eq_zero.2 (by simpa using huk)
        clear hu huk
        go_wp2
        go_ret
        exact ⟨by rw [hz.out]; rfl, rfl, HO.out⟩
      · have c1 : w.cell? ⟨g, k, none⟩ = some (.int .i64 (hf.dg u k)) := Own.cell hown k _ (hf.dcells_at _ _ _ (by omega))
        have e1 : ((k + 1 : Nat) : Int) - 1 = (k : Int) := by omega
        by_cases hd : hf.dg (u : Int) k = 0
        · have hd' : (hf.dg (u : Int) k == 0) = true := by rw [hd]; rfl
          have Hn : Hid (u < 65536 ^ k) := hf.lt_of_dg_zero huk hd
          clear hd huk hu hown
          go_wp2
          go_round
          case rel => exact ⟨k, by omega, Hn.out, by go_num⟩
          case measure => simp [intOf]
        · have hd' : (hf.dg (u : Int) k == 0) = false := by simpa using hd
          have Hl : Hid (hf.nlen u = k + 1) := by
            refine hf.nlen_eq ⟨huk, Or.inr ?_⟩
            rcases Nat.lt_or_ge u (65536 ^ k) with h | h
            · exact absurd (hf.dg_over h) hd
            · simpa using h
          clear hd huk hu hown
          go_wp2
          go_ret
          exact ⟨by rw [Hl.out]; rfl, rfl, HO.out⟩

/-- Two digits for each word. -/
theorem halves (u : Int) (k : Nat) : hf.dg u (2 * k) = wd.dg u k % 65536 ∧ hf.dg u (2 * k + 1) = wd.dg u k / 65536 := by
  unfold hf.dg wd.dg
  have e : (65536 : Int) ^ (2 * k) = 4294967296 ^ k := by rw [Int.pow_mul]; rfl
  have e2 : (65536 : Int) ^ (2 * k + 1) = 4294967296 ^ k * 65536 := by rw [Int.pow_succ, e]
  have hp := wd.p256 k
  rw [e, e2]
  have : u / (4294967296 ^ k * 65536) = u / 4294967296 ^ k / 65536 := by rw [Int.ediv_ediv, if_neg (by omega)]; omega
  rw [this]
  omega
theorem pow_halves (k : Nat) : 65536 ^ (2 * k) = 4294967296 ^ k := by rw [Nat.pow_mul]
theorem hf_two (t : Nat) (u : Int) : hf.dcells (2 * (t + 1)) u = hf.dcells (2 * t) u ++ [.int .i64 (wd.dg u t % 65536), .int .i64 (wd.dg u t / 65536)] := by
  rw [show 2 * (t + 1) = 2 * t + 1 + 1 by omega, hf.dcells_succ, hf.dcells_succ, (halves u t).1, (halves u t).2, List.append_assoc]
  rfl
/-- What holds at the head of each round. -/
def OfRel (w : World) (u l : Nat) (v i : Value) (wr : World) : Prop := ∃ (k cap : Nat) (a : Option Addr), k ≤ l ∧ i = .int .i64 (k : Int) ∧ v = .slice a (2 * k) cap ∧ Own wr w.heap.size 3 a (2 * k) cap (hf.dcells (2 * k) (u : Int)) ∧ Below w.heap.size w wr
theorem ofRel_next {w wr w2 w4 : World} {u l k cap cap' g' : Nat} {a : Option Addr} (hk : k < l) (hown : Own wr w.heap.size 3 a (2 * k) cap (hf.dcells (2 * k) (u : Int))) (hbel : Below w.heap.size w wr)
    (h4 : w4.ownsRow w.heap.size 3 1 (.slice (some ⟨g', 0, none⟩) (2 * k + 2) cap') (2 * k + 2) (hf.dcells (2 * k) (u : Int) ++ [.int .i64 (wd.dg u k % 65536), .int .i64 (wd.dg u k / 65536)]))
    (h2 : Below wr.heap.size wr w2) (hgr : w2.grownBy w4 (Value.slice a (2 * k) cap).ownBlock) : OfRel w u l (.slice (some ⟨g', 0, none⟩) (2 * k + 2) cap') (.int .i64 ((k : Int) + 1)) w4 := by
  have hs := hbel.size
  refine ⟨k + 1, cap', _, hk, by simp, rfl, ?_, (hbel.trans (h2.mono hs)).grown hgr (by have := h2.size; omega) (fun k' hk' => (World.ownsRow.lt hown k' hk').1)⟩
  rw [hf_two]
  exact h4
theorem own_empty (w : World) (base : Nat) (T : TypeId) (hb : base ≤ w.heap.size) : Own (w.alloc (.cells #[] T)) base T (some ⟨w.heap.size, 0, none⟩) 0 0 [] := World.ownsRow_lit w #[] 0 hb (by decide) rfl
set_option maxRecDepth 100000 in
set_option maxHeartbeats 1000000 in
theorem rof_any (a : Option Addr) (l ca u : Nat) (w : World) (ha : Sl w a l ca (wd.dcells l (u : Int))) (hu : u < 4294967296 ^ l) (hl : l ≤ 1000000000) :
    Calls Try.prog 46 #[.slice a l ca] w fun e w' => ∃ a' cap', e = .returned (.slice a' (hf.nlen u) cap') ∧ Own w' w.heap.size 3 a' (hf.nlen u) cap' (hf.dcells (hf.nlen u) (u : Int)) ∧ Below w.heap.size w w' := by
  obtain ⟨i0, hi0, hz0, hz1, hz2⟩ := info_parts infoInt
  have HU : Hid (u < 65536 ^ (2 * l)) := by unfold Hid; rw [pow_halves]; exact hu
  have hown0 := own_empty w w.heap.size 3 (Nat.le_refl _)
  clear hu
  go_enter Try.func46, Try.ntmps46
  go_wp2
  go_loopw [3, 4] (fun v i wr => OfRel w u l v i wr) (fun _ i _ => l - (intOf i).toNat)
  case atStart => exact ⟨0, 0, _, by omega, rfl, rfl, hown0, (Below.refl _ _).alloc (Nat.le_refl _) _⟩
  case round =>
    clear hown0
    obtain ⟨k, cap, v, hk, rfl, rfl, hown, hbel⟩ := hrel
    by_cases hlt : k < l
    · obtain ⟨ba, oa, rfl, hba, hseg⟩ := ha.at (by omega)
      have hroom := ha.room
      have c0 : w.cell? ⟨ba, oa + k, none⟩ = some (.int .u32 (wd.dg u k)) := hseg.cell k _ (wd.dcells_at _ _ _ hlt)
      have c1 : wr.cell? ⟨ba, oa + k, none⟩ = some (.int .u32 (wd.dg u k)) := (hbel.cell (p := ⟨ba, oa + k, none⟩) hba).trans (hseg.cell k _ (wd.dcells_at _ _ _ hlt))
      have hsz := hbel.size
      have hba2 : ba < wr.heap.size := by omega
      obtain ⟨d0, d1⟩ := wd.dg_range u k
      have E1 : IntKind.i64.wrap ((wd.dg (u : Int) k).tmod 65536) = wd.dg u k % 65536 := by rw [Int.tmod_eq_emod_of_nonneg d0, IntKind.wrap_i64]; omega
      have E2 : IntKind.i64.wrap (IntKind.u32.wrap ((wd.dg (u : Int) k).tdiv 65536)) = wd.dg u k / 65536 := by rw [Int.tdiv_eq_ediv_of_nonneg d0, IntKind.wrap_u32', IntKind.wrap_i64]; omega
      have HN : Hid _ := fun w2 w4 g' cap' => ofRel_next (w2 := w2) (w4 := w4) (g' := g') (cap' := cap') hlt hown hbel
      go_wp2
      refine wp_region_held_drew (S := (fun w' => w'.cell? ⟨ba, oa + k, none⟩ = some (.int .u32 (wd.dg u k)) ∧ Below w.heap.size w w')) (by kernel_rfl) ?_ (fun hHeld => ?_)
      · first | exact ⟨c1, hbel⟩ | exact ⟨c1, hbel.drew⟩ | exact ⟨((hHeld.2.alloc hHeld.2.size _).cell (p := ⟨ba, oa + k, none⟩) hba).trans c0, hHeld.2.alloc hHeld.2.size _⟩ | exact ⟨((hbel.alloc hbel.size _).drew.cell (p := ⟨ba, oa + k, none⟩) hba).trans c0, (hbel.alloc hbel.size _).drew⟩
      refine take_yes (i := 0) (v := ?vo0) rfl (by kernel_rfl) (by kernel_rfl) (by kernel_rfl) (fun _ _ _ h => h) (by rfl) (by assumption) ?hyo0 ?resto0
      case hyo0 => (intro w hSw; (try dsimp only at hSw); first | (go_simp; done) | (go_simp; with_reducible rfl))
      simp only [Act.put, List.setIfInBounds_toArray, List.set_cons_zero, List.set_cons_succ]
      refine take_yes (i := 1) (v := ?vo1) rfl (by kernel_rfl) (by kernel_rfl) (by kernel_rfl) (fun _ _ _ h => h) (by rfl) (by assumption) ?hyo1 ?resto1
      case hyo1 => (intro w hSw; (try dsimp only at hSw); first | (go_simp; done) | (go_simp; with_reducible rfl))
      simp only [Act.put, List.setIfInBounds_toArray, List.set_cons_zero, List.set_cons_succ]
      refine take_yes (i := 2) (v := ?vo2) rfl (by kernel_rfl) (by kernel_rfl) (by kernel_rfl) (fun _ _ _ h => h) (by rfl) (by assumption) ?hyo2 ?resto2
      case hyo2 => (intro w hSw; (try dsimp only at hSw); first | (go_simp; done) | (go_simp; with_reducible rfl))
      simp only [Act.put, List.setIfInBounds_toArray, List.set_cons_zero, List.set_cons_succ]
      refine take_yes (i := 3) (v := ?vo3) rfl (by kernel_rfl) (by kernel_rfl) (by kernel_rfl) (fun _ _ _ h => h) (by rfl) (by assumption) ?hyo3 ?resto3
      case hyo3 => (intro w hSw; (try dsimp only at hSw); first | (go_simp; done) | (go_simp; with_reducible rfl))
      simp only [Act.put, List.setIfInBounds_toArray, List.set_cons_zero, List.set_cons_succ]
      refine take_yes (i := 4) (v := ?vo4) rfl (by kernel_rfl) (by kernel_rfl) (by kernel_rfl) (fun _ _ _ h => h) (by rfl) (by assumption) ?hyo4 ?resto4
      case hyo4 => (intro w hSw; (try dsimp only at hSw); first | (go_simp; done) | (go_simp; with_reducible rfl))
      simp only [Act.put, List.setIfInBounds_toArray, List.set_cons_zero, List.set_cons_succ]
      refine take_yes (i := 5) (v := ?vo5) rfl (by kernel_rfl) (by kernel_rfl) (by kernel_rfl) (fun _ _ _ h => h) (by rfl) (by assumption) ?hyo5 ?resto5
      case hyo5 => (intro w hSw; (try dsimp only at hSw); first | (go_simp; done) | (go_simp; with_reducible rfl))
      simp only [Act.put, List.setIfInBounds_toArray, List.set_cons_zero, List.set_cons_succ]
      refine take_yes (i := 6) (v := ?vo6) rfl (by kernel_rfl) (by kernel_rfl) (by kernel_rfl) (fun _ _ _ h => h) (by rfl) (by assumption) ?hyo6 ?resto6
      case hyo6 => (intro w hSw; (try dsimp only at hSw); first | (go_simp; done) | (go_simp; with_reducible rfl))
      simp only [Act.put, List.setIfInBounds_toArray, List.set_cons_zero, List.set_cons_succ]
      refine take_yes (i := 7) (v := ?vo7) rfl (by kernel_rfl) (by kernel_rfl) (by kernel_rfl) (fun _ _ _ h => h) (by rfl) (by assumption) ?hyo7 ?resto7
      case hyo7 => (intro w hSw; (try dsimp only at hSw); first | (go_simp; done) | (go_simp; with_reducible rfl))
      simp only [Act.put, List.setIfInBounds_toArray, List.set_cons_zero, List.set_cons_succ]
      refine take_yes (i := 8) (v := ?vo8) rfl (by kernel_rfl) (by kernel_rfl) (by kernel_rfl) (fun _ _ _ h => h) (by rfl) (by assumption) ?hyo8 ?resto8
      case hyo8 => (intro w hSw; (try dsimp only at hSw); first | (go_simp; done) | (go_simp; with_reducible rfl))
      simp only [Act.put, List.setIfInBounds_toArray, List.set_cons_zero, List.set_cons_succ]
      refine take_yes (i := 9) (v := ?vo9) rfl (by kernel_rfl) (by kernel_rfl) (by kernel_rfl) (fun _ _ _ h => h) (by rfl) (by assumption) ?hyo9 ?resto9
      case hyo9 => (intro w hSw; (try dsimp only at hSw); first | (go_simp; done) | (go_simp; with_reducible rfl))
      simp only [Act.put, List.setIfInBounds_toArray, List.set_cons_zero, List.set_cons_succ]
      refine take_yes (i := 10) (v := ?vo10) rfl (by kernel_rfl) (by kernel_rfl) (by kernel_rfl) (fun _ _ _ h => h) (by rfl) (by assumption) ?hyo10 ?resto10
      case hyo10 => (intro w hSw; (try dsimp only at hSw); first | (go_simp; done) | (go_simp; with_reducible rfl))
      simp only [Act.put, List.setIfInBounds_toArray, List.set_cons_zero, List.set_cons_succ]
      refine take_yes (i := 11) (v := ?vo11) rfl (by kernel_rfl) (by kernel_rfl) (by kernel_rfl) (fun _ _ _ h => h) (by rfl) (by assumption) ?hyo11 ?resto11
      case hyo11 => (intro w hSw; (try dsimp only at hSw); first | (go_simp; done) | (go_simp; with_reducible rfl))
      simp only [Act.put, List.setIfInBounds_toArray, List.set_cons_zero, List.set_cons_succ]
      refine take_yes (i := 12) (v := ?vo12) rfl (by kernel_rfl) (by kernel_rfl) (by kernel_rfl) (fun _ _ _ h => h) (by rfl) (by assumption) ?hyo12 ?resto12
      case hyo12 => (intro w hSw; (try dsimp only at hSw); first | (go_simp; done) | (go_simp; with_reducible rfl))
      simp only [Act.put, List.setIfInBounds_toArray, List.set_cons_zero, List.set_cons_succ]
      refine take_call (i := 13) rfl (by kernel_rfl) (fun K hK => ?_)
      go_simp
      refine hK.out _ _ ?_ (fun hHeld => ?_)
      · first | exact ⟨c1, hbel⟩ | exact ⟨c1, hbel.drew⟩ | exact ⟨((hHeld.2.alloc hHeld.2.size _).cell (p := ⟨ba, oa + k, none⟩) hba).trans c0, hHeld.2.alloc hHeld.2.size _⟩ | exact ⟨((hbel.alloc hbel.size _).drew.cell (p := ⟨ba, oa + k, none⟩) hba).trans c0, (hbel.alloc hbel.size _).drew⟩
      clear hK K
      refine take_call (i := 14) rfl (by kernel_rfl) (fun K hK => ?_)
      refine step_append_lies _ rfl (.tmp 12) (.tmp 25) 39 rfl w.heap.size 3 i0 (.int .i64 0) 1 8 Try.underlying39 hi0 hz0 hz1 hz2 rfl (by decide) (.slice v (2 * k) cap) (2 * k) (hf.dcells (2 * k) (u : Int)) rfl (World.ownsRow.alloc hown _) ⟨wr.heap.size, 0, none⟩ 2 2 [.int .i64 (wd.dg u k % 65536), .int .i64 (wd.dg u k / 65536)] rfl rfl (World.news_of_block (heap_alloc_new wr _)) (ints_oneCell .i64 [wd.dg u k % 65536, wd.dg u k / 65536]) (by decide) (by unfold maxLen; omega) (by omega) (by simp; omega) _ rfl ?_; intro g' cap' w4 hown4 hgrow4 hat4 hlt4
      refine hK.out _ _ ?_ (fun hHeld => ?_)
      · exact ⟨(((hHeld.2.grown hgrow4 (by simp; omega) (fun k' hk' => (World.ownsRow.lt hown k' hk').1))).cell (p := ⟨ba, oa + k, none⟩) hba).trans c0, hHeld.2.grown hgrow4 (by simp; omega) (fun k' hk' => (World.ownsRow.lt hown k' hk').1)⟩
      clear hK K
      refine take_yes (i := 15) (v := ?vo15) rfl (by kernel_rfl) (by kernel_rfl) (by kernel_rfl) (fun _ _ _ h => h) (by rfl) (by assumption) ?hyo15 ?resto15
      case hyo15 => (intro w hSw; (try dsimp only at hSw); first | (go_simp; done) | (go_simp; with_reducible rfl))
      simp only [Act.put, List.setIfInBounds_toArray, List.set_cons_zero, List.set_cons_succ]
      refine wpAnyH_done (by kernel_rfl) ?_ _
      go_wp2
      go_roundw
      case rel => exact HN.out _ w4 g' cap' hown4 ((Below.refl _ _).alloc (Nat.le_refl _) _).drew hgrow4
      case measure => simp [intOf]; omega
    · obtain rfl : k = l := by omega
      go_wp2_with (go_at_call 63; refine (rtrim_own _ _ _ u _ _ hown HU.out).mono ?_; rintro e w' ⟨rfl, hw, hown2⟩; subst hw)
      go_ret
      exact ⟨v, cap, rfl, hown2, hbel⟩
end Go.Proofs.Ytnemailhijkemaa

namespace Go.Proofs.Ytnemailhijkemaa
open Go.RowKit
set_option linter.unusedVariables false

theorem wd_half (u : Nat) (k : Nat) : wd.dg (u : Int) k = hf.dg u (2 * k) + 65536 * hf.dg u (2 * k + 1) := by
  have h := halves u k
  omega
/-- How many words digits make. -/
theorem wd_of_hf (u : Nat) : wd.nlen u = (hf.nlen u + 1) / 2 := by
  refine wd.nlen_eq ⟨?_, ?_⟩
  · rw [← pow_halves]
    exact Nat.lt_of_lt_of_le (hf.nlen_lt u) (Nat.pow_le_pow_right (by decide) (by omega))
  · rcases (hf.nlen_is u).2 with h | h
    · exact Or.inl (by rw [h])
    · rcases Nat.eq_zero_or_pos (hf.nlen u) with h0 | h0
      · exact Or.inl (by rw [h0])
      · right
        rw [← pow_halves]
        exact Nat.le_trans (Nat.pow_le_pow_right (by decide) (by omega)) h
/-- What holds at the head of each round. -/
def NatRel (w : World) (u l : Nat) (v i : Value) (wr : World) : Prop := ∃ (k cap : Nat) (a : Option Addr), 2 * k ≤ l + 1 ∧ i = .int .i64 (2 * (k : Int)) ∧ v = .slice a k cap ∧ Own wr w.heap.size 65 a k cap (wd.dcells k (u : Int)) ∧ Below w.heap.size w wr
theorem natRel_next {w wr w2 w4 : World} {u l k cap cap' g' : Nat} {a : Option Addr} {x : Int} (hx : x = wd.dg u k) (hk : 2 * k < l) (hown : Own wr w.heap.size 65 a k cap (wd.dcells k (u : Int))) (hbel : Below w.heap.size w wr)
    (h4 : w4.ownsRow w.heap.size 65 1 (.slice (some ⟨g', 0, none⟩) (k + 1) cap') (k + 1) (wd.dcells k (u : Int) ++ [.int .u32 x]))
    (h2 : Below wr.heap.size wr w2) (hgr : w2.grownBy w4 (Value.slice a k cap).ownBlock) : NatRel w u l (.slice (some ⟨g', 0, none⟩) (k + 1) cap') (.int .i64 (2 * (k : Int) + 2)) w4 := by
  have hs := hbel.size
  refine ⟨k + 1, cap', _, by omega, by simp; omega, rfl, ?_, (hbel.trans (h2.mono hs)).grown hgr (by have := h2.size; omega) (fun k' hk' => (World.ownsRow.lt hown k' hk').1)⟩
  rw [wd.dcells_succ, ← hx]
  exact h4
end Go.Proofs.Ytnemailhijkemaa

namespace Go.Proofs.Ytnemailhijkemaa
open Go.RowKit
set_option linter.unusedVariables false

end Go.Proofs.Ytnemailhijkemaa

namespace Go.Proofs.Ytnemailhijkemaa
open Go.RowKit
set_option linter.unusedVariables false

/-- Two numbers, in memory of the call's own, and no error. -/
def Both (w : World) (q r : Nat) (e : Ending) (w' : World) : Prop := ∃ aq cq ar cr, e = .returned (.tuple #[.slice aq (wd.nlen q) cq, .slice ar (wd.nlen r) cr, .int .i64 0]) ∧
  Own w' w.heap.size 65 aq (wd.nlen q) cq (wd.dcells (wd.nlen q) (q : Int)) ∧ Own w' w.heap.size 65 ar (wd.nlen r) cr (wd.dcells (wd.nlen r) (r : Int)) ∧ Below w.heap.size w w'

end Go.Proofs.Ytnemailhijkemaa

namespace Go.Proofs.Ytnemailhijkemaa.bt
open Go.RowKit

/-- Digit i of v, to the base 2 (of a number below nought: of v modulo as many digits as you like). -/
def dg (v : Int) (i : Nat) : Int := v / 2 ^ i % 2
theorem dg_range (v : Int) (i : Nat) : 0 ≤ dg v i ∧ dg v i < 2 := by unfold dg; omega
theorem p256 (i : Nat) : (0 : Int) < 2 ^ i := Int.pow_pos (by decide)
/-- n digits: at the places that p names those of u, at the others those of v. -/
def fill (n : Nat) (p : Nat → Bool) (u v : Int) : List Value := (List.range n).map fun j => .int .i64 (if p j then dg u j else dg v j)
def dcells (n : Nat) (v : Int) : List Value := (List.range n).map fun j => .int .i64 (dg v j)
def mix (n i : Nat) (u v : Int) : List Value := fill n (fun j => decide (j < i)) u v
theorem fill_length (n : Nat) (p : Nat → Bool) (u v : Int) : (fill n p u v).length = n := by simp [fill]
theorem mix_length (n i : Nat) (u v : Int) : (mix n i u v).length = n := fill_length _ _ _ _
theorem dcells_length (n : Nat) (v : Int) : (dcells n v).length = n := by simp [dcells]
theorem dcells_at (n : Nat) (v : Int) (i : Nat) (h : i < n) : (dcells n v)[i]? = some (.int .i64 (dg v i)) := by simp [dcells, h]
theorem fill_at (n : Nat) (p : Nat → Bool) (u v : Int) (i : Nat) (h : i < n) : (fill n p u v)[i]? = some (.int .i64 (if p i then dg u i else dg v i)) := by simp [fill, h]
theorem mix_at (n k : Nat) (u v : Int) (i : Nat) (h : i < n) (hk : k ≤ i) : (mix n k u v)[i]? = some (.int .i64 (dg v i)) := by
  rw [mix, fill_at _ _ _ _ _ h]; simp; omega
theorem fill_congr {n : Nat} {p q : Nat → Bool} {u v u' v' : Int} (h : ∀ j, j < n → (if p j then dg u j else dg v j) = (if q j then dg u' j else dg v' j)) : fill n p u v = fill n q u' v' := by
  unfold fill
  refine List.map_congr_left fun j hj => ?_
  rw [h j (by simpa using hj)]
theorem fill_set (n : Nat) (p : Nat → Bool) (u v : Int) (i : Nat) : (fill n p u v).set i (.int .i64 (dg u i)) = fill n (fun j => p j || j == i) u v := by
  refine List.ext_getElem? fun j => ?_
  rw [List.getElem?_set]
  by_cases e : i = j
  · subst e
    by_cases h : i < n
    · rw [if_pos rfl, if_pos (by rw [fill_length]; exact h), fill_at _ _ _ _ _ h]; simp
    · rw [if_pos rfl, if_neg (by rw [fill_length]; exact h), List.getElem?_eq_none (by rw [fill_length]; omega)]
  · by_cases h : j < n
    · rw [if_neg e, fill_at _ _ _ _ _ h, fill_at _ _ _ _ _ h]
      have e' : (j == i) = false := by simp; omega
      simp [e']
    · rw [if_neg e, List.getElem?_eq_none (by simp [fill_length]; omega), List.getElem?_eq_none (by simp [fill_length]; omega)]
theorem mix_set (n i : Nat) (u v : Int) : (mix n i u v).set i (.int .i64 (dg u i)) = mix n (i + 1) u v := by
  unfold mix
  rw [fill_set]
  refine fill_congr fun j _ => ?_
  have : (decide (j < i) || j == i) = decide (j < i + 1) := by rw [Bool.eq_iff_iff]; simp; omega
  rw [this]
theorem mix_zero (n : Nat) (u v : Int) : mix n 0 u v = dcells n v := by unfold mix fill dcells; simp
theorem mix_full (n : Nat) (u v : Int) : mix n n u v = dcells n u := by
  unfold mix fill dcells
  refine List.map_congr_left fun j hj => ?_
  have : j < n := by simpa using hj
  simp [this]
/-- The digits of two numbers that are the same modulo 2^i are the same below place i. -/
theorem dg_congr {u v : Int} {i j : Nat} (t : Int) (h : u = v + t * 2 ^ i) (hj : j < i) : dg u j = dg v j := by
  unfold dg
  obtain ⟨d, rfl⟩ : ∃ d, i = j + 1 + d := ⟨i - (j + 1), by omega⟩
  have e : t * (2 : Int) ^ (j + 1 + d) = (2 * (t * 2 ^ d)) * 2 ^ j := by
    rw [show j + 1 + d = d + 1 + j by omega, Int.pow_add, Int.pow_succ, ← Int.mul_assoc, ← Int.mul_assoc, Int.mul_comm (t * 2 ^ d) 2]
  rw [h, e, Int.add_mul_ediv_right _ _ (Int.ne_of_gt (p256 j))]
  omega
theorem dcells_congr {n : Nat} {u v : Int} (t : Int) (h : u = v + t * 2 ^ n) : dcells n u = dcells n v := by
  unfold dcells
  refine List.map_congr_left fun j hj => ?_
  rw [dg_congr t h (by simpa using hj)]
/-- The carry into place i when x and y are added. -/
def carry (x y : Int) (i : Nat) : Int := (x % 2 ^ i + y % 2 ^ i) / 2 ^ i
theorem carry_zero (x y : Int) : carry x y 0 = 0 := by simp [carry]
theorem emod_succ (x : Int) (i : Nat) : x % 2 ^ (i + 1) = dg x i * 2 ^ i + x % 2 ^ i := by
  unfold dg
  have hp := p256 i
  have h1 := Int.mul_ediv_add_emod x (2 ^ i)
  have h2 := Int.mul_ediv_add_emod (x / 2 ^ i) 2
  have b := Int.emod_nonneg x (Int.ne_of_gt hp)
  have b' := Int.emod_lt_of_pos x hp
  have c := Int.emod_nonneg (x / 2 ^ i) (show (2 : Int) ≠ 0 by decide)
  have c' := Int.emod_lt_of_pos (x / 2 ^ i) (show (0 : Int) < 2 by decide)
  have e : x = (x / 2 ^ i % 2 * 2 ^ i + x % 2 ^ i) + (x / 2 ^ i / 2) * 2 ^ (i + 1) := by
    have : (x / 2 ^ i / 2) * (2 : Int) ^ (i + 1) = (2 * (x / 2 ^ i / 2)) * 2 ^ i := by rw [Int.pow_succ, Int.mul_comm ((2 : Int) ^ i) 2, ← Int.mul_assoc, Int.mul_comm _ 2]
    rw [this]
    have h3 : (2 * (x / 2 ^ i / 2)) * (2 : Int) ^ i + x / 2 ^ i % 2 * 2 ^ i = x / 2 ^ i * 2 ^ i := by rw [← Int.add_mul, h2]
    have h4 : x / 2 ^ i * (2 : Int) ^ i = 2 ^ i * (x / 2 ^ i) := Int.mul_comm _ _
    omega
  have l0 : 0 ≤ x / 2 ^ i % 2 * 2 ^ i + x % 2 ^ i := Int.add_nonneg (Int.mul_nonneg c (Int.le_of_lt hp)) b
  have l1 : x / 2 ^ i % 2 * 2 ^ i + x % 2 ^ i < 2 ^ (i + 1) := by
    have : x / 2 ^ i % 2 * (2 : Int) ^ i ≤ 1 * 2 ^ i := Int.mul_le_mul_of_nonneg_right (by omega) (Int.le_of_lt hp)
    rw [Int.pow_succ]
    omega
  have key : x % 2 ^ (i + 1) = (x / 2 ^ i % 2 * 2 ^ i + x % 2 ^ i) % 2 ^ (i + 1) := by
    have := congrArg (· % (2 : Int) ^ (i + 1)) e
    simpa [Int.add_mul_emod_self_right] using this
  rw [key, Int.emod_eq_of_lt l0 l1]
theorem carry_sum (x y : Int) (i : Nat) : (x % 2 ^ (i + 1) + y % 2 ^ (i + 1)) / 2 ^ i = carry x y i + dg x i + dg y i := by
  rw [emod_succ, emod_succ]
  unfold carry
  have e : dg x i * 2 ^ i + x % 2 ^ i + (dg y i * 2 ^ i + y % 2 ^ i) = (x % 2 ^ i + y % 2 ^ i) + (dg x i + dg y i) * 2 ^ i := by rw [Int.add_mul]; omega
  rw [e, Int.add_mul_ediv_right _ _ (Int.ne_of_gt (p256 i))]
  omega
theorem carry_succ (x y : Int) (i : Nat) : carry x y (i + 1) = (carry x y i + dg x i + dg y i) / 2 := by
  rw [← carry_sum]
  show (x % 2 ^ (i + 1) + y % 2 ^ (i + 1)) / 2 ^ (i + 1) = _
  have hp := p256 i
  rw [Int.pow_succ, Int.ediv_ediv, if_neg (by omega)]
  omega
theorem add_digit (x y : Int) (i : Nat) : (carry x y i + dg x i + dg y i) % 2 = dg (x + y) i := by
  unfold dg carry
  have hp := p256 i
  have h1 := Int.mul_ediv_add_emod x (2 ^ i)
  have h2 := Int.mul_ediv_add_emod y (2 ^ i)
  have e : x + y = (x % 2 ^ i + y % 2 ^ i) + (x / 2 ^ i + y / 2 ^ i) * 2 ^ i := by
    have a1 : x / 2 ^ i * (2 : Int) ^ i = 2 ^ i * (x / 2 ^ i) := Int.mul_comm _ _
    have a2 : y / 2 ^ i * (2 : Int) ^ i = 2 ^ i * (y / 2 ^ i) := Int.mul_comm _ _
    rw [Int.add_mul]; omega
  have e2 : (x + y) / 2 ^ i = (x % 2 ^ i + y % 2 ^ i) / 2 ^ i + (x / 2 ^ i + y / 2 ^ i) := by
    conv => lhs; rw [e]
    exact Int.add_mul_ediv_right _ _ (Int.ne_of_gt hp)
  rw [e2]
  omega
theorem carry_range (x y : Int) (i : Nat) : 0 ≤ carry x y i ∧ carry x y i ≤ 1 := by
  unfold carry
  have hp := p256 i
  have a := Int.emod_nonneg x (Int.ne_of_gt hp)
  have a' := Int.emod_lt_of_pos x hp
  have b := Int.emod_nonneg y (Int.ne_of_gt hp)
  have b' := Int.emod_lt_of_pos y hp
  refine ⟨Int.ediv_nonneg (by omega) (by omega), ?_⟩
  have : (x % 2 ^ i + y % 2 ^ i) / 2 ^ i < 2 := Int.ediv_lt_of_lt_mul hp (by omega)
  omega
theorem neg_digit (x : Int) (i : Nat) : 1 - dg x i = dg (-1 - x) i := by
  unfold dg
  have hp := p256 i
  have h1 := Int.mul_ediv_add_emod x (2 ^ i)
  have a := Int.emod_nonneg x (Int.ne_of_gt hp)
  have a' := Int.emod_lt_of_pos x hp
  have e : -1 - x = (2 ^ i - 1 - x % 2 ^ i) + (-1 - x / 2 ^ i) * 2 ^ i := by
    have a1 : x / 2 ^ i * (2 : Int) ^ i = 2 ^ i * (x / 2 ^ i) := Int.mul_comm _ _
    rw [Int.sub_mul]; omega
  have e2 : (-1 - x) / 2 ^ i = -1 - x / 2 ^ i := by
    conv => lhs; rw [e]
    rw [Int.add_mul_ediv_right _ _ (Int.ne_of_gt hp), Int.ediv_eq_zero_of_lt (by omega) (by omega)]
    omega
  rw [e2]
  omega
end Go.Proofs.Ytnemailhijkemaa.bt

namespace Go.Proofs.Ytnemailhijkemaa.bt
open Go.RowKit
set_option linter.unusedVariables false

/-- v needs n digits: none for nought. -/
def IsLen (v n : Nat) : Prop := v < 2 ^ n ∧ (n = 0 ∨ 2 ^ (n - 1) ≤ v)
theorem isLen_one {v n m : Nat} (h : IsLen v n) (h' : IsLen v m) : n = m := by
  obtain ⟨a, b⟩ := h
  obtain ⟨a', b'⟩ := h'
  rcases Nat.lt_trichotomy n m with e | e | e
  · rcases b' with b' | b'
    · omega
    · have := Nat.pow_le_pow_right (n := 2) (by decide) (show n ≤ m - 1 by omega)
      omega
  · exact e
  · rcases b with b | b
    · omega
    · have := Nat.pow_le_pow_right (n := 2) (by decide) (show m ≤ n - 1 by omega)
      omega
/-- A number below 2^n has a length of n at most, and is found by cutting noughts off the end. -/
theorem isLen_cut : ∀ (n v : Nat), v < 2 ^ n → ∃ m, m ≤ n ∧ IsLen v m
  | 0, v, h => ⟨0, Nat.le_refl _, h, Or.inl rfl⟩
  | n + 1, v, h => by
    by_cases c : v < 2 ^ n
    · obtain ⟨m, h1, h2⟩ := isLen_cut n v c
      exact ⟨m, by omega, h2⟩
    · exact ⟨n + 1, Nat.le_refl _, h, Or.inr (by simp; omega)⟩
theorem lt_pow_self (v : Nat) : v < 2 ^ v := Nat.lt_pow_self (by decide)
theorem isLen_ex (v : Nat) : ∃ m, IsLen v m := by
  obtain ⟨m, _, h⟩ := isLen_cut v v (lt_pow_self v)
  exact ⟨m, h⟩
/-- How many digits v needs. -/
def nlen (v : Nat) : Nat := if h : v = 0 then 0 else nlen (v / 2) + 1
  termination_by v
  decreasing_by exact Nat.div_lt_self (Nat.pos_of_ne_zero h) (by decide)
theorem nlen_is (v : Nat) : IsLen v (nlen v) := by
  induction v using Nat.strongRecOn with
  | ind v ih =>
    unfold nlen
    split
    · rename_i h
      rw [h]
      exact ⟨by decide, Or.inl rfl⟩
    · rename_i h
      obtain ⟨h1, h2⟩ := ih (v / 2) (Nat.div_lt_self (Nat.pos_of_ne_zero h) (by decide))
      refine ⟨?_, Or.inr ?_⟩
      · rw [Nat.pow_succ]
        exact (Nat.div_lt_iff_lt_mul (by decide)).1 h1
      · rw [Nat.add_sub_cancel]
        rcases h2 with h2 | h2
        · rw [h2]
          exact Nat.pos_of_ne_zero h
        · rcases Nat.eq_zero_or_pos (nlen (v / 2)) with h3 | h3
          · rw [h3]
            exact Nat.pos_of_ne_zero h
          · have h4 := (Nat.le_div_iff_mul_le (by decide)).1 h2
            rw [← Nat.pow_succ] at h4
            rwa [show (nlen (v / 2) - 1).succ = nlen (v / 2) by omega] at h4
theorem nlen_eq {v n : Nat} (h : IsLen v n) : nlen v = n := isLen_one (nlen_is v) h
theorem nlen_le {v n : Nat} (h : v < 2 ^ n) : nlen v ≤ n := by
  obtain ⟨m, h1, h2⟩ := isLen_cut n v h
  rw [nlen_eq h2]; exact h1
theorem nlen_zero : nlen 0 = 0 := nlen_eq ⟨by decide, Or.inl rfl⟩
theorem nlen_lt (v : Nat) : v < 2 ^ nlen v := (nlen_is v).1
theorem nlen_pos {v : Nat} (h : 0 < v) : 0 < nlen v := by
  rcases Nat.lt_or_ge 0 (nlen v) with l | l
  · exact l
  · have := nlen_lt v
    rw [show nlen v = 0 by omega] at this
    simp at this
    omega
/-- The longer number is the greater. -/
theorem lt_of_nlen {u v : Nat} (h : nlen u < nlen v) : u < v := by
  obtain ⟨_, b⟩ := nlen_is v
  rcases b with b | b
  · omega
  · have := nlen_lt u
    have := Nat.pow_le_pow_right (n := 2) (by decide) (show nlen u ≤ nlen v - 1 by omega)
    omega
theorem pow_cast (k : Nat) : ((2 ^ k : Nat) : Int) = (2 : Int) ^ k := by rw [Int.natCast_pow]; rfl
theorem dg_nat (v k : Nat) : dg (v : Int) k = ((v / 2 ^ k % 2 : Nat) : Int) := by
  unfold dg
  rw [← pow_cast]
  omega
/-- The digit at a place that a number does not reach is nought; the highest one that it has is not. -/
theorem dg_over {v k : Nat} (h : v < 2 ^ k) : dg (v : Int) k = 0 := by rw [dg_nat, Nat.div_eq_of_lt h]; rfl
theorem dg_top {v n : Nat} (h : IsLen v (n + 1)) : dg (v : Int) n ≠ 0 := by
  obtain ⟨a, b⟩ := h
  have b : 2 ^ n ≤ v := by
    rcases b with b | b
    · omega
    · exact b
  rw [dg_nat]
  have h1 : 1 ≤ v / 2 ^ n := (Nat.one_le_div_iff (Nat.pow_pos (by decide))).2 b
  have h2 : v / 2 ^ n < 2 := by
    rw [Nat.pow_succ] at a
    exact Nat.div_lt_of_lt_mul a
  rw [Nat.mod_eq_of_lt h2]
  omega
/-- One nought at the end cut off. -/
theorem lt_of_dg_zero {v n : Nat} (h : v < 2 ^ (n + 1)) (z : dg (v : Int) n = 0) : v < 2 ^ n := by
  rcases Nat.lt_or_ge v (2 ^ n) with l | l
  · exact l
  · exact absurd z (dg_top ⟨h, Or.inr (by simpa using l)⟩)
/-- Two numbers of n digits with the same digits are the same. -/
theorem eq_of_dcells : ∀ (n : Nat) (u v : Nat), u < 2 ^ n → v < 2 ^ n → (∀ j, j < n → dg (u : Int) j = dg (v : Int) j) → u = v := by
  intro n
  induction n with
  | zero => intro u v hu hv _; simp at hu hv; omega
  | succ n ih =>
    intro u v hu hv h
    have e := ih (u % 2 ^ n) (v % 2 ^ n) (Nat.mod_lt _ (Nat.pow_pos (by decide))) (Nat.mod_lt _ (Nat.pow_pos (by decide))) (fun j hj => by
      have a : ∀ x : Nat, dg ((x % 2 ^ n : Nat) : Int) j = dg (x : Int) j := fun x => by
        refine dg_congr (i := n) (-((x / 2 ^ n : Nat) : Int)) ?_ hj
        have := Nat.mod_add_div x (2 ^ n)
        rw [← pow_cast, Int.neg_mul, ← Int.natCast_mul, Nat.mul_comm (x / 2 ^ n)]
        omega
      rw [a, a]
      exact h j (by omega))
    have t := h n (by omega)
    rw [dg_nat, dg_nat] at t
    have du : u / 2 ^ n < 2 := by rw [Nat.pow_succ] at hu; exact Nat.div_lt_of_lt_mul hu
    have dv : v / 2 ^ n < 2 := by rw [Nat.pow_succ] at hv; exact Nat.div_lt_of_lt_mul hv
    rw [Nat.mod_eq_of_lt du, Nat.mod_eq_of_lt dv] at t
    have t' : u / 2 ^ n = v / 2 ^ n := by omega
    have h1 := Nat.mod_add_div u (2 ^ n)
    have h2 := Nat.mod_add_div v (2 ^ n)
    rw [e, t'] at h1
    omega
end Go.Proofs.Ytnemailhijkemaa.bt

namespace Go.Proofs.Ytnemailhijkemaa
open Go.RowKit Go.Shelf
set_option linter.unusedVariables false

theorem bitLen_bt (x : Nat) (h : x < 2 ^ 64) : Lib.bitLen x = bt.nlen x := by
  rcases Nat.eq_zero_or_pos x with rfl | h0
  · rw [bt.nlen_zero]; decide
  · obtain ⟨h1, h2, h3⟩ := Lib.bitLenAux_bounds 64 x h (by omega)
    exact (bt.nlen_eq ⟨h3, Or.inr h2⟩).symm
theorem pow32 (k : Nat) : 4294967296 ^ k = 2 ^ (32 * k) := by rw [Nat.pow_mul]
/-- The bits of a number: those of its highest word, and 32 for each below it. -/
theorem bits_top {u m t : Nat} (hm : wd.nlen u = m + 1) (ht : (t : Int) = wd.dg (u : Int) m) : bt.nlen u = m * 32 + bt.nlen t := by
  have hi := wd.nlen_is u
  rw [hm] at hi
  have htop := wd.dg_top hi
  rw [wd.dg_nat] at ht htop
  have hq : u / 4294967296 ^ m < 4294967296 := by
    have := hi.1
    rw [Nat.pow_succ] at this
    exact Nat.div_lt_of_lt_mul this
  have ht' : t = u / 4294967296 ^ m := by rw [Nat.mod_eq_of_lt hq] at ht; omega
  have ht0 : t ≠ 0 := by
    rw [Nat.mod_eq_of_lt hq] at htop
    omega
  have hb := bt.nlen_is t
  have hb1 := bt.nlen_pos (show 0 < t by omega)
  have hp := wd.pow_nat m
  have hd := Nat.div_add_mod u (4294967296 ^ m)
  have hl := Nat.mod_lt u hp
  rw [← ht'] at hd
  have e : 4294967296 ^ m = 2 ^ (m * 32) := by rw [pow32, Nat.mul_comm]
  refine bt.nlen_eq ⟨?_, Or.inr ?_⟩
  · rw [Nat.pow_add, ← e]
    have : 4294967296 ^ m * (t + 1) ≤ 4294967296 ^ m * 2 ^ bt.nlen t := Nat.mul_le_mul_left _ hb.1
    rw [Nat.mul_add] at this
    omega
  · have h2 : 2 ^ (bt.nlen t - 1) ≤ t := hb.2.resolve_left (by omega)
    rw [show m * 32 + bt.nlen t - 1 = m * 32 + (bt.nlen t - 1) by omega, Nat.pow_add, ← e]
    have := Nat.mul_le_mul_left (4294967296 ^ m) h2
    omega

/-- What holds at the head of each round of the halving's loop. -/
def HalfRel (w : World) (u l b : Nat) (c i : Value) (wr : World) : Prop := ∃ r : Nat, r ≤ l ∧ i = .int .i64 ((r : Int) - 1) ∧ c = .int .i64 ((u : Int) / 65536 ^ r % 2) ∧ Own wr w.heap.size 3 (some ⟨b, 0, none⟩) l l (hf.xim l r ((u : Int) / 2) 0) ∧ Below w.heap.size w wr
theorem half_next (w wr : World) (u l b q : Nat) (hq : q < l) (hown : Own wr w.heap.size 3 (some ⟨b, 0, none⟩) l l (hf.xim l (q + 1) ((u : Int) / 2) 0)) (hb : Below w.heap.size w wr) :
    HalfRel w u l b (.int .i64 (((u : Int) / 65536 ^ (q + 1) % 2 * 65536 + hf.dg u q) % 2)) (.int .i64 ((q : Int) - 1)) (wr.setCell ⟨b, q, none⟩ (.int .i64 (((u : Int) / 65536 ^ (q + 1) % 2 * 65536 + hf.dg u q) / 2))) := by
  refine ⟨q, by omega, rfl, by rw [(hf.long_div u 2 q (by decide)).2], ?_, hb.setCell (seg_of_own hown).2.2 _⟩
  rw [hf.quot_digit _ _ _ (by decide), ← hf.xim_set]
  exact Own.set hown _ hq
/-- What holds at the head of each round of the bits' count. -/
def BitRel (w : World) (u : Nat) (av nv : Value) (wr : World) : Prop := ∃ (t U cap : Nat) (a : Option Addr), t ≤ bt.nlen u ∧ (t = 0 ∨ 2 ^ (t - 1) ≤ u) ∧ Hid (U = u / 2 ^ t) ∧ nv = .int .i64 (t : Int) ∧ av = .slice a (hf.nlen U) cap ∧ hf.nlen U ≤ 1000000000 ∧ Sl wr a (hf.nlen U) cap (hf.dcells (hf.nlen U) (U : Int)) ∧ Below w.heap.size w wr
theorem hf_mono {u v : Nat} (h : u ≤ v) : hf.nlen u ≤ hf.nlen v := hf.nlen_le (Nat.lt_of_le_of_lt h (hf.nlen_lt v))
end Go.Proofs.Ytnemailhijkemaa

namespace Go.Proofs.Ytnemailhijkemaa
open Go.RowKit
set_option linter.unusedVariables false

theorem join_low (c d s : Nat) (hs : s < 32) (hc : c < 2 ^ s) (hd : d < 4294967296) : bits BinOp.or IntKind.u64 (c : Int) ((d : Int) * 2 ^ s) = (c : Int) + (d : Int) * 2 ^ s := by
  have h1 : 2 ^ s ≤ 2 ^ 31 := Nat.pow_le_pow_right (by decide) (by omega)
  have h2 : d * 2 ^ s ≤ 4294967295 * 2 ^ 31 := Nat.mul_le_mul (by omega) h1
  have e : (d : Int) * 2 ^ s = ((d * 2 ^ s : Nat) : Int) := by rw [Int.natCast_mul, Int.natCast_pow]; rfl
  rw [e, u64_or_nat _ _ (by omega) (by omega), Nat.or_comm, nat_join s (d * 2 ^ s) c (Nat.mul_mod_left _ _) hc]
  omega

/-- What holds at the head of each round of shiftUp. -/
def UpRel (w : World) (u x : Int) (l b : Nat) (c i : Value) (wr : World) : Prop := ∃ k : Nat, k ≤ l ∧ i = .int .i64 (k : Int) ∧ c = .int .u64 (sc x u k) ∧ Own wr w.heap.size 65 (some ⟨b, 0, none⟩) (l + 1) (l + 1) (wd.mix (l + 1) k (x * u) 0) ∧ Below w.heap.size w wr
theorem up_next (w wr : World) (u x : Int) (l k : Nat) (hk : k < l) (hown : Own wr w.heap.size 65 (some ⟨w.heap.size, 0, none⟩) (l + 1) (l + 1) (wd.mix (l + 1) k (x * u) 0)) (hb : Below w.heap.size w wr) {z : Int} (hz : z = sc x u k + x * wd.dg u k) :
    UpRel w u x l w.heap.size (.int .u64 (z / 4294967296)) (.int .i64 ((k : Int) + 1)) (wr.setCell ⟨w.heap.size, k, none⟩ (.int .u32 (z % 4294967296))) := by
  subst hz
  refine ⟨k + 1, by omega, by simp, by rw [sc_succ], ?_, hb.setCell (Nat.le_refl _) _⟩
  rw [sc_digit, ← wd.mix_set]
  exact Own.set hown _ (by omega)

end Go.Proofs.Ytnemailhijkemaa

namespace Go.Proofs.Ytnemailhijkemaa
open Go.RowKit
set_option linter.unusedVariables false

theorem guess_ok {N D P D2 R3 g : Nat} (hP : 0 < P) (h2 : D2 = D / P) (h3 : R3 = N / P) (hg : g < 4294967296) (hle : g * D2 ≤ R3) (hgt : 4294967296 ≤ g + 1 ∨ R3 < (g + 1) * D2) (hD2 : 4294967296 ≤ D2) (hN : N < D * 4294967296) : N / D ≤ g ∧ g ≤ N / D + 1 := by
  have hD : 0 < D := by
    rcases Nat.eq_zero_or_pos D with e | e
    · rw [e] at hN; omega
    · exact e
  have hq : N / D < 4294967296 := Nat.div_lt_of_lt_mul hN
  have hq1 : N / D * D2 ≤ R3 := by
    rw [h3, Nat.le_div_iff_mul_le hP, Nat.mul_assoc]
    refine Nat.le_trans (Nat.mul_le_mul_left _ ?_) (Nat.div_mul_le_self N D)
    rw [h2]
    exact Nat.div_mul_le_self D P
  constructor
  · refine Nat.le_of_not_lt fun h => ?_
    rcases hgt with h4 | h4
    · exact absurd (Nat.lt_of_le_of_lt h4 (Nat.lt_of_le_of_lt h hq)) (Nat.lt_irrefl _)
    · have : (g + 1) * D2 ≤ N / D * D2 := Nat.mul_le_mul_right _ h
      exact absurd (Nat.lt_of_lt_of_le h4 (Nat.le_trans this hq1)) (Nat.lt_irrefl _)
  · rcases Nat.eq_zero_or_pos g with e | e
    · rw [e]; exact Nat.zero_le _
    · obtain ⟨k, rfl⟩ : ∃ k, g = k + 1 := ⟨g - 1, by omega⟩
      refine Nat.succ_le_succ ((Nat.le_div_iff_mul_le hD).2 ?_)
      have hD3 : D < (D2 + 1) * P := by rw [h2]; have := Nat.lt_div_mul_add (a := D) hP; rw [Nat.succ_mul]; exact this
      have h5 : k * D ≤ k * ((D2 + 1) * P) := Nat.mul_le_mul_left _ (Nat.le_of_lt hD3)
      have h6 : k * ((D2 + 1) * P) ≤ (k + 1) * D2 * P := by
        rw [← Nat.mul_assoc]
        refine Nat.mul_le_mul_right _ ?_
        rw [Nat.mul_add, Nat.add_mul]
        omega
      have h7 : (k + 1) * D2 * P ≤ R3 * P := Nat.mul_le_mul_right _ hle
      have h8 : R3 * P ≤ N := by rw [h3]; exact Nat.div_mul_le_self N P
      omega
theorem two_words (D p : Nat) (h : D < 4294967296 ^ (p + 2)) (d1 d2 : Nat) (h1 : wd.dg (D : Int) (p + 1) = d1) (h2 : wd.dg (D : Int) p = d2) : d1 * 4294967296 + d2 = D / 4294967296 ^ p := by
  have e1 : ((D / 4294967296 ^ p : Nat) : Int) = (D : Int) / 4294967296 ^ p := by rw [Int.natCast_ediv, wd.pow_cast]
  have e2 : (D : Int) / 4294967296 ^ (p + 1) = ((D / 4294967296 ^ p : Nat) : Int) / 4294967296 := by
    rw [e1, Int.pow_succ, ← Int.ediv_ediv_of_nonneg (Int.le_of_lt (wd.p256 p))]
  have hl : D / 4294967296 ^ p < 18446744073709551616 := Nat.div_lt_of_lt_mul (by rw [Nat.pow_add] at h; simpa using h)
  unfold wd.dg at h1 h2
  rw [e2] at h1
  rw [← e1] at h2
  clear e1 e2 h
  generalize D / 4294967296 ^ p = X at *
  omega
theorem three_words (N p : Nat) (h : N < 4294967296 ^ (p + 3)) (r2 r1 r0 : Nat) (h2 : wd.dg (N : Int) (p + 2) = r2) (h1 : wd.dg (N : Int) (p + 1) = r1) (h0 : wd.dg (N : Int) p = r0) : (r2 * 4294967296 + r1) * 4294967296 + r0 = N / 4294967296 ^ p := by
  have e1 : ((N / 4294967296 ^ p : Nat) : Int) = (N : Int) / 4294967296 ^ p := by rw [Int.natCast_ediv, wd.pow_cast]
  have e2 : (N : Int) / 4294967296 ^ (p + 1) = ((N / 4294967296 ^ p : Nat) : Int) / 4294967296 := by
    rw [e1, Int.pow_succ, ← Int.ediv_ediv_of_nonneg (Int.le_of_lt (wd.p256 p))]
  have e3 : (N : Int) / 4294967296 ^ (p + 2) = ((N / 4294967296 ^ p : Nat) : Int) / 4294967296 / 4294967296 := by
    rw [← e2, show (4294967296 : Int) ^ (p + 2) = 4294967296 ^ (p + 1) * 4294967296 from Int.pow_succ _ _, ← Int.ediv_ediv_of_nonneg (Int.le_of_lt (wd.p256 (p + 1)))]
  have hl : N / 4294967296 ^ p < 79228162514264337593543950336 := Nat.div_lt_of_lt_mul (by rw [Nat.pow_add] at h; simpa using h)
  unfold wd.dg at h0 h1 h2
  rw [e2] at h1
  rw [e3] at h2
  rw [← e1] at h0
  clear e1 e2 e3 h
  generalize N / 4294967296 ^ p = X at *
  omega

/-- What holds at the head of each round: the guess, and what is left. -/
def GRel (H d1 D2 R3 : Nat) (t l : Value) : Prop := ∃ T L : Nat, t = .int .u64 (T : Int) ∧ l = .int .u64 (L : Int) ∧ Hid (T * d1 + L = H) ∧ L < 4294967296 ∧ T < 18446744073709551616 ∧ Hid (4294967296 ≤ T + 1 ∨ R3 < (T + 1) * D2)
theorem g_start {H d1 d2 D2 R3 r0 T L : Nat} (hD2 : d1 * 4294967296 + d2 = D2) (hR3 : H * 4294967296 + r0 = R3) (hr0 : r0 < 4294967296) (hd : 0 < d1) (hd' : d1 < 4294967296) (hH : H < 18446744073709551616) (hT : T = H / d1) (hL : L = H % d1) : GRel H d1 D2 R3 (.int .u64 (T : Int)) (.int .u64 (L : Int)) := by
  have e : T * d1 + L = H := by rw [hT, hL, Nat.mul_comm]; exact Nat.div_add_mod H d1
  have hl : L < d1 := by rw [hL]; exact Nat.mod_lt _ hd
  refine ⟨T, L, rfl, rfl, e, by omega, ?_, Or.inr ?_⟩
  · rw [hT]; exact Nat.lt_of_le_of_lt (Nat.div_le_self _ _) hH
  · rw [← hD2, Nat.add_mul, Nat.mul_add, ← Nat.mul_assoc]
    have : 0 ≤ T * d2 := Nat.zero_le _
    omega
theorem g_less {d1 d2 D2 H R3 T : Nat} (h : R3 < T * D2) : 1 ≤ T := by
  rcases Nat.eq_zero_or_pos T with e | e
  · rw [e] at h; omega
  · exact e
theorem g_over {H d1 d2 D2 R3 r0 T L : Nat} (hD2 : d1 * 4294967296 + d2 = D2) (hR3 : H * 4294967296 + r0 = R3) (h : T * d1 + L = H) (ho : L * 4294967296 + r0 < T * d2) : R3 < T * D2 := by
  rw [← hD2, Nat.mul_add, ← Nat.mul_assoc]
  omega
theorem g_under {H d1 d2 D2 R3 r0 T L : Nat} (hD2 : d1 * 4294967296 + d2 = D2) (hR3 : H * 4294967296 + r0 = R3) (h : T * d1 + L = H) (ho : T * d2 ≤ L * 4294967296 + r0) : T * D2 ≤ R3 := by
  rw [← hD2, Nat.mul_add, ← Nat.mul_assoc]
  omega

theorem g_next {H d1 D2 R3 T L : Nat} (h : T * d1 + L = H) (hT : T < 18446744073709551616) (h1 : 1 ≤ T) (hL : L + d1 < 4294967296) (ho : 4294967296 ≤ T ∨ R3 < T * D2) : GRel H d1 D2 R3 (.int .u64 ((T : Int) - 1)) (.int .u64 ((L : Int) + d1)) := by
  obtain ⟨k, rfl⟩ : ∃ k, T = k + 1 := ⟨T - 1, by omega⟩
  refine ⟨k, L + d1, by simp, by simp, ?_, hL, by omega, ho⟩
  unfold Hid
  rw [Nat.add_mul] at h
  omega
theorem g_break {H d1 d2 D2 R3 r0 k L : Nat} (hD2 : d1 * 4294967296 + d2 = D2) (hR3 : H * 4294967296 + r0 = R3) (h : (k + 1) * d1 + L = H) (hL : 4294967296 ≤ L + d1) (hd : 0 < d1) (hd2 : d2 < 4294967296) (hH : H < (d1 + 1) * 4294967296) : k < 4294967296 ∧ k * D2 ≤ R3 := by
  rw [Nat.add_mul] at h hH
  have hk : k < 4294967296 := by
    have : k * d1 < 4294967296 * d1 := by omega
    exact Nat.lt_of_mul_lt_mul_right this
  refine ⟨hk, g_under hD2 hR3 (L := L + d1) (by omega) ?_⟩
  have : k * d2 ≤ 4294967295 * 4294967295 := Nat.mul_le_mul (by omega) (by omega)
  omega
theorem g_head {N D P D2 R3 H d1 d2 r0 : Nat} (hP : 0 < P) (h2 : D2 = D / P) (h3 : R3 = N / P) (hN : N < D * 4294967296) (hD2 : d1 * 4294967296 + d2 = D2) (hd2 : d2 < 4294967296) (hR3 : H * 4294967296 + r0 = R3) : H < (d1 + 1) * 4294967296 := by
  have hD3 : D < (D2 + 1) * P := by rw [h2]; have := Nat.lt_div_mul_add (a := D) hP; rw [Nat.succ_mul]; exact this
  have h8 : R3 * P ≤ N := by rw [h3]; exact Nat.div_mul_le_self N P
  have h9 : D * 4294967296 < (D2 + 1) * 4294967296 * P := by rw [Nat.mul_right_comm]; omega
  have h10 : R3 * P < (D2 + 1) * 4294967296 * P := by omega
  have h11 : R3 < (D2 + 1) * 4294967296 := Nat.lt_of_mul_lt_mul_right h10
  omega

end Go.Proofs.Ytnemailhijkemaa

namespace Go.Proofs.Ytnemailhijkemaa
open Go.RowKit
set_option linter.unusedVariables false

theorem num_dg (k j : Nat) (u v : Int) (h : k ≤ j) : wd.dg (u % 4294967296 ^ k + v / 4294967296 ^ k * 4294967296 ^ k) j = wd.dg v j := by
  have hp := wd.p256 k
  have e : (u % 4294967296 ^ k + v / 4294967296 ^ k * 4294967296 ^ k) / 4294967296 ^ k = v / 4294967296 ^ k := by
    rw [Int.add_mul_ediv_right _ _ (Int.ne_of_gt hp), Int.ediv_eq_zero_of_lt (Int.emod_nonneg _ (Int.ne_of_gt hp)) (Int.emod_lt_of_pos _ hp), Int.zero_add]
  have e2 : ∀ x : Int, x / 4294967296 ^ j = x / 4294967296 ^ k / 4294967296 ^ (j - k) := fun x => by
    rw [Int.ediv_ediv_of_nonneg (Int.le_of_lt hp), ← Int.pow_add, show k + (j - k) = j by omega]
  unfold wd.dg
  rw [e2 (u % 4294967296 ^ k + v / 4294967296 ^ k * 4294967296 ^ k), e, ← e2]
/-- The digits of u up to k, then those of v, are a number's. -/
theorem mix_num (n k : Nat) (u v : Int) : wd.mix n k u v = wd.dcells n (u % 4294967296 ^ k + v / 4294967296 ^ k * 4294967296 ^ k) := by
  have hp := wd.p256 k
  refine List.ext_getElem? fun j => ?_
  by_cases hj : j < n
  · unfold wd.mix
    rw [wd.fill_at _ _ _ _ _ hj, wd.dcells_at _ _ _ hj]
    by_cases hk : j < k
    · rw [if_pos (by simpa using hk), wd.dg_congr (u := u % 4294967296 ^ k + v / 4294967296 ^ k * 4294967296 ^ k) (v := u) (v / 4294967296 ^ k - u / 4294967296 ^ k) ?_ hk]
      have := Int.mul_ediv_add_emod u (4294967296 ^ k)
      rw [Int.sub_mul, Int.mul_comm (u / 4294967296 ^ k)]
      omega
    · rw [if_neg (by simpa using hk), num_dg _ _ _ _ (by omega)]
  · rw [List.getElem?_eq_none (by rw [wd.mix_length]; omega), List.getElem?_eq_none (by rw [wd.dcells_length]; omega)]
theorem mix_nat (n k u v : Nat) (hk : k ≤ n) (hv : v < 4294967296 ^ n) : ∃ Z : Nat, wd.mix n k (u : Int) (v : Int) = wd.dcells n (Z : Int) ∧ Z < 4294967296 ^ n ∧ wd.dg (Z : Int) (k + 1) = wd.dg (v : Int) (k + 1) := by
  have e : ((u % 4294967296 ^ k + v / 4294967296 ^ k * 4294967296 ^ k : Nat) : Int) = (u : Int) % 4294967296 ^ k + (v : Int) / 4294967296 ^ k * 4294967296 ^ k := by
    rw [Int.natCast_add, Int.natCast_emod, Int.natCast_mul, Int.natCast_ediv, wd.pow_cast]
  refine ⟨u % 4294967296 ^ k + v / 4294967296 ^ k * 4294967296 ^ k, by rw [mix_num, e], ?_, by rw [e, num_dg _ _ _ _ (by omega)]⟩
  have hp := wd.pow_nat k
  have h1 : v / 4294967296 ^ k < 4294967296 ^ (n - k) := Nat.div_lt_of_lt_mul (by rw [← Nat.pow_add, show k + (n - k) = n by omega]; exact hv)
  have h2 : (v / 4294967296 ^ k + 1) * 4294967296 ^ k ≤ 4294967296 ^ n := by
    have := Nat.mul_le_mul_right (4294967296 ^ k) (show v / 4294967296 ^ k + 1 ≤ 4294967296 ^ (n - k) by omega)
    rwa [← Nat.pow_add, show n - k + k = n by omega] at this
  have h3 := Nat.mod_lt u hp
  rw [Nat.add_mul] at h2
  omega

theorem down_digit (R x t : Int) (k : Nat) (hx : 0 < x) (ht : 0 < t) (hxt : x * t = 4294967296) : (wd.dg R (k + 1) * 4294967296 + wd.dg R k) / x % 4294967296 = wd.dg (R / x) k := by
  have hp := wd.p256 k
  unfold wd.dg
  have e1 : R / 4294967296 ^ (k + 1) = R / 4294967296 ^ k / 4294967296 := by rw [Int.pow_succ, ← Int.ediv_ediv_of_nonneg (Int.le_of_lt hp)]
  have e2 : R / x / 4294967296 ^ k = R / 4294967296 ^ k / x := by rw [Int.ediv_ediv_of_nonneg (Int.le_of_lt hx), Int.mul_comm, ← Int.ediv_ediv_of_nonneg (Int.le_of_lt hp)]
  rw [e1, e2]
  generalize R / 4294967296 ^ k = Z
  -- Z = Y * B^2 + (z1 * B + z0)
  have e3 : Z = (Z / 4294967296 % 4294967296 * 4294967296 + Z % 4294967296) + (Z / 4294967296 / 4294967296 * t * 4294967296) * x := by
    have : Z / 4294967296 / 4294967296 * t * 4294967296 * x = Z / 4294967296 / 4294967296 * (x * t) * 4294967296 := by
      rw [Int.mul_assoc, Int.mul_assoc, Int.mul_assoc, Int.mul_comm x t, Int.mul_assoc, Int.mul_comm 4294967296 x]
    rw [this, hxt]
    omega
  have e4 : Z / x = (Z / 4294967296 % 4294967296 * 4294967296 + Z % 4294967296) / x + Z / 4294967296 / 4294967296 * t * 4294967296 := by
    conv => lhs; rw [e3]
    rw [Int.add_mul_ediv_right _ _ (Int.ne_of_gt hx)]
  rw [e4]
  omega

/-- What holds at the head of each round of shiftDown. -/
def DownRel (w : World) (R : Int) (x b l cap base : Nat) (i : Value) (wr : World) : Prop := ∃ k : Nat, k ≤ l ∧ i = .int .i64 (k : Int) ∧ Own wr base 65 (some ⟨b, 0, none⟩) l cap (wd.mix l k (R / x) R) ∧ Wr w wr b 0 l
theorem down_next (w wr : World) (R : Int) (x t b l cap base k : Nat) (hx : 0 < x) (ht : 0 < t) (hxt : x * t = 4294967296) (hk : k < l) (hown : Own wr base 65 (some ⟨b, 0, none⟩) l cap (wd.mix l k (R / x) R)) (hw : Wr w wr b 0 l) {z : Int} (hz : z = wd.dg R (k + 1) * 4294967296 + wd.dg R k) :
    DownRel w R x b l cap base (.int .i64 ((k : Int) + 1)) (wr.setCell ⟨b, k, none⟩ (.int .u32 (z / x % 4294967296))) := by
  subst hz
  refine ⟨k + 1, by omega, by simp, ?_, hw.set _ (Nat.zero_le _) hk⟩
  rw [down_digit R x t k (by omega) (by omega) (by omega), ← wd.mix_set]
  exact Own.set hown _ hk

theorem off_neg {N D g q : Nat} (h1 : q ≤ g) (h2 : g ≤ q + 1) (hD : 0 < D) (hq : q = N / D) (h : (N : Int) < (g : Int) * D) : g = q + 1 ∧ (N : Int) - (g : Int) * D + D = ((N % D : Nat) : Int) := by
  have hd := Nat.div_add_mod N D
  rw [← hq] at hd
  have hg : g = q + 1 := by
    rcases Nat.lt_or_ge q g with h3 | h3
    · omega
    · have : g = q := by omega
      subst this
      exfalso
      have e : (g : Int) * D = ((D * g : Nat) : Int) := by rw [Int.natCast_mul, Int.mul_comm]
      rw [e] at h
      omega
  refine ⟨hg, ?_⟩
  subst hg
  have e : ((q + 1 : Nat) : Int) * D = ((D * q : Nat) : Int) + D := by
    rw [Int.natCast_mul, Int.natCast_add, Int.add_mul, Int.mul_comm (q : Int)]
    simp
  rw [e]
  omega
theorem off_pos {N D g q : Nat} (h1 : q ≤ g) (hD : 0 < D) (hq : q = N / D) (h : ¬ (N : Int) < (g : Int) * D) : g = q ∧ (N : Int) - (g : Int) * D = ((N % D : Nat) : Int) := by
  have hd := Nat.div_add_mod N D
  have hgN : g * D ≤ N := by
    have e : (g : Int) * D = ((g * D : Nat) : Int) := by rw [Int.natCast_mul]
    rw [e] at h
    omega
  have hg : g = q := by
    have := (Nat.le_div_iff_mul_le hD).2 hgN
    omega
  refine ⟨hg, ?_⟩
  subst hg
  rw [← hq] at hd
  have e : (g : Int) * D = ((D * g : Nat) : Int) := by rw [Int.natCast_mul, Int.mul_comm]
  rw [e]
  omega

end Go.Proofs.Ytnemailhijkemaa

namespace Go.Proofs.Ytnemailhijkemaa
open Go.RowKit
set_option linter.unusedVariables false

/-- What is left of A when the quotient's words from k on are taken off. -/
def rk (A D k : Nat) : Nat := A / 4294967296 ^ k % D * 4294967296 ^ k + A % 4294967296 ^ k
/-- The words that the next word of the quotient is told by. -/
def nk (A D j : Nat) : Nat := A / 4294967296 ^ (j + 1) % D * 4294967296 + A / 4294967296 ^ j % 4294967296
theorem mod_more (A j : Nat) : A % 4294967296 ^ (j + 1) = A % 4294967296 ^ j + 4294967296 ^ j * (A / 4294967296 ^ j % 4294967296) := by
  rw [Nat.pow_succ, Nat.mod_mul]
theorem rk_split (A D j : Nat) : rk A D (j + 1) = A % 4294967296 ^ j + 4294967296 ^ j * nk A D j := by
  have e : ∀ P X Z : Nat, X * (P * 4294967296) + Z = Z + P * (X * 4294967296) := fun P X Z => by
    rw [Nat.mul_left_comm, Nat.add_comm]
  unfold rk nk
  rw [mod_more, Nat.pow_succ, Nat.mul_add, e]
  omega
theorem rk_here (A D j : Nat) : rk A D j = A % 4294967296 ^ j + 4294967296 ^ j * (A / 4294967296 ^ j % D) := by
  unfold rk
  rw [Nat.mul_comm (4294967296 ^ j)]
  omega
theorem nk_cast (A D j : Nat) : ((nk A D j : Nat) : Int) = (A : Int) / 4294967296 ^ (j + 1) % D * 4294967296 + wd.dg A j := by
  unfold nk wd.dg
  rw [Int.natCast_add, Int.natCast_mul, Int.natCast_emod, Int.natCast_ediv, Int.natCast_emod, Int.natCast_ediv, wd.pow_cast, wd.pow_cast]
  rfl
theorem nk_div (A D j : Nat) (hD : 0 < D) : ((nk A D j / D : Nat) : Int) = wd.dg ((A / D : Nat) : Int) j := by
  rw [Int.natCast_ediv, nk_cast, wd.quot_digit _ _ _ (by omega), Int.natCast_ediv]
theorem nk_mod (A D j : Nat) (hD : 0 < D) : nk A D j % D = A / 4294967296 ^ j % D := by
  have h : ((nk A D j % D : Nat) : Int) = ((A / 4294967296 ^ j % D : Nat) : Int) := by
    rw [Int.natCast_emod, nk_cast, (wd.long_div A D j (by omega)).2, Int.natCast_emod, Int.natCast_ediv, wd.pow_cast]
  exact Int.ofNat.inj h
theorem nk_lt (A D j : Nat) (hD : 0 < D) : nk A D j < D * 4294967296 := by
  unfold nk
  have h1 := Nat.mod_lt (A / 4294967296 ^ (j + 1)) hD
  have h2 := Nat.mod_lt (A / 4294967296 ^ j) (show 0 < 4294967296 by decide)
  omega
theorem low_div (A j X : Nat) : (((A % 4294967296 ^ j + 4294967296 ^ j * X : Nat)) : Int) / 4294967296 ^ j = (X : Int) := by
  rw [← wd.pow_cast, ← Int.natCast_ediv, Nat.add_mul_div_left _ _ (wd.pow_nat j), Nat.div_eq_of_lt (Nat.mod_lt _ (wd.pow_nat j)), Nat.zero_add]
/-- A part of what one owns, written over: below it nothing changes, above it are noughts. -/
theorem own_put {w w1 : World} {base b L cap j m A X Y : Nat} {T : TypeId} (hown : Own w base T (some ⟨b, 0, none⟩) L cap (wd.dcells L ((A % 4294967296 ^ j + 4294967296 ^ j * X : Nat) : Int))) (hL : j + m ≤ L) (hX : X < 4294967296 ^ m) (hY : Y < 4294967296 ^ m)
    (hseg : Seg w1 b j (wd.dcells m (Y : Int))) (hw : Wr w w1 b j (j + m)) : Own w1 base T (some ⟨b, 0, none⟩) L cap (wd.dcells L ((A % 4294967296 ^ j + 4294967296 ^ j * Y : Nat) : Int)) := by
  have hs0 := (seg_of_own hown).1
  have hpj := wd.p256 j
  refine hw.owned hown (wd.dcells_length _ _) ?_
  have cong : ∀ Z : Nat, wd.dcells j ((A % 4294967296 ^ j + 4294967296 ^ j * Z : Nat) : Int) = wd.dcells j ((A % 4294967296 ^ j : Nat) : Int) := fun Z => wd.dcells_congr (Z : Int) (by rw [Int.natCast_add, Int.natCast_mul, wd.pow_cast, Int.mul_comm (4294967296 ^ j)])
  have top : ∀ Z : Nat, Z < 4294967296 ^ m → (((A % 4294967296 ^ j + 4294967296 ^ j * Z : Nat)) : Int) / 4294967296 ^ (j + m) = 0 := fun Z hZ => by
    rw [Int.pow_add, ← Int.ediv_ediv_of_nonneg (Int.le_of_lt hpj), low_div]
    exact Int.ediv_eq_zero_of_lt (by omega) (by rw [← wd.pow_cast]; omega)
  have t1 : Seg w1 b 0 (wd.dcells j ((A % 4294967296 ^ j + 4294967296 ^ j * Y : Nat) : Int)) := by
    rw [cong, ← cong X]
    exact hw.out (seg_head hs0 j (by omega)) (by rw [wd.dcells_length]; omega)
  have t3 : Seg w1 b (j + m) (wd.dcells (L - (j + m)) 0) := by
    have := hw.out (seg_part hs0 (j + m) (L - (j + m)) (by omega)) (by omega)
    rwa [Nat.zero_add, top X hX] at this
  have t2 : Seg w1 b j (wd.dcells (m + (L - (j + m))) (Y : Int)) := seg_join hseg (by
    rw [Int.ediv_eq_zero_of_lt (by omega) (by rw [← wd.pow_cast]; omega)]
    exact t3)
  have s1 := seg_join t1 (m := m + (L - (j + m))) (by rw [Nat.zero_add, low_div]; exact t2)
  rwa [show j + (m + (L - (j + m))) = L by omega] at s1

/-- What holds at the head of each round. -/
def LongRel (w : World) (A D lb la m rb qb : Nat) (ds : Option Addr) (i : Value) (wr : World) : Prop := ∃ k : Nat, k ≤ m ∧ i = .int .i64 ((k : Int) - 1) ∧
  Own wr w.heap.size 65 (some ⟨qb, 0, none⟩) m m (wd.xim m k ((A / D : Nat) : Int) 0) ∧ Own wr w.heap.size 65 (some ⟨rb, 0, none⟩) (la + 1) (la + 1) (wd.dcells (la + 1) ((rk A D k : Nat) : Int)) ∧
  Sl wr ds lb (lb + 1) (wd.dcells lb (D : Int)) ∧ Below w.heap.size w wr
theorem long_next {w wr w1 : World} {A D lb la m rb qb j : Nat} {ds : Option Addr} (hD : 0 < D) (hj : j < m) (hm : m + lb = la + 1) (hqr : qb ≠ rb) (hsd : ∀ o, ds ≠ some ⟨rb, o, none⟩) (hsq : ∀ o, ds ≠ some ⟨qb, o, none⟩) (hDl : D < 4294967296 ^ lb)
    (hq : Own wr w.heap.size 65 (some ⟨qb, 0, none⟩) m m (wd.xim m (j + 1) ((A / D : Nat) : Int) 0)) (hr : Own wr w.heap.size 65 (some ⟨rb, 0, none⟩) (la + 1) (la + 1) (wd.dcells (la + 1) ((rk A D (j + 1) : Nat) : Int)))
    (hs : Sl wr ds lb (lb + 1) (wd.dcells lb (D : Int))) (hb : Below w.heap.size w wr) (hseg : Seg w1 rb j (wd.dcells (lb + 1) ((nk A D j % D : Nat) : Int))) (hw : Wr wr w1 rb j (j + (lb + 1))) :
    LongRel w A D lb la m rb qb ds (.int .i64 ((j : Int) - 1)) (w1.setCell ⟨qb, j, none⟩ (.int .u32 ((nk A D j / D : Nat) : Int))) := by
  have hq1 := hw.own hq (fun o e => hqr (by cases e; rfl))
  have hrb := (seg_of_own hr).2.2
  have hqb := (seg_of_own hq).2.2
  have hN : nk A D j < 4294967296 ^ (lb + 1) := by
    have h1 := nk_lt A D j hD
    have h2 : D * 4294967296 ≤ 4294967296 ^ (lb + 1) := by rw [Nat.pow_succ]; exact Nat.mul_le_mul_right _ (by omega)
    omega
  have hr1 := own_put (Y := nk A D j % D) (by rw [rk_split] at hr; exact hr) (by omega) hN (Nat.lt_of_le_of_lt (Nat.mod_le _ _) hN) hseg hw
  rw [nk_mod A D j hD, ← rk_here] at hr1
  have ws : Wr w1 (w1.setCell ⟨qb, j, none⟩ (.int .u32 ((nk A D j / D : Nat) : Int))) qb 0 m := (Wr.refl _ _ _ _).set _ (Nat.zero_le _) hj
  refine ⟨j, by omega, rfl, ?_, ws.own hr1 (fun o e => hqr (by cases e; rfl)), ws.sl (hw.sl hs hsd) hsq, (hw.after hb hrb (Nat.le_refl _)).setCell hqb _⟩
  rw [nk_div A D j hD, ← wd.xim_set]
  exact Own.set hq1 _ hj
theorem addr_ne {b c o o' : Nat} (h : b ≠ c) : (some ⟨b, o, none⟩ : Option Addr) ≠ some ⟨c, o', none⟩ := fun e => by
  simp only [Option.some.injEq, Addr.mk.injEq] at e
  exact h e.1
theorem scale_lt {x s v p : Nat} (hx : x < 2 ^ (32 - s)) (hs : s ≤ 32) (hv : v / 4294967296 ^ p = x) : 2 ^ s * v < 4294967296 ^ (p + 1) := by
  have h1 : v < (x + 1) * 4294967296 ^ p := by rw [← hv]; have := Nat.lt_div_mul_add (a := v) (wd.pow_nat p); rw [Nat.succ_mul]; exact this
  have h2 : (x + 1) * 4294967296 ^ p ≤ 2 ^ (32 - s) * 4294967296 ^ p := Nat.mul_le_mul_right _ hx
  have h3 : 2 ^ s * (2 ^ (32 - s) * 4294967296 ^ p) = 4294967296 ^ (p + 1) := by
    rw [← Nat.mul_assoc, ← Nat.pow_add, show s + (32 - s) = 32 by omega, show (4294967296 : Nat) ^ (p + 1) = 4294967296 ^ p * 4294967296 from Nat.pow_succ _ _, Nat.mul_comm]
  rw [← h3]
  exact Nat.mul_lt_mul_of_pos_left (by omega) (Nat.pow_pos (by decide))
theorem rk_start {A D m : Nat} (h : A < D * 4294967296 ^ m) : rk A D m = A := by
  unfold rk
  rw [Nat.mod_eq_of_lt (Nat.div_lt_of_lt_mul (by rw [Nat.mul_comm]; exact h)), Nat.mul_comm]
  exact Nat.div_add_mod A _
theorem rk_end (A D : Nat) : rk A D 0 = A % D := by
  unfold rk
  simp [Nat.mod_one]

end Go.Proofs.Ytnemailhijkemaa

namespace Go.Proofs.Ytnemailhijkemaa
open Go.RowKit
set_option linter.unusedVariables false

theorem top_le {v l : Nat} (h : wd.nlen v = l + 1) : 4294967296 ^ l ≤ v := by
  refine Nat.le_of_not_lt fun hlt => ?_
  have := wd.nlen_le hlt
  omega
end Go.Proofs.Ytnemailhijkemaa

namespace Go.Proofs.Ytnemailhijkemaa
open Go.RowKit Go.Shelf
set_option linter.unusedVariables false
attribute [local go_sem] Oper.semAt_some

/-- What has come when r are left: p, p - 1, .., r. -/
def dn (p r : Nat) : List (Fin (p + 1)) := (List.range (p + 1 - r)).map fun j => ⟨p - j, by omega⟩
theorem dn_start (p : Nat) : dn p (p + 1) = [] := by simp [dn]
theorem dn_next (p q : Nat) (h : q < p + 1) : dn p q = dn p (q + 1) ++ [⟨q, h⟩] := by
  unfold dn
  rw [show p + 1 - q = (p + 1 - (q + 1)) + 1 by omega, List.range_succ, List.map_append]
  congr 1
  simp
  omega
theorem dn_length (p r : Nat) : (dn p r).length = p + 1 - r := by simp [dn]
theorem dn_mem (p r : Nat) (x : Fin (p + 1)) : x ∈ dn p r ↔ r ≤ x.1 := by
  unfold dn
  simp only [List.mem_map, List.mem_range]
  refine ⟨fun ⟨j, hj, e⟩ => by rw [← e]; show r ≤ p - j; omega, fun h => ⟨p - x.1, by have := x.2; omega, by have := x.2; apply Fin.ext; show p - (p - x.1) = x.1; omega⟩⟩

end Go.Proofs.Ytnemailhijkemaa

namespace Go.Proofs.Ytnemailhijkemaa
open Go.RowKit Go.Shelf
set_option linter.unusedVariables false
attribute [local go_sem] Oper.semAt_some

/-- -1, 0 or 1. -/
def cmpI (x y : Int) : Int := if x < y then -1 else if y < x then 1 else 0
/-- Equal from place k on. -/
theorem top_eq {u v m k : Nat} (hk : k ≤ m) (hu : u < 4294967296 ^ m) (hv : v < 4294967296 ^ m) (h : ∀ j, k ≤ j → j < m → wd.dg (u : Int) j = wd.dg (v : Int) j) : u / 4294967296 ^ k = v / 4294967296 ^ k := by
  have hlt : ∀ x : Nat, x < 4294967296 ^ m → x / 4294967296 ^ k < 4294967296 ^ (m - k) := fun x hx => by
    refine Nat.div_lt_of_lt_mul ?_
    rw [← Nat.pow_add, show k + (m - k) = m by omega]
    exact hx
  refine wd.eq_of_dcells (m - k) _ _ (hlt u hu) (hlt v hv) fun j hj => ?_
  rw [Int.natCast_ediv, Int.natCast_ediv, wd.pow_cast, wd.dg_div, wd.dg_div]
  exact h _ (by omega) (by omega)

end Go.Proofs.Ytnemailhijkemaa

namespace Go.Proofs.Ytnemailhijkemaa
open Go.RowKit Go.Shelf
set_option linter.unusedVariables false
attribute [local go_sem] Oper.semAt_some

theorem cmp_words {u v : Nat} {k : Nat} (h : u / 4294967296 ^ (k + 1) = v / 4294967296 ^ (k + 1)) (hne : wd.dg (u : Int) k ≠ wd.dg (v : Int) k) : cmpI (wd.dg (u : Int) k) (wd.dg (v : Int) k) = cmpI u v := by
  unfold cmpI
  rcases Int.lt_or_gt_of_ne hne with l | l
  · have := wd.lt_of_top h l
    rw [if_pos l, if_pos (by omega)]
  · have := wd.lt_of_top h.symm l
    rw [if_neg (by omega), if_pos l, if_neg (by omega), if_pos (by omega)]
theorem cmpI_self (x : Int) : cmpI x x = 0 := by unfold cmpI; simp

end Go.Proofs.Ytnemailhijkemaa

namespace Go.Proofs.Ytnemailhijkemaa
open Go.RowKit
set_option linter.unusedVariables false

/-- What holds at the head of each round of the difference's loop. -/
def NSubRel (w : World) (u v l b : Nat) (c i : Value) (wr : World) : Prop := ∃ k : Nat, k ≤ l ∧ i = .int .i64 (k : Int) ∧ c = .int .u32 (wd.bw u v k) ∧ Own wr w.heap.size 65 (some ⟨b, 0, none⟩) l l (wd.mix l k ((u : Int) - v) 0) ∧ Below w.heap.size w wr
theorem nsub_next (w wr : World) (u v l b k : Nat) (hk : k < l) (hown : Own wr w.heap.size 65 (some ⟨b, 0, none⟩) l l (wd.mix l k ((u : Int) - v) 0)) (hb : Below w.heap.size w wr) :
    NSubRel w u v l b (.int .u32 (wd.bor (wd.dg u k) (wd.dg v k + wd.bw u v k))) (.int .i64 ((k : Int) + 1)) (wr.setCell ⟨b, k, none⟩ (.int .u32 ((wd.dg u k - wd.dg v k - wd.bw u v k) % 4294967296))) := by
  refine ⟨k + 1, by omega, by simp, by rw [wd.bw_succ], ?_, hb.setCell (seg_of_own hown).2.2 _⟩
  rw [wd.sub_digit, ← wd.mix_set]
  exact Own.set hown _ (by omega)

end Go.Proofs.Ytnemailhijkemaa
