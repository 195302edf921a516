/-
  Joined texts, part 2:
  How many digits a number needs, to the base 65536, and its digits without noughts at the end. It imports nothing of the program.
  The arithmetic of a difference, and of a division by a small number, digit by digit. It imports nothing of the program.
  The arithmetic of a product, digit by digit. It imports nothing of the program.
  Digits to the base 65536, cut, joined, held against each other. It imports nothing of the program.
  A region whose order is open, an operation at a time: one that is wanted and yields in every world of interest, one that is not wanted, a call. It imports nothing of the program.
  What zelligeref03's Trim and Of answer.
  What zelligeref03's Nat and Same answer.
  What zelligeref03's Same answers of a number and its digits.
  slices.Backward over a nat: what a loop over it is handed.
  What nat's Cmp answers.
  What nat's Cmp answers where both numbers have the same length.
-/
import Derived.Test.YtjdphcdpgjdmkaaDoorP1
import Derived.Deep.RegionHeld3
import Derived.Deep.AppendLies
import Derived.RangeFuncNested
import Derived.RangeFuncBound
import Derived.RangeFuncCalls
import Derived.RangeFuncLeaves
import Derived.RangeFuncBox
import Derived.Shelf.Abstract
import Derived.Shelf.RegionOpen
import Derived.WalkKit
import Derived.OwnWalkIn
import Derived.TacticsInMore
import Derived.LoopNIn
import Derived.LoopIn
namespace Go.Proofs.YtjdphcdpgjdmkaaDoor.hf
open Go.RowKit
set_option linter.unusedVariables false

/-- v needs n digits: none for nought. -/
def IsLen (v n : Nat) : Prop := v < 65536 ^ n ∧ (n = 0 ∨ 65536 ^ (n - 1) ≤ v)
theorem isLen_one {v n m : Nat} (h : IsLen v n) (h' : IsLen v m) : n = m := by
  obtain ⟨a, b⟩ := h
  obtain ⟨a', b'⟩ := h'
  rcases Nat.lt_trichotomy n m with e | e | e
  · rcases b' with b' | b'
    · omega
    · have := Nat.pow_le_pow_right (n := 65536) (by decide) (show n ≤ m - 1 by omega)
      omega
  · exact e
  · rcases b with b | b
    · omega
    · have := Nat.pow_le_pow_right (n := 65536) (by decide) (show m ≤ n - 1 by omega)
      omega
/-- A number below 65536^n has a length of n at most, and is found by cutting noughts off the end. -/
theorem isLen_cut : ∀ (n v : Nat), v < 65536 ^ n → ∃ m, m ≤ n ∧ IsLen v m
  | 0, v, h => ⟨0, Nat.le_refl _, h, Or.inl rfl⟩
  | n + 1, v, h => by
    by_cases c : v < 65536 ^ n
    · obtain ⟨m, h1, h2⟩ := isLen_cut n v c
      exact ⟨m, by omega, h2⟩
    · exact ⟨n + 1, Nat.le_refl _, h, Or.inr (by simp; omega)⟩
theorem lt_pow_self (v : Nat) : v < 65536 ^ v := Nat.lt_pow_self (by decide)
theorem isLen_ex (v : Nat) : ∃ m, IsLen v m := by
  obtain ⟨m, _, h⟩ := isLen_cut v v (lt_pow_self v)
  exact ⟨m, h⟩
/-- How many digits v needs. -/
def nlen (v : Nat) : Nat := if h : v = 0 then 0 else nlen (v / 65536) + 1
  termination_by v
  decreasing_by exact Nat.div_lt_self (Nat.pos_of_ne_zero h) (by decide)
theorem nlen_is (v : Nat) : IsLen v (nlen v) := by
  induction v using Nat.strongRecOn with
  | ind v ih =>
    unfold nlen
    split
    · rename_i h
      rw [h]
      exact ⟨by decide, Or.inl rfl⟩
    · rename_i h
      obtain ⟨h1, h2⟩ := ih (v / 65536) (Nat.div_lt_self (Nat.pos_of_ne_zero h) (by decide))
      refine ⟨?_, Or.inr ?_⟩
      · rw [Nat.pow_succ]
        exact (Nat.div_lt_iff_lt_mul (by decide)).1 h1
      · rw [Nat.add_sub_cancel]
        rcases h2 with h2 | h2
        · rw [h2]
          exact Nat.pos_of_ne_zero h
        · rcases Nat.eq_zero_or_pos (nlen (v / 65536)) with h3 | h3
          · rw [h3]
            exact Nat.pos_of_ne_zero h
          · have h4 := (Nat.le_div_iff_mul_le (by decide)).1 h2
            rw [← Nat.pow_succ] at h4
            rwa [show (nlen (v / 65536) - 1).succ = nlen (v / 65536) by omega] at h4
theorem nlen_eq {v n : Nat} (h : IsLen v n) : nlen v = n := isLen_one (nlen_is v) h
theorem nlen_le {v n : Nat} (h : v < 65536 ^ n) : nlen v ≤ n := by
  obtain ⟨m, h1, h2⟩ := isLen_cut n v h
  rw [nlen_eq h2]; exact h1
theorem nlen_zero : nlen 0 = 0 := nlen_eq ⟨by decide, Or.inl rfl⟩
theorem nlen_lt (v : Nat) : v < 65536 ^ nlen v := (nlen_is v).1
theorem nlen_pos {v : Nat} (h : 0 < v) : 0 < nlen v := by
  rcases Nat.lt_or_ge 0 (nlen v) with l | l
  · exact l
  · have := nlen_lt v
    rw [show nlen v = 0 by omega] at this
    simp at this
    omega
/-- The longer number is the greater. -/
theorem lt_of_nlen {u v : Nat} (h : nlen u < nlen v) : u < v := by
  obtain ⟨_, b⟩ := nlen_is v
  rcases b with b | b
  · omega
  · have := nlen_lt u
    have := Nat.pow_le_pow_right (n := 65536) (by decide) (show nlen u ≤ nlen v - 1 by omega)
    omega
theorem pow_cast (k : Nat) : ((65536 ^ k : Nat) : Int) = (65536 : Int) ^ k := by rw [Int.natCast_pow]; rfl
theorem dg_nat (v k : Nat) : dg (v : Int) k = ((v / 65536 ^ k % 65536 : Nat) : Int) := by
  unfold dg
  rw [← pow_cast]
  omega
/-- The digit at a place that a number does not reach is nought; the highest one that it has is not. -/
theorem dg_over {v k : Nat} (h : v < 65536 ^ k) : dg (v : Int) k = 0 := by rw [dg_nat, Nat.div_eq_of_lt h]; rfl
theorem dg_top {v n : Nat} (h : IsLen v (n + 1)) : dg (v : Int) n ≠ 0 := by
  obtain ⟨a, b⟩ := h
  have b : 65536 ^ n ≤ v := by
    rcases b with b | b
    · omega
    · exact b
  rw [dg_nat]
  have h1 : 1 ≤ v / 65536 ^ n := (Nat.one_le_div_iff (Nat.pow_pos (by decide))).2 b
  have h2 : v / 65536 ^ n < 65536 := by
    rw [Nat.pow_succ] at a
    exact Nat.div_lt_of_lt_mul a
  rw [Nat.mod_eq_of_lt h2]
  omega
/-- One nought at the end cut off. -/
theorem lt_of_dg_zero {v n : Nat} (h : v < 65536 ^ (n + 1)) (z : dg (v : Int) n = 0) : v < 65536 ^ n := by
  rcases Nat.lt_or_ge v (65536 ^ n) with l | l
  · exact l
  · exact absurd z (dg_top ⟨h, Or.inr (by simpa using l)⟩)
/-- Two numbers of n digits with the same digits are the same. -/
theorem eq_of_dcells : ∀ (n : Nat) (u v : Nat), u < 65536 ^ n → v < 65536 ^ n → (∀ j, j < n → dg (u : Int) j = dg (v : Int) j) → u = v := by
  intro n
  induction n with
  | zero => intro u v hu hv _; simp at hu hv; omega
  | succ n ih =>
    intro u v hu hv h
    have e := ih (u % 65536 ^ n) (v % 65536 ^ n) (Nat.mod_lt _ (Nat.pow_pos (by decide))) (Nat.mod_lt _ (Nat.pow_pos (by decide))) (fun j hj => by
      have a : ∀ x : Nat, dg ((x % 65536 ^ n : Nat) : Int) j = dg (x : Int) j := fun x => by
        refine dg_congr (i := n) (-((x / 65536 ^ n : Nat) : Int)) ?_ hj
        have := Nat.mod_add_div x (65536 ^ n)
        rw [← pow_cast, Int.neg_mul, ← Int.natCast_mul, Nat.mul_comm (x / 65536 ^ n)]
        omega
      rw [a, a]
      exact h j (by omega))
    have t := h n (by omega)
    rw [dg_nat, dg_nat] at t
    have du : u / 65536 ^ n < 65536 := by rw [Nat.pow_succ] at hu; exact Nat.div_lt_of_lt_mul hu
    have dv : v / 65536 ^ n < 65536 := by rw [Nat.pow_succ] at hv; exact Nat.div_lt_of_lt_mul hv
    rw [Nat.mod_eq_of_lt du, Nat.mod_eq_of_lt dv] at t
    have t' : u / 65536 ^ n = v / 65536 ^ n := by omega
    have h1 := Nat.mod_add_div u (65536 ^ n)
    have h2 := Nat.mod_add_div v (65536 ^ n)
    rw [e, t'] at h1
    omega
end Go.Proofs.YtjdphcdpgjdmkaaDoor.hf

namespace Go.Proofs.YtjdphcdpgjdmkaaDoor.hf
open Go.RowKit
set_option linter.unusedVariables false

/-- The borrow, under a name. -/
def bor (x y : Int) : Int := if x < y then 1 else 0
/-- The borrow out of the places below i when y is taken off x. -/
def bw (x y : Int) (i : Nat) : Int := -((x % 65536 ^ i - y % 65536 ^ i) / 65536 ^ i)
theorem bw_zero (x y : Int) : bw x y 0 = 0 := by simp [bw, Int.emod_one]
theorem bw_sum (x y : Int) (i : Nat) : (x % 65536 ^ (i + 1) - y % 65536 ^ (i + 1)) / 65536 ^ i = dg x i - dg y i - bw x y i := by
  rw [emod_succ, emod_succ]
  unfold bw
  have e : dg x i * 65536 ^ i + x % 65536 ^ i - (dg y i * 65536 ^ i + y % 65536 ^ i) = (x % 65536 ^ i - y % 65536 ^ i) + (dg x i - dg y i) * 65536 ^ i := by rw [Int.sub_mul]; omega
  rw [e, Int.add_mul_ediv_right _ _ (Int.ne_of_gt (p256 i))]
  omega
theorem bw_range (x y : Int) (i : Nat) : 0 ≤ bw x y i ∧ bw x y i ≤ 1 := by
  unfold bw
  have hp := p256 i
  have a := Int.emod_nonneg x (Int.ne_of_gt hp)
  have a' := Int.emod_lt_of_pos x hp
  have b := Int.emod_nonneg y (Int.ne_of_gt hp)
  have b' := Int.emod_lt_of_pos y hp
  have h1 : (x % 65536 ^ i - y % 65536 ^ i) / 65536 ^ i < 1 := Int.ediv_lt_of_lt_mul hp (by omega)
  have h2 : -1 ≤ (x % 65536 ^ i - y % 65536 ^ i) / 65536 ^ i := Int.le_ediv_of_mul_le hp (by omega)
  omega
theorem bw_succ (x y : Int) (i : Nat) : bor (dg x i) (dg y i + bw x y i) = bw x y (i + 1) := by
  have e : bw x y (i + 1) = -((dg x i - dg y i - bw x y i) / 65536) := by
    rw [← bw_sum]
    show -((x % 65536 ^ (i + 1) - y % 65536 ^ (i + 1)) / 65536 ^ (i + 1)) = _
    have hp := p256 i
    rw [Int.pow_succ, Int.ediv_ediv, if_neg (by omega)]
    omega
  rw [e]
  have h := bw_range x y i
  have a := dg_range x i
  have b := dg_range y i
  unfold bor
  split <;> omega
theorem sub_digit (x y : Int) (i : Nat) : (dg x i - dg y i - bw x y i) % 65536 = dg (x - y) i := by
  unfold dg bw
  have hp := p256 i
  have h1 := Int.mul_ediv_add_emod x (65536 ^ i)
  have h2 := Int.mul_ediv_add_emod y (65536 ^ i)
  have e : x - y = (x % 65536 ^ i - y % 65536 ^ i) + (x / 65536 ^ i - y / 65536 ^ i) * 65536 ^ i := by
    have a1 : x / 65536 ^ i * (65536 : Int) ^ i = 65536 ^ i * (x / 65536 ^ i) := Int.mul_comm _ _
    have a2 : y / 65536 ^ i * (65536 : Int) ^ i = 65536 ^ i * (y / 65536 ^ i) := Int.mul_comm _ _
    rw [Int.sub_mul]; omega
  have e2 : (x - y) / 65536 ^ i = (x % 65536 ^ i - y % 65536 ^ i) / 65536 ^ i + (x / 65536 ^ i - y / 65536 ^ i) := by
    conv => lhs; rw [e]
    exact Int.add_mul_ediv_right _ _ (Int.ne_of_gt hp)
  rw [e2]
  omega
/-- Long division by d: what is left of the places from k + 1 on, and digit k, give digit k of the quotient, and what is left of the places from k on. -/
theorem long_div (v d : Int) (k : Nat) (hd : 0 < d) : (v / 65536 ^ (k + 1) % d * 65536 + dg v k) / d = v / 65536 ^ k / d - 65536 * (v / 65536 ^ (k + 1) / d) ∧ (v / 65536 ^ (k + 1) % d * 65536 + dg v k) % d = v / 65536 ^ k % d := by
  have hp := p256 k
  have e : v / 65536 ^ (k + 1) = v / 65536 ^ k / 65536 := by rw [Int.pow_succ, Int.ediv_ediv, if_neg (by omega)]; omega
  unfold dg
  rw [e]
  generalize v / 65536 ^ k = u
  have h1 : u / 65536 % d = u / 65536 - d * (u / 65536 / d) := by have := Int.mul_ediv_add_emod (u / 65536) d; omega
  have h2 : u / 65536 % d * 65536 + u % 65536 = u + (-(65536 * (u / 65536 / d))) * d := by
    rw [h1, Int.sub_mul, Int.neg_mul, Int.mul_comm d, Int.mul_assoc, Int.mul_comm d 65536, Int.mul_left_comm, Int.mul_assoc]
    omega
  rw [h2]
  refine ⟨?_, Int.add_mul_emod_self_right _ _ _⟩
  rw [Int.add_mul_ediv_right _ _ (by omega)]
  omega
end Go.Proofs.YtjdphcdpgjdmkaaDoor.hf

namespace Go.Proofs.YtjdphcdpgjdmkaaDoor.hf
set_option linter.unusedVariables false

/-- What stands below place i + k, and over it, when k digits of y have been taken times digit i of x. -/
def tk (O xi y : Int) (i k : Nat) : Int := O % 65536 ^ (i + k) + xi * 65536 ^ i * (y % 65536 ^ k)
def cy (O xi y : Int) (i k : Nat) : Int := tk O xi y i k / 65536 ^ (i + k)
theorem pow_ik (i k : Nat) : (65536 : Int) ^ (i + k) = 65536 ^ i * 65536 ^ k := Int.pow_add _ _ _
theorem tk_succ (O xi y : Int) (i k : Nat) : tk O xi y i (k + 1) = tk O xi y i k + (dg O (i + k) + xi * dg y k) * 65536 ^ (i + k) := by
  unfold tk
  rw [← Nat.add_assoc, emod_succ, emod_succ, Int.add_mul, Int.mul_add, pow_ik]
  have e : xi * 65536 ^ i * (dg y k * 65536 ^ k) = xi * dg y k * (65536 ^ i * 65536 ^ k) := by
    rw [Int.mul_assoc xi, Int.mul_left_comm (65536 ^ i) (dg y k), Int.mul_assoc xi (dg y k)]
  rw [e]; omega
theorem cy_sum (O xi y : Int) (i k : Nat) : tk O xi y i (k + 1) / 65536 ^ (i + k) = cy O xi y i k + dg O (i + k) + xi * dg y k := by
  rw [tk_succ, Int.add_mul_ediv_right _ _ (Int.ne_of_gt (p256 _))]; unfold cy; omega
theorem cy_succ (O xi y : Int) (i k : Nat) : cy O xi y i (k + 1) = (cy O xi y i k + dg O (i + k) + xi * dg y k) / 65536 := by
  rw [← cy_sum]
  show tk O xi y i (k + 1) / 65536 ^ (i + k + 1) = _
  have hp := p256 (i + k)
  rw [Int.pow_succ, Int.ediv_ediv, if_neg (by omega)]; omega
theorem mul_digit (O xi y : Int) (i k : Nat) : (cy O xi y i k + dg O (i + k) + xi * dg y k) % 65536 = dg (O + xi * 65536 ^ i * y) (i + k) := by
  rw [← cy_sum]
  show dg (tk O xi y i (k + 1)) (i + k) = _
  refine (dg_congr (i := i + k + 1) (O / 65536 ^ (i + k + 1) + xi * (y / 65536 ^ (k + 1))) ?_ (by omega)).symm
  unfold tk
  have h1 := Int.mul_ediv_add_emod O (65536 ^ (i + k + 1))
  have h2 := Int.mul_ediv_add_emod y (65536 ^ (k + 1))
  have e0 : i + (k + 1) = i + k + 1 := by omega
  rw [e0, Int.add_mul]
  have e1 : O / 65536 ^ (i + k + 1) * (65536 : Int) ^ (i + k + 1) = 65536 ^ (i + k + 1) * (O / 65536 ^ (i + k + 1)) := Int.mul_comm _ _
  have e2 : xi * (y / 65536 ^ (k + 1)) * (65536 : Int) ^ (i + k + 1) = xi * 65536 ^ i * (65536 ^ (k + 1) * (y / 65536 ^ (k + 1))) := by
    rw [← e0, pow_ik i (k + 1)]
    generalize (65536 : Int) ^ (k + 1) = K
    rw [Int.mul_assoc xi, Int.mul_assoc xi, Int.mul_left_comm (y / K) (65536 ^ i) K, Int.mul_comm (y / K) K]
  have e3 : xi * 65536 ^ i * y = xi * 65536 ^ i * (65536 ^ (k + 1) * (y / 65536 ^ (k + 1))) + xi * 65536 ^ i * (y % 65536 ^ (k + 1)) := by rw [← Int.mul_add, h2]
  rw [e1, e2, e3]; omega
theorem cy_zero (O xi y : Int) (i : Nat) : cy O xi y i 0 = 0 := by
  unfold cy tk
  have hp := p256 i
  have a := Int.emod_nonneg O (Int.ne_of_gt hp)
  have a' := Int.emod_lt_of_pos O hp
  have e : y % (65536 : Int) ^ 0 = 0 := by simp [Int.emod_one]
  rw [e]
  simp only [Nat.add_zero, Int.mul_zero, Int.add_zero]
  exact Int.ediv_eq_zero_of_lt a a'
theorem cy_range (O xi y : Int) (i k : Nat) (h0 : 0 ≤ xi) (h1 : xi < 65536) : 0 ≤ cy O xi y i k ∧ cy O xi y i k ≤ 65535 := by
  unfold cy tk
  have hp := p256 (i + k)
  have hi := p256 i
  have hk := p256 k
  have a := Int.emod_nonneg O (Int.ne_of_gt hp)
  have a' := Int.emod_lt_of_pos O hp
  have b := Int.emod_nonneg y (Int.ne_of_gt hk)
  have b' := Int.emod_lt_of_pos y hk
  have c : 0 ≤ xi * 65536 ^ i * (y % 65536 ^ k) := Int.mul_nonneg (Int.mul_nonneg h0 (Int.le_of_lt hi)) b
  have c' : xi * 65536 ^ i * (y % 65536 ^ k) ≤ 65535 * 65536 ^ (i + k) := by
    rw [pow_ik, ← Int.mul_assoc]
    exact Int.mul_le_mul (Int.mul_le_mul_of_nonneg_right (by omega) (Int.le_of_lt hi)) (by omega) b (Int.mul_nonneg (by decide) (Int.le_of_lt hi))
  refine ⟨Int.ediv_nonneg (by omega) (by omega), ?_⟩
  have : (O % 65536 ^ (i + k) + xi * 65536 ^ i * (y % 65536 ^ k)) / 65536 ^ (i + k) < 65536 := Int.ediv_lt_of_lt_mul hp (by omega)
  omega
theorem dg_mul (x y : Int) (i k : Nat) : 0 ≤ dg x i * dg y k ∧ dg x i * dg y k ≤ 4294836225 := by
  obtain ⟨a, a'⟩ := dg_range x i
  obtain ⟨b, b'⟩ := dg_range y k
  refine ⟨Int.mul_nonneg a b, ?_⟩
  have := Int.mul_le_mul (show dg x i ≤ 65535 by omega) (show dg y k ≤ 65535 by omega) b (by decide)
  omega
theorem mul_next (x y : Int) (i : Nat) : x % 65536 ^ i * y + dg x i * 65536 ^ i * y = x % 65536 ^ (i + 1) * y := by rw [emod_succ, Int.add_mul]; omega
theorem mix_start (n i : Nat) (O xi y : Int) : mix n i (O + xi * 65536 ^ i * y) O = dcells n O := by
  rw [← mix_zero n O O]
  refine fill_congr fun j _ => ?_
  by_cases h : j < i
  · have e : dg (O + xi * 65536 ^ i * y) j = dg O j := dg_congr (i := i) (xi * y) (by rw [Int.mul_assoc, Int.mul_comm (65536 ^ i) y, ← Int.mul_assoc]) h
    simp [h, e]
  · simp [h]
end Go.Proofs.YtjdphcdpgjdmkaaDoor.hf

namespace Go.Proofs.YtjdphcdpgjdmkaaDoor.hf
open Go.RowKit
set_option linter.unusedVariables false

theorem dg_div (v : Int) (i j : Nat) : dg (v / 65536 ^ i) j = dg v (i + j) := by
  unfold dg
  have hp := p256 i
  rw [Int.pow_add, Int.ediv_ediv, if_neg (by omega)]
  omega
theorem dcells_take (n m : Nat) (v : Int) (h : m ≤ n) : (dcells n v).take m = dcells m v := by
  unfold dcells
  rw [← List.map_take, List.take_range, Nat.min_eq_left h]
theorem dcells_drop (n i : Nat) (v : Int) : (dcells n v).drop i = dcells (n - i) (v / 65536 ^ i) := by
  refine List.ext_getElem? fun j => ?_
  rw [List.getElem?_drop]
  by_cases h : i + j < n
  · rw [dcells_at _ _ _ h, dcells_at _ _ _ (by omega), dg_div]
  · rw [List.getElem?_eq_none (by rw [dcells_length]; omega), List.getElem?_eq_none (by rw [dcells_length]; omega)]
theorem dcells_join (n m : Nat) (u v : Int) : dcells n u ++ dcells m v = dcells (n + m) (u % 65536 ^ n + v * 65536 ^ n) := by
  refine List.ext_getElem? fun j => ?_
  by_cases h : j < n
  · rw [List.getElem?_append_left (by rw [dcells_length]; exact h), dcells_at _ _ _ h, dcells_at _ _ _ (by omega)]
    have h1 := Int.mul_ediv_add_emod u (65536 ^ n)
    rw [dg_congr (u := u) (v := u % 65536 ^ n + v * 65536 ^ n) (i := n) (u / 65536 ^ n - v) (by rw [Int.sub_mul]; have : u / 65536 ^ n * (65536 : Int) ^ n = 65536 ^ n * (u / 65536 ^ n) := Int.mul_comm _ _; omega) h]
  · rw [List.getElem?_append_right (by rw [dcells_length]; omega), dcells_length]
    by_cases h2 : j < n + m
    · rw [dcells_at _ _ _ (by omega), dcells_at _ _ _ h2]
      have hp := p256 n
      have a := Int.emod_nonneg u (Int.ne_of_gt hp)
      have a' := Int.emod_lt_of_pos u hp
      have e : (u % 65536 ^ n + v * 65536 ^ n) / 65536 ^ n = v := by
        rw [Int.add_mul_ediv_right _ _ (Int.ne_of_gt hp), Int.ediv_eq_zero_of_lt a a']; omega
      have := dg_div (u % 65536 ^ n + v * 65536 ^ n) n (j - n)
      rw [e, show n + (j - n) = j by omega] at this
      rw [this]
    · rw [List.getElem?_eq_none (by rw [dcells_length]; omega), List.getElem?_eq_none (by rw [dcells_length]; omega)]
theorem dcells_zero (n : Nat) : dcells n 0 = List.replicate n (.int .i64 0) := by
  refine List.ext_getElem? fun j => ?_
  by_cases h : j < n
  · rw [dcells_at _ _ _ h, List.getElem?_replicate, if_pos h]; simp [dg]
  · rw [List.getElem?_eq_none (by rw [dcells_length]; omega), List.getElem?_eq_none (by simp; omega)]
theorem dcells_succ (t : Nat) (a : Int) : dcells (t + 1) a = dcells t a ++ [.int .i64 (dg a t)] := by
  unfold dcells; rw [List.range_succ, List.map_append]; rfl
/-- Any digits are some number's. -/
theorem digits_num : ∀ zs : List Int, (∀ z ∈ zs, 0 ≤ z ∧ z < 65536) → ∃ u : Nat, u < 65536 ^ zs.length ∧ zs.map (Value.int .i64) = dcells zs.length (u : Int)
  | [], _ => ⟨0, by simp, by simp [dcells]⟩
  | z :: zs, h => by
    obtain ⟨u, hu, e⟩ := digits_num zs (fun x hx => h x (List.mem_cons_of_mem _ hx))
    obtain ⟨h0, h1⟩ := h z (List.mem_cons_self ..)
    refine ⟨z.toNat + 65536 * u, ?_, ?_⟩
    · rw [List.length_cons, Nat.pow_succ]
      have : z.toNat < 65536 := by omega
      omega
    · rw [List.map_cons, List.length_cons, e]
      have e1 : [Value.int .i64 z] = dcells 1 z := by
        simp [dcells, List.range_succ, dg]
        omega
      have := dcells_join 1 zs.length z u
      rw [← e1] at this
      rw [show zs.length + 1 = 1 + zs.length by omega, show ((z.toNat + 65536 * u : Nat) : Int) = z % 65536 ^ 1 + u * 65536 ^ 1 by simp; omega]
      exact this
/-- Number by number: the length of a number's digits without noughts at the end. -/
theorem take_len {u n : Nat} (h : u < 65536 ^ n) : (dcells n (u : Int)).take (nlen u) = dcells (nlen u) (u : Int) := dcells_take _ _ _ (nlen_le h)
theorem nlen_eq_zero {u : Nat} : nlen u = 0 ↔ u = 0 := by
  refine ⟨fun h => ?_, fun h => by rw [h, nlen_zero]⟩
  have := nlen_lt u
  rw [h] at this
  simpa using this
/-- Two numbers, held against each other from the highest digit on. -/
theorem div_step (u k : Nat) : u / 65536 ^ k = 65536 * (u / 65536 ^ (k + 1)) + u / 65536 ^ k % 65536 := by
  rw [Nat.pow_succ, ← Nat.div_div_eq_div_mul]; omega
theorem lt_of_top {u v k : Nat} (h : u / 65536 ^ (k + 1) = v / 65536 ^ (k + 1)) (hd : dg (u : Int) k < dg (v : Int) k) : u < v := by
  rw [dg_nat, dg_nat] at hd
  have h1 := div_step u k
  have h2 := div_step v k
  rcases Nat.lt_or_ge u v with l | l
  · exact l
  · have := Nat.div_le_div_right (c := 65536 ^ k) l
    omega
theorem eq_of_top {u v k : Nat} (h : u / 65536 ^ (k + 1) = v / 65536 ^ (k + 1)) (hd : dg (u : Int) k = dg (v : Int) k) : u / 65536 ^ k = v / 65536 ^ k := by
  rw [dg_nat, dg_nat] at hd
  have h1 := div_step u k
  have h2 := div_step v k
  omega
theorem quot_digit (v d : Int) (k : Nat) (hd : 0 < d) : (v / 65536 ^ (k + 1) % d * 65536 + dg v k) / d = dg (v / d) k := by
  rw [(long_div v d k hd).1]
  have hp := p256 k
  have hp1 := p256 (k + 1)
  have e1 : v / d / 65536 ^ k = v / 65536 ^ k / d := by rw [Int.ediv_ediv, if_neg (by omega), Int.ediv_ediv, if_neg (by omega), Int.mul_comm]
  have e2 : v / d / 65536 ^ (k + 1) = v / 65536 ^ (k + 1) / d := by rw [Int.ediv_ediv, if_neg (by omega), Int.ediv_ediv, if_neg (by omega), Int.mul_comm]
  have e3 : ∀ x : Int, x / 65536 ^ (k + 1) = x / 65536 ^ k / 65536 := fun x => by rw [Int.pow_succ, Int.ediv_ediv, if_neg (by omega)]; omega
  unfold dg
  rw [← e2, e3, ← e1]
  omega
/-- Cells from place k on those of u, below it those of v. -/
def xim (n k : Nat) (u v : Int) : List Value := fill n (fun j => decide (k ≤ j)) u v
theorem xim_length (n k : Nat) (u v : Int) : (xim n k u v).length = n := fill_length _ _ _ _
theorem xim_at (n k : Nat) (u v : Int) (i : Nat) (h : i < n) (hk : i < k) : (xim n k u v)[i]? = some (.int .i64 (dg v i)) := by
  rw [xim, fill_at _ _ _ _ _ h]; simp; omega
theorem xim_set (n k : Nat) (u v : Int) : (xim n (k + 1) u v).set k (.int .i64 (dg u k)) = xim n k u v := by
  unfold xim
  rw [fill_set]
  refine fill_congr fun j _ => ?_
  have : (decide (k + 1 ≤ j) || j == k) = decide (k ≤ j) := by rw [Bool.eq_iff_iff]; simp; omega
  rw [this]
theorem xim_full (n : Nat) (u v : Int) : xim n n u v = dcells n v := by
  unfold xim fill dcells
  refine List.map_congr_left fun j hj => ?_
  have : ¬ n ≤ j := by have : j < n := by simpa using hj
                       omega
  simp [this]
theorem xim_zero (n : Nat) (u v : Int) : xim n 0 u v = dcells n u := by unfold xim fill dcells; simp
theorem pow_nat (k : Nat) : 0 < 65536 ^ k := Nat.pow_pos (by decide)
theorem dg_lt_int (v : Int) (k : Nat) (h0 : 0 ≤ v) (h : v < 65536 ^ k) : dg v k = 0 := by
  unfold dg; rw [Int.ediv_eq_zero_of_lt h0 h]; rfl
end Go.Proofs.YtjdphcdpgjdmkaaDoor.hf

namespace Go.Proofs.YtjdphcdpgjdmkaaDoor
variable {P : Program} {md : Region.Mode} {Q : Exit → Act → World → Prop} {S : World → Prop}

theorem take_yes {l : List Oper} {i : Nat} {oi : Oper} {v : Value} {fuel : Nat} {listed : Array Bool} {a : Act} {w : World} (hi : l[i]? = some oi)
    (hs : Region.noSelect l.toArray = true) (hf : Region.free md l.toArray listed i = true) (hr : (Region.ready md l.toArray listed).contains i = true)
    (hQ : ∀ c a w, Q (.panic c) (a.put oi.dst v) w → Q (.panic c) a w) (hw : Region.wanted oi (yielded l.toArray a.tmps) = true) (hS : S w)
    (hy : ∀ w, S w → (execOp a.eval oi).run P w = .ok (.value v) w)
    (h : wpAnyH P md l.toArray Q S fuel (listed.setIfInBounds i true) (a.put oi.dst v) w) : wpAnyH P md l.toArray Q S (fuel + 1) listed a w :=
  wpAnyH_take (by simpa using hi) hs hf hr hQ (Or.inl ⟨hw, hy⟩) hS h
theorem take_no {l : List Oper} {i : Nat} {oi : Oper} {fuel : Nat} {listed : Array Bool} {a : Act} {w : World} (hi : l[i]? = some oi)
    (hs : Region.noSelect l.toArray = true) (hf : Region.free md l.toArray listed i = true) (hr : (Region.ready md l.toArray listed).contains i = true)
    (hQ : ∀ c a w, Q (.panic c) (a.put oi.dst undef) w → Q (.panic c) a w) (hw : Region.wanted oi (yielded l.toArray a.tmps) = false) (hS : S w)
    (h : wpAnyH P md l.toArray Q S fuel (listed.setIfInBounds i true) (a.put oi.dst undef) w) : wpAnyH P md l.toArray Q S (fuel + 1) listed a w :=
  wpAnyH_take (v := undef) (by simpa using hi) hs hf hr hQ (Or.inr ⟨hw, rfl⟩) hS h
theorem take_call {l : List Oper} {i : Nat} {o : Oper} {fuel : Nat} {listed : Array Bool} {a : Act} {w : World} (ho : l[i]? = some o) (hr : Region.ready md l.toArray listed = [i])
    (h : ∀ K' : Act → World → Prop, Shut (∀ a w, S w → (S w → wpAnyH P md l.toArray Q S fuel (listed.setIfInBounds i true) a w) → K' a w) → if Region.wanted o (yielded l.toArray a.tmps) = true then Oper.wp P o a w K' Q else K' (a.put o.dst undef) w) :
    wpAnyH P md l.toArray Q S (fuel + 1) listed a w :=
  wpAnyH_ready hr (by simp) (AllReadyH.cons (by simpa using ho) h AllReadyH.nil)
end Go.Proofs.YtjdphcdpgjdmkaaDoor

namespace Go.Proofs.YtjdphcdpgjdmkaaDoor
open Go.RowKit
set_option linter.unusedVariables false

set_option maxRecDepth 100000 in
set_option maxHeartbeats 400000 in
theorem rtrim_own (a : Option Addr) (l cap u base : Nat) (w : World) (hown : Own w base 3 a l cap (hf.dcells l (u : Int))) (hu : u < 65536 ^ l) :
    Calls Tryd.prog 26 #[.slice a l cap] w fun e w' => e = .returned (.slice a (hf.nlen u) cap) ∧ w = w' ∧ Own w base 3 a (hf.nlen u) cap (hf.dcells (hf.nlen u) (u : Int)) := by
  have hs := Own.sl hown
  have hcap := hs.big
  have hroom := hs.room
  unfold maxLen at hcap
  have HO : Hid (Own w base 3 a (hf.nlen u) cap (hf.dcells (hf.nlen u) (u : Int))) := by
    have := Own.take hown (hf.nlen_le hu)
    rwa [hf.dcells_take _ _ _ (hf.nlen_le hu)] at this
  have hsh : (a = none ∧ cap = 0) ∨ ∃ g, a = some ⟨g, 0, none⟩ := by
    obtain ⟨_, ⟨h1, _⟩ | ⟨g, cap', cur, hv, _⟩⟩ := hown
    · cases h1; exact Or.inl ⟨rfl, rfl⟩
    · cases hv; exact Or.inr ⟨g, rfl⟩
  rcases hsh with ⟨rfl, rfl⟩ | ⟨g, rfl⟩
  · obtain rfl : l = 0 := by omega
    have hz : Hid (hf.nlen u = 0) := hf.nlen_eq_zero.2 (by simpa using hu)
    clear hown hs
    go_enter Tryd.func26, Tryd.ntmps26
    go_wp2
    go_loop [3] (fun i => i = .int .i64 0) (fun i => (intOf i).toNat)
    case atStart => rfl
    case round =>
      obtain rfl := hrel
      go_wp2
      go_ret
      exact ⟨by rw [hz.out]; rfl, rfl, HO.out⟩
  · go_enter Tryd.func26, Tryd.ntmps26
    go_wp2
    go_loop [3] (fun i => ∃ k : Nat, k ≤ l ∧ u < 65536 ^ k ∧ i = .int .i64 (k : Int)) (fun i => (intOf i).toNat)
    case atStart => exact ⟨l, Nat.le_refl _, hu, rfl⟩
    case round =>
      obtain ⟨k, hk, huk, rfl⟩ := hrel
      rcases k with _ | k
      · have hz : Hid (hf.nlen u = 0) := hf.nlen_eq_zero.2 (by simpa using huk)
        clear hu huk
        go_wp2
        go_ret
        exact ⟨by rw [hz.out]; rfl, rfl, HO.out⟩
      · have c1 : w.cell? ⟨g, k, none⟩ = some (.int .i64 (hf.dg u k)) := Own.cell hown k _ (hf.dcells_at _ _ _ (by omega))
        have e1 : ((k + 1 : Nat) : Int) - 1 = (k : Int) := by omega
        by_cases hd : hf.dg (u : Int) k = 0
        · have hd' : (hf.dg (u : Int) k == 0) = true := by rw [hd]; rfl
          have Hn : Hid (u < 65536 ^ k) := hf.lt_of_dg_zero huk hd
          clear hd huk hu hown
          go_wp2
          go_round
          case rel => exact ⟨k, by omega, Hn.out, by go_num⟩
          case measure => simp [intOf]
        · have hd' : (hf.dg (u : Int) k == 0) = false := by simpa using hd
          have Hl : Hid (hf.nlen u = k + 1) := by
            refine hf.nlen_eq ⟨huk, Or.inr ?_⟩
            rcases Nat.lt_or_ge u (65536 ^ k) with h | h
            · exact absurd (hf.dg_over h) hd
            · simpa using h
          clear hd huk hu hown
          go_wp2
          go_ret
          exact ⟨by rw [Hl.out]; rfl, rfl, HO.out⟩

/-- Two digits for each word. -/
theorem halves (u : Int) (k : Nat) : hf.dg u (2 * k) = wd.dg u k % 65536 ∧ hf.dg u (2 * k + 1) = wd.dg u k / 65536 := by
  unfold hf.dg wd.dg
  have e : (65536 : Int) ^ (2 * k) = 4294967296 ^ k := by rw [Int.pow_mul]; rfl
  have e2 : (65536 : Int) ^ (2 * k + 1) = 4294967296 ^ k * 65536 := by rw [Int.pow_succ, e]
  have hp := wd.p256 k
  rw [e, e2]
  have : u / (4294967296 ^ k * 65536) = u / 4294967296 ^ k / 65536 := by rw [Int.ediv_ediv, if_neg (by omega)]; omega
  rw [this]
  omega
theorem pow_halves (k : Nat) : 65536 ^ (2 * k) = 4294967296 ^ k := by rw [Nat.pow_mul]
theorem hf_two (t : Nat) (u : Int) : hf.dcells (2 * (t + 1)) u = hf.dcells (2 * t) u ++ [.int .i64 (wd.dg u t % 65536), .int .i64 (wd.dg u t / 65536)] := by
  rw [show 2 * (t + 1) = 2 * t + 1 + 1 by omega, hf.dcells_succ, hf.dcells_succ, (halves u t).1, (halves u t).2, List.append_assoc]
  rfl
/-- What holds at the head of each round. -/
def OfRel (w : World) (u l : Nat) (v i : Value) (wr : World) : Prop := ∃ (k cap : Nat) (a : Option Addr), k ≤ l ∧ i = .int .i64 (k : Int) ∧ v = .slice a (2 * k) cap ∧ Own wr w.heap.size 3 a (2 * k) cap (hf.dcells (2 * k) (u : Int)) ∧ Below w.heap.size w wr
theorem ofRel_next {w wr w2 w4 : World} {u l k cap cap' g' : Nat} {a : Option Addr} (hk : k < l) (hown : Own wr w.heap.size 3 a (2 * k) cap (hf.dcells (2 * k) (u : Int))) (hbel : Below w.heap.size w wr)
    (h4 : w4.ownsRow w.heap.size 3 1 (.slice (some ⟨g', 0, none⟩) (2 * k + 2) cap') (2 * k + 2) (hf.dcells (2 * k) (u : Int) ++ [.int .i64 (wd.dg u k % 65536), .int .i64 (wd.dg u k / 65536)]))
    (h2 : Below wr.heap.size wr w2) (hgr : w2.grownBy w4 (Value.slice a (2 * k) cap).ownBlock) : OfRel w u l (.slice (some ⟨g', 0, none⟩) (2 * k + 2) cap') (.int .i64 ((k : Int) + 1)) w4 := by
  have hs := hbel.size
  refine ⟨k + 1, cap', _, hk, by simp, rfl, ?_, (hbel.trans (h2.mono hs)).grown hgr (by have := h2.size; omega) (fun k' hk' => (World.ownsRow.lt hown k' hk').1)⟩
  rw [hf_two]
  exact h4
theorem own_empty (w : World) (base : Nat) (T : TypeId) (hb : base ≤ w.heap.size) : Own (w.alloc (.cells #[] T)) base T (some ⟨w.heap.size, 0, none⟩) 0 0 [] := World.ownsRow_lit w #[] 0 hb (by decide) rfl
set_option maxRecDepth 100000 in
set_option maxHeartbeats 1000000 in
theorem rof_any (a : Option Addr) (l ca u : Nat) (w : World) (ha : Sl w a l ca (wd.dcells l (u : Int))) (hu : u < 4294967296 ^ l) (hl : l ≤ 1000000000) :
    Calls Tryd.prog 9 #[.slice a l ca] w fun e w' => ∃ a' cap', e = .returned (.slice a' (hf.nlen u) cap') ∧ Own w' w.heap.size 3 a' (hf.nlen u) cap' (hf.dcells (hf.nlen u) (u : Int)) ∧ Below w.heap.size w w' := by
  obtain ⟨i0, hi0, hz0, hz1, hz2⟩ := info_parts infoInt
  have HU : Hid (u < 65536 ^ (2 * l)) := by unfold Hid; rw [pow_halves]; exact hu
  have hown0 := own_empty w w.heap.size 3 (Nat.le_refl _)
  clear hu
  go_enter Tryd.func9, Tryd.ntmps9
  go_wp2
  go_loopw [3, 4] (fun v i wr => OfRel w u l v i wr) (fun _ i _ => l - (intOf i).toNat)
  case atStart => exact ⟨0, 0, _, by omega, rfl, rfl, hown0, (Below.refl _ _).alloc (Nat.le_refl _) _⟩
  case round =>
    clear hown0
    obtain ⟨k, cap, v, hk, rfl, rfl, hown, hbel⟩ := hrel
    by_cases hlt : k < l
    · obtain ⟨ba, oa, rfl, hba, hseg⟩ := ha.at (by omega)
      have hroom := ha.room
      have c0 : w.cell? ⟨ba, oa + k, none⟩ = some (.int .u32 (wd.dg u k)) := hseg.cell k _ (wd.dcells_at _ _ _ hlt)
      have c1 : wr.cell? ⟨ba, oa + k, none⟩ = some (.int .u32 (wd.dg u k)) := (hbel.cell (p := ⟨ba, oa + k, none⟩) hba).trans (hseg.cell k _ (wd.dcells_at _ _ _ hlt))
      have hsz := hbel.size
      have hba2 : ba < wr.heap.size := by omega
      obtain ⟨d0, d1⟩ := wd.dg_range u k
      have E1 : IntKind.i64.wrap ((wd.dg (u : Int) k).tmod 65536) = wd.dg u k % 65536 := by rw [Int.tmod_eq_emod_of_nonneg d0, IntKind.wrap_i64]; omega
      have E2 : IntKind.i64.wrap (IntKind.u32.wrap ((wd.dg (u : Int) k).tdiv 65536)) = wd.dg u k / 65536 := by rw [Int.tdiv_eq_ediv_of_nonneg d0, IntKind.wrap_u32', IntKind.wrap_i64]; omega
      have HN : Hid _ := fun w2 w4 g' cap' => ofRel_next (w2 := w2) (w4 := w4) (g' := g') (cap' := cap') hlt hown hbel
      go_wp2
      refine wp_region_held_drew (S := (fun w' => w'.cell? ⟨ba, oa + k, none⟩ = some (.int .u32 (wd.dg u k)) ∧ Below w.heap.size w w')) (by kernel_rfl) ?_ (fun hHeld => ?_)
      · first | exact ⟨c1, hbel⟩ | exact ⟨c1, hbel.drew⟩ | exact ⟨((hHeld.2.alloc hHeld.2.size _).cell (p := ⟨ba, oa + k, none⟩) hba).trans c0, hHeld.2.alloc hHeld.2.size _⟩ | exact ⟨((hbel.alloc hbel.size _).drew.cell (p := ⟨ba, oa + k, none⟩) hba).trans c0, (hbel.alloc hbel.size _).drew⟩
      refine take_yes (i := 0) (v := ?vo0) rfl (by kernel_rfl) (by kernel_rfl) (by kernel_rfl) (fun _ _ _ h => h) (by rfl) (by assumption) ?hyo0 ?resto0
      case hyo0 => (intro w hSw; (try dsimp only at hSw); first | (go_simp; done) | (go_simp; with_reducible rfl))
      simp only [Act.put, List.setIfInBounds_toArray, List.set_cons_zero, List.set_cons_succ]
      refine take_yes (i := 1) (v := ?vo1) rfl (by kernel_rfl) (by kernel_rfl) (by kernel_rfl) (fun _ _ _ h => h) (by rfl) (by assumption) ?hyo1 ?resto1
      case hyo1 => (intro w hSw; (try dsimp only at hSw); first | (go_simp; done) | (go_simp; with_reducible rfl))
      simp only [Act.put, List.setIfInBounds_toArray, List.set_cons_zero, List.set_cons_succ]
      refine take_yes (i := 2) (v := ?vo2) rfl (by kernel_rfl) (by kernel_rfl) (by kernel_rfl) (fun _ _ _ h => h) (by rfl) (by assumption) ?hyo2 ?resto2
      case hyo2 => (intro w hSw; (try dsimp only at hSw); first | (go_simp; done) | (go_simp; with_reducible rfl))
      simp only [Act.put, List.setIfInBounds_toArray, List.set_cons_zero, List.set_cons_succ]
      refine take_yes (i := 3) (v := ?vo3) rfl (by kernel_rfl) (by kernel_rfl) (by kernel_rfl) (fun _ _ _ h => h) (by rfl) (by assumption) ?hyo3 ?resto3
      case hyo3 => (intro w hSw; (try dsimp only at hSw); first | (go_simp; done) | (go_simp; with_reducible rfl))
      simp only [Act.put, List.setIfInBounds_toArray, List.set_cons_zero, List.set_cons_succ]
      refine take_yes (i := 4) (v := ?vo4) rfl (by kernel_rfl) (by kernel_rfl) (by kernel_rfl) (fun _ _ _ h => h) (by rfl) (by assumption) ?hyo4 ?resto4
      case hyo4 => (intro w hSw; (try dsimp only at hSw); first | (go_simp; done) | (go_simp; with_reducible rfl))
      simp only [Act.put, List.setIfInBounds_toArray, List.set_cons_zero, List.set_cons_succ]
      refine take_yes (i := 5) (v := ?vo5) rfl (by kernel_rfl) (by kernel_rfl) (by kernel_rfl) (fun _ _ _ h => h) (by rfl) (by assumption) ?hyo5 ?resto5
      case hyo5 => (intro w hSw; (try dsimp only at hSw); first | (go_simp; done) | (go_simp; with_reducible rfl))
      simp only [Act.put, List.setIfInBounds_toArray, List.set_cons_zero, List.set_cons_succ]
      refine take_yes (i := 6) (v := ?vo6) rfl (by kernel_rfl) (by kernel_rfl) (by kernel_rfl) (fun _ _ _ h => h) (by rfl) (by assumption) ?hyo6 ?resto6
      case hyo6 => (intro w hSw; (try dsimp only at hSw); first | (go_simp; done) | (go_simp; with_reducible rfl))
      simp only [Act.put, List.setIfInBounds_toArray, List.set_cons_zero, List.set_cons_succ]
      refine take_yes (i := 7) (v := ?vo7) rfl (by kernel_rfl) (by kernel_rfl) (by kernel_rfl) (fun _ _ _ h => h) (by rfl) (by assumption) ?hyo7 ?resto7
      case hyo7 => (intro w hSw; (try dsimp only at hSw); first | (go_simp; done) | (go_simp; with_reducible rfl))
      simp only [Act.put, List.setIfInBounds_toArray, List.set_cons_zero, List.set_cons_succ]
      refine take_yes (i := 8) (v := ?vo8) rfl (by kernel_rfl) (by kernel_rfl) (by kernel_rfl) (fun _ _ _ h => h) (by rfl) (by assumption) ?hyo8 ?resto8
      case hyo8 => (intro w hSw; (try dsimp only at hSw); first | (go_simp; done) | (go_simp; with_reducible rfl))
      simp only [Act.put, List.setIfInBounds_toArray, List.set_cons_zero, List.set_cons_succ]
      refine take_yes (i := 9) (v := ?vo9) rfl (by kernel_rfl) (by kernel_rfl) (by kernel_rfl) (fun _ _ _ h => h) (by rfl) (by assumption) ?hyo9 ?resto9
      case hyo9 => (intro w hSw; (try dsimp only at hSw); first | (go_simp; done) | (go_simp; with_reducible rfl))
      simp only [Act.put, List.setIfInBounds_toArray, List.set_cons_zero, List.set_cons_succ]
      refine take_yes (i := 10) (v := ?vo10) rfl (by kernel_rfl) (by kernel_rfl) (by kernel_rfl) (fun _ _ _ h => h) (by rfl) (by assumption) ?hyo10 ?resto10
      case hyo10 => (intro w hSw; (try dsimp only at hSw); first | (go_simp; done) | (go_simp; with_reducible rfl))
      simp only [Act.put, List.setIfInBounds_toArray, List.set_cons_zero, List.set_cons_succ]
      refine take_yes (i := 11) (v := ?vo11) rfl (by kernel_rfl) (by kernel_rfl) (by kernel_rfl) (fun _ _ _ h => h) (by rfl) (by assumption) ?hyo11 ?resto11
      case hyo11 => (intro w hSw; (try dsimp only at hSw); first | (go_simp; done) | (go_simp; with_reducible rfl))
      simp only [Act.put, List.setIfInBounds_toArray, List.set_cons_zero, List.set_cons_succ]
      refine take_yes (i := 12) (v := ?vo12) rfl (by kernel_rfl) (by kernel_rfl) (by kernel_rfl) (fun _ _ _ h => h) (by rfl) (by assumption) ?hyo12 ?resto12
      case hyo12 => (intro w hSw; (try dsimp only at hSw); first | (go_simp; done) | (go_simp; with_reducible rfl))
      simp only [Act.put, List.setIfInBounds_toArray, List.set_cons_zero, List.set_cons_succ]
      refine take_call (i := 13) rfl (by kernel_rfl) (fun K hK => ?_)
      go_simp
      refine hK.out _ _ ?_ (fun hHeld => ?_)
      · first | exact ⟨c1, hbel⟩ | exact ⟨c1, hbel.drew⟩ | exact ⟨((hHeld.2.alloc hHeld.2.size _).cell (p := ⟨ba, oa + k, none⟩) hba).trans c0, hHeld.2.alloc hHeld.2.size _⟩ | exact ⟨((hbel.alloc hbel.size _).drew.cell (p := ⟨ba, oa + k, none⟩) hba).trans c0, (hbel.alloc hbel.size _).drew⟩
      clear hK K
      refine take_call (i := 14) rfl (by kernel_rfl) (fun K hK => ?_)
      refine step_append_lies _ rfl (.tmp 12) (.tmp 25) 27 rfl w.heap.size 3 i0 (.int .i64 0) 1 8 Tryd.underlying27 hi0 hz0 hz1 hz2 rfl (by decide) (.slice v (2 * k) cap) (2 * k) (hf.dcells (2 * k) (u : Int)) rfl (World.ownsRow.alloc hown _) ⟨wr.heap.size, 0, none⟩ 2 2 [.int .i64 (wd.dg u k % 65536), .int .i64 (wd.dg u k / 65536)] rfl rfl (World.news_of_block (heap_alloc_new wr _)) (ints_oneCell .i64 [wd.dg u k % 65536, wd.dg u k / 65536]) (by decide) (by unfold maxLen; omega) (by omega) (by simp; omega) _ rfl ?_; intro g' cap' w4 hown4 hgrow4 hat4 hlt4
      refine hK.out _ _ ?_ (fun hHeld => ?_)
      · exact ⟨(((hHeld.2.grown hgrow4 (by simp; omega) (fun k' hk' => (World.ownsRow.lt hown k' hk').1))).cell (p := ⟨ba, oa + k, none⟩) hba).trans c0, hHeld.2.grown hgrow4 (by simp; omega) (fun k' hk' => (World.ownsRow.lt hown k' hk').1)⟩
      clear hK K
      refine take_yes (i := 15) (v := ?vo15) rfl (by kernel_rfl) (by kernel_rfl) (by kernel_rfl) (fun _ _ _ h => h) (by rfl) (by assumption) ?hyo15 ?resto15
      case hyo15 => (intro w hSw; (try dsimp only at hSw); first | (go_simp; done) | (go_simp; with_reducible rfl))
      simp only [Act.put, List.setIfInBounds_toArray, List.set_cons_zero, List.set_cons_succ]
      refine wpAnyH_done (by kernel_rfl) ?_ _
      go_wp2
      go_roundw
      case rel => exact HN.out _ w4 g' cap' hown4 ((Below.refl _ _).alloc (Nat.le_refl _) _).drew hgrow4
      case measure => simp [intOf]; omega
    · obtain rfl : k = l := by omega
      go_wp2_with (go_at_call 26; refine (rtrim_own _ _ _ u _ _ hown HU.out).mono ?_; rintro e w' ⟨rfl, hw, hown2⟩; subst hw)
      go_ret
      exact ⟨v, cap, rfl, hown2, hbel⟩
end Go.Proofs.YtjdphcdpgjdmkaaDoor

namespace Go.Proofs.YtjdphcdpgjdmkaaDoor
open Go.RowKit
set_option linter.unusedVariables false

theorem wd_half (u : Nat) (k : Nat) : wd.dg (u : Int) k = hf.dg u (2 * k) + 65536 * hf.dg u (2 * k + 1) := by
  have h := halves u k
  omega
/-- How many words digits make. -/
theorem wd_of_hf (u : Nat) : wd.nlen u = (hf.nlen u + 1) / 2 := by
  refine wd.nlen_eq ⟨?_, ?_⟩
  · rw [← pow_halves]
    exact Nat.lt_of_lt_of_le (hf.nlen_lt u) (Nat.pow_le_pow_right (by decide) (by omega))
  · rcases (hf.nlen_is u).2 with h | h
    · exact Or.inl (by rw [h])
    · rcases Nat.eq_zero_or_pos (hf.nlen u) with h0 | h0
      · exact Or.inl (by rw [h0])
      · right
        rw [← pow_halves]
        exact Nat.le_trans (Nat.pow_le_pow_right (by decide) (by omega)) h
/-- What holds at the head of each round. -/
def NatRel (w : World) (u l : Nat) (v i : Value) (wr : World) : Prop := ∃ (k cap : Nat) (a : Option Addr), 2 * k ≤ l + 1 ∧ i = .int .i64 (2 * (k : Int)) ∧ v = .slice a k cap ∧ Own wr w.heap.size 40 a k cap (wd.dcells k (u : Int)) ∧ Below w.heap.size w wr
theorem natRel_next {w wr w2 w4 : World} {u l k cap cap' g' : Nat} {a : Option Addr} {x : Int} (hx : x = wd.dg u k) (hk : 2 * k < l) (hown : Own wr w.heap.size 40 a k cap (wd.dcells k (u : Int))) (hbel : Below w.heap.size w wr)
    (h4 : w4.ownsRow w.heap.size 40 1 (.slice (some ⟨g', 0, none⟩) (k + 1) cap') (k + 1) (wd.dcells k (u : Int) ++ [.int .u32 x]))
    (h2 : Below wr.heap.size wr w2) (hgr : w2.grownBy w4 (Value.slice a k cap).ownBlock) : NatRel w u l (.slice (some ⟨g', 0, none⟩) (k + 1) cap') (.int .i64 (2 * (k : Int) + 2)) w4 := by
  have hs := hbel.size
  refine ⟨k + 1, cap', _, by omega, by simp; omega, rfl, ?_, (hbel.trans (h2.mono hs)).grown hgr (by have := h2.size; omega) (fun k' hk' => (World.ownsRow.lt hown k' hk').1)⟩
  rw [wd.dcells_succ, ← hx]
  exact h4
set_option maxRecDepth 100000 in
set_option maxHeartbeats 1000000 in
theorem rnat_any (a : Option Addr) (ca u : Nat) (w : World) (ha : Sl w a (hf.nlen u) ca (hf.dcells (hf.nlen u) (u : Int))) (hl : hf.nlen u ≤ 1000000000) :
    Calls Tryd.prog 14 #[.slice a (hf.nlen u) ca] w fun e w' => ∃ a' cap', e = .returned (.slice a' (wd.nlen u) cap') ∧ Own w' w.heap.size 40 a' (wd.nlen u) cap' (wd.dcells (wd.nlen u) (u : Int)) ∧ Below w.heap.size w w' := by
  obtain ⟨i0, hi0, hz0, hz1, hz2⟩ := info_parts infoWord
  have hown0 := own_empty w w.heap.size 40 (Nat.le_refl _)
  obtain ⟨l, hl'⟩ : ∃ l, hf.nlen u = l := ⟨_, rfl⟩
  have HW : Hid (wd.nlen u = (l + 1) / 2) := by unfold Hid; rw [wd_of_hf, hl']
  have HT : Hid (u < 65536 ^ l) := by unfold Hid; rw [← hl']; exact hf.nlen_lt u
  rw [hl'] at ha hl ⊢
  clear hl'
  go_enter Tryd.func14, Tryd.ntmps14
  go_wp2
  go_loopw [3, 4] (fun v i wr => NatRel w u l v i wr) (fun _ i _ => l + 1 - (intOf i).toNat)
  case atStart => exact ⟨0, 0, _, by omega, rfl, rfl, hown0, (Below.refl _ _).alloc (Nat.le_refl _) _⟩
  case round =>
    clear hown0
    obtain ⟨k, cap, v, hk, rfl, rfl, hown, hbel⟩ := hrel
    have hsz := hbel.size
    by_cases hlt : 2 * k < l
    · obtain ⟨ba, oa, rfl, hba, hseg⟩ := ha.at (by omega)
      have hroom := ha.room
      have c1 : wr.cell? ⟨ba, oa + 2 * k, none⟩ = some (.int .i64 (hf.dg u (2 * k))) := (hbel.cell (p := ⟨ba, oa + 2 * k, none⟩) hba).trans (hseg.cell (2 * k) _ (hf.dcells_at _ _ _ hlt))
      obtain ⟨d0, d1⟩ := hf.dg_range u (2 * k)
      have hlt' : (2 * (k : Int)) < l := by omega
      by_cases hl2 : 2 * k + 1 < l
      · have hl2' : (2 * (k : Int)) + 1 < l := by omega
        have c2 : wr.cell? ⟨ba, oa + (2 * k + 1), none⟩ = some (.int .i64 (hf.dg u (2 * k + 1))) := (hbel.cell (p := ⟨ba, oa + (2 * k + 1), none⟩) hba).trans (hseg.cell (2 * k + 1) _ (hf.dcells_at _ _ _ hl2))
        obtain ⟨e0, e1⟩ := hf.dg_range u (2 * k + 1)
        have HN : Hid _ := fun w2 w4 g' cap' => natRel_next (x := hf.dg u (2 * k) + 65536 * hf.dg u (2 * k + 1)) (w2 := w2) (w4 := w4) (g' := g') (cap' := cap') (wd_half u k).symm hlt hown hbel
        go_wp2_with (at_builtin; refine wpList_append_lies _ rfl (.tmp 30) (.tmp 33) 23 rfl w.heap.size 40 i0 (.int .u32 0) 1 4 Tryd.underlying23 hi0 hz0 hz1 hz2 rfl (by decide) (.slice v k cap) k (wd.dcells k (u : Int)) rfl (World.ownsRow.alloc hown _) ⟨wr.heap.size, 0, none⟩ 1 1 [.int .u32 (hf.dg u (2 * k) + 65536 * hf.dg u (2 * k + 1))] rfl rfl (cell_one_new _ _ _) (ints_oneCell .u32 [hf.dg u (2 * k) + 65536 * hf.dg u (2 * k + 1)]) (by decide) (by unfold maxLen; omega) (by omega) (by simp; omega) _ rfl ?_; intro g' cap' w4 hown4 hgrow4 hat4 hlt4)
        go_roundw
        case rel => exact HN.out _ w4 g' cap' hown4 ((Below.refl _ _).alloc (Nat.le_refl _) _) hgrow4
        case measure => simp [intOf]; omega
      · have hl2' : ¬ (2 * (k : Int)) + 1 < l := by omega
        have HX : Hid (hf.dg (u : Int) (2 * k) = wd.dg u k) := by
          have : hf.dg (u : Int) (2 * k + 1) = 0 := hf.dg_over (Nat.lt_of_lt_of_le HT.out (Nat.pow_le_pow_right (by decide) (by omega)))
          have h := wd_half u k
          unfold Hid
          omega
        have HN : Hid _ := fun w2 w4 g' cap' => natRel_next (x := hf.dg u (2 * k)) (w2 := w2) (w4 := w4) (g' := g') (cap' := cap') HX.out hlt hown hbel
        go_wp2_with (at_builtin; refine wpList_append_lies _ rfl (.tmp 30) (.tmp 33) 23 rfl w.heap.size 40 i0 (.int .u32 0) 1 4 Tryd.underlying23 hi0 hz0 hz1 hz2 rfl (by decide) (.slice v k cap) k (wd.dcells k (u : Int)) rfl (World.ownsRow.alloc hown _) ⟨wr.heap.size, 0, none⟩ 1 1 [.int .u32 (hf.dg u (2 * k))] rfl rfl (cell_one_new _ _ _) (ints_oneCell .u32 [hf.dg u (2 * k)]) (by decide) (by unfold maxLen; omega) (by omega) (by simp; omega) _ rfl ?_; intro g' cap' w4 hown4 hgrow4 hat4 hlt4)
        go_roundw
        case rel => exact HN.out _ w4 g' cap' hown4 ((Below.refl _ _).alloc (Nat.le_refl _) _) hgrow4
        case measure => simp [intOf]; omega
    · have HE : Hid (wd.nlen u = k) := by unfold Hid; rw [HW.out]; omega
      have hlt' : ¬ (2 * (k : Int)) < l := by omega
      go_wp2
      go_ret
      rw [HE.out]
      exact ⟨v, cap, rfl, hown, hbel⟩
end Go.Proofs.YtjdphcdpgjdmkaaDoor

namespace Go.Proofs.YtjdphcdpgjdmkaaDoor
open Go.RowKit
set_option linter.unusedVariables false

set_option maxRecDepth 100000 in
set_option maxHeartbeats 1000000 in
theorem same_yes (a b : Option Addr) (ca cb u : Nat) (w : World) (ha : Sl w a (wd.nlen u) ca (wd.dcells (wd.nlen u) (u : Int))) (hb : Sl w b (hf.nlen u) cb (hf.dcells (hf.nlen u) (u : Int))) (hl : hf.nlen u ≤ 1000000000) :
    Calls Tryd.prog 6 #[.slice a (wd.nlen u) ca, .slice b (hf.nlen u) cb] w fun e w' => e = .returned (.bool true) ∧ Below w.heap.size w w' := by
  have hm : wd.nlen u ≤ 1000000000 := by have := wd_of_hf u; omega
  go_enter Tryd.func6, Tryd.ntmps6
  go_wp2_with (go_at_call 14; refine (rnat_any b cb u _ hb hl).mono ?_; rintro e w1 ⟨a1, c1, rfl, hown, hbel⟩)
  go_loopw [6] (fun i wr => ∃ k : Nat, k ≤ wd.nlen u ∧ i = .int .i64 (k : Int) ∧ ∃ n, wr = w1.drewN n) (fun i _ => wd.nlen u - (intOf i).toNat)
  case atStart => exact ⟨0, by omega, rfl, 0, rfl⟩
  case round =>
    obtain ⟨k, hk, rfl, n, rfl⟩ := hrel
    by_cases hlt : k < wd.nlen u
    · obtain ⟨ba, oa, rfl, hba, hseg⟩ := ha.at (by omega)
      have hroom := ha.room
      obtain ⟨g, rfl, hg, hg2, hsg⟩ := Own.at hown (by omega)
      have hroom2 := (Own.sl hown).room
      have q1 : w1.cell? ⟨ba, oa + k, none⟩ = some (.int .u32 (wd.dg u k)) := (hbel.cell (p := ⟨ba, oa + k, none⟩) hba).trans (hseg.cell k _ (wd.dcells_at _ _ _ hlt))
      have q2 : w1.cell? ⟨g, k, none⟩ = some (.int .u32 (wd.dg u k)) := Own.cell hown k _ (wd.dcells_at _ _ _ hlt)
      have hne : (wd.dg (u : Int) k != wd.dg (u : Int) k) = false := by simp
      go_wp2
      go_quiet (fail)
      go_wp2
      go_roundw
      case rel => exact ⟨k + 1, by omega, by simp, _, rfl⟩
      case measure => simp [intOf]; omega
    · go_wp2
      go_ret
      exact ⟨rfl, below_drewN hbel n⟩
end Go.Proofs.YtjdphcdpgjdmkaaDoor

namespace Go.Proofs.YtjdphcdpgjdmkaaDoor
open Go.RowKit Go.Shelf
set_option linter.unusedVariables false
attribute [local go_sem] Oper.semAt_some

/-- What has come when r are left: p, p - 1, .., r. -/
def dn (p r : Nat) : List (Fin (p + 1)) := (List.range (p + 1 - r)).map fun j => ⟨p - j, by omega⟩
theorem dn_start (p : Nat) : dn p (p + 1) = [] := by simp [dn]
theorem dn_next (p q : Nat) (h : q < p + 1) : dn p q = dn p (q + 1) ++ [⟨q, h⟩] := by
  unfold dn
  rw [show p + 1 - q = (p + 1 - (q + 1)) + 1 by omega, List.range_succ, List.map_append]
  congr 1
  simp
  omega
theorem dn_length (p r : Nat) : (dn p r).length = p + 1 - r := by simp [dn]
theorem dn_mem (p r : Nat) (x : Fin (p + 1)) : x ∈ dn p r ↔ r ≤ x.1 := by
  unfold dn
  simp only [List.mem_map, List.mem_range]
  refine ⟨fun ⟨j, hj, e⟩ => by rw [← e]; show r ≤ p - j; omega, fun h => ⟨p - x.1, by have := x.2; omega, by have := x.2; apply Fin.ext; show p - (p - x.1) = x.1; omega⟩⟩

set_option maxRecDepth 100000 in
set_option maxHeartbeats 2000000 in
theorem backward1_in (F : Fence) (n : Nat) (h7 : F.fn 44) (hro : F.round = none) (hn : 1 ≤ n) (l Bs n₀ b off p cap u : Nat) (hcap : p + 1 ≤ cap) (hreach : cap ≤ 9223372036854775807) (hb : b < n₀) (J Jx : List (Fin (p + 1)) → World → Prop)
    (hY : ∀ pre x W, J pre W → pre.length < p + 1 → YieldAt F (n - 1) Tryd.prog l #[.int .i64 ((x.1 : Nat) : Int), .int .u32 (wd.dg u x.1)] W fun e W' =>
      (e = .returned (.bool true) ∧ J (pre ++ [x]) W' ∧ Below n₀ W W') ∨ (e = .returned (.bool false) ∧ Jx (pre ++ [x]) W'))
    (W : World) (hBs : W.cell? ⟨Bs, 0, none⟩ = some (.slice (some ⟨b, off, none⟩) (p + 1) cap)) (hBn : Bs < n₀) (hc : Seg W b off (wd.dcells (p + 1) u)) (h0 : J [] W) :
    CallsIn F n Tryd.prog 44 #[.func (.yield l) #[] #[], .pointer (some ⟨Bs, 0, none⟩)] W fun e W' => (∃ v, e = .returned v) ∧
      ((∃ ys, ys = dn p 0 ∧ J ys W') ∨ (∃ pre, (∃ r, r ≤ p ∧ pre = dn p r) ∧ Jx pre W')) := by
  refine callsIn_of_wp Tryd.func44 rfl h7 ?_ hro
  simp only [Tryd.ntmps44, List.size_toArray, List.length_cons, List.length_nil, Nat.reduceAdd, Nat.reduceSub, Array.replicate_succ, Array.replicate_zero, List.push_toArray, List.append_toArray, List.nil_append, List.cons_append]
  gi_wp2
  gi_loopw [3] (fun i wr => ∃ r : Nat, r ≤ p + 1 ∧ i = .int .i64 ((r : Int) - 1) ∧ J (dn p r) wr ∧ Below n₀ W wr)
    (fun i _ => (intOf i + 1).toNat)
  case atStart => exact ⟨p + 1, Nat.le_refl _, by go_num, by rw [dn_start]; exact h0, Below.refl _ _⟩
  case round =>
    obtain ⟨r, hr, rfl, hJs, hnx⟩ := hrel
    have hBx : wr.cell? ⟨Bs, 0, none⟩ = some (.slice (some ⟨b, off, none⟩) (p + 1) cap) := (hnx.cell (p := ⟨Bs, 0, none⟩) hBn).trans hBs
    rcases r with _ | q
    · gi_wp2
      go_end0
      exact ⟨⟨_, rfl⟩, .inl ⟨_, rfl, hJs⟩⟩
    · have hcx : wr.cell? ⟨b, off + q, none⟩ = some (.int .u32 (wd.dg u q)) := (hnx.cell (p := ⟨b, off + q, none⟩) hb).trans (hc.cell q _ (wd.dcells_at _ _ _ (by omega)))
      obtain ⟨fn, tmps, assign, body, hy, hR⟩ := hY _ ⟨q, by omega⟩ wr hJs (by rw [dn_length]; omega)
      dsimp only at hy
      have e1 : ((q + 1 : Nat) : Int) - 1 = (q : Int) := by omega
      gi_wp2
      refine hR.mono ?_
      rintro e W3 (⟨rfl, hJ3, hk3⟩ | ⟨rfl, hJx3⟩)
      · -- THE ROUND GOES ON
        gi_wp2
        go_roundw
        case rel => exact ⟨q, by omega, by go_num, by rw [dn_next p q (by omega)]; exact hJ3, hnx.trans hk3⟩
        case measure => simp [intOf]
      · gi_wp2
        refine bodyPost_ret (results_none rfl _ _ _) rfl ?_
        exact ⟨⟨_, rfl⟩, .inr ⟨_, ⟨q, by omega, (dn_next p q (by omega)).symm⟩, hJx3⟩⟩

set_option maxHeartbeats 1000000 in
theorem backward_in (F : Fence) (n : Nat) (h5 : F.fn 31) (hro : F.round = none) (a : Option Addr) (len cap : Nat) (w : World) :
    CallsIn F n Tryd.prog 31 #[.slice a len cap] w fun e w' => e = .returned (.func (.func 44) #[] #[.pointer (some ⟨w.heap.size, 0, none⟩)]) ∧ w' = w.alloc (.cells #[.slice a len cap] 23) := by
  refine callsIn_of_wp Tryd.func31 rfl h5 ?_ hro
  simp only [Tryd.ntmps31, List.size_toArray, List.length_cons, List.length_nil, Nat.reduceAdd, Nat.reduceSub, Array.replicate_succ, Array.replicate_zero, List.push_toArray, List.append_toArray, List.nil_append, List.cons_append]
  gi_wp2
  go_ret
  exact ⟨rfl, rfl⟩

theorem backward_stops (F : Fence) (n : Nat) (h7 : F.fn 44) (hro : F.round = none) (hn : 1 ≤ n) (Bs n₀ p cap u : Nat) (a : Option Addr) (w : World) (hBs : Bs < w.heap.size) (hn₀ : n₀ ≤ w.heap.size) (hBn : Bs < n₀)
    (hc : w.cell? ⟨Bs, 0, none⟩ = some (.slice a (p + 1) cap)) (b off : Nat) (ha : a = some ⟨b, off, none⟩) (hb : b < n₀) (hcap : p + 1 ≤ cap) (hreach : cap ≤ 9223372036854775807) (hI : Seg w b off (wd.dcells (p + 1) u)) :
    SeqStopsK F n Tryd.prog 44 #[.pointer (some ⟨Bs, 0, none⟩)] (fun x : Fin (p + 1) => #[Value.int .i64 ((x.1 : Nat) : Int), Value.int .u32 (wd.dg u x.1)]) (Below n₀) (fun ys => ys = dn p 0)
      (fun pre => ∃ r, r ≤ p ∧ pre = dn p r) (p + 1) w := fun l J Jx W hW _ _ hY h0 => by
  subst ha
  have hc' := (hW.cell (p := ⟨Bs, 0, none⟩) hBs).trans hc
  exact backward1_in F n h7 hro hn l Bs n₀ b off p cap u hcap hreach hb J Jx hY W hc' hBn (hI.below hW (by omega)) h0
set_option maxRecDepth 100000 in
set_option maxHeartbeats 1000000 in
/-- .. at a slice without elements: no round. -/
theorem backward_nil_stops (F : Fence) (n : Nat) (h7 : F.fn 44) (hro : F.round = none) (Bs n₀ cap : Nat) (a : Option Addr) (w : World) (hBs : Bs < w.heap.size) (hc : w.cell? ⟨Bs, 0, none⟩ = some (.slice a 0 cap)) (enc : Empty → Array Value) :
    SeqStopsK F n Tryd.prog 44 #[.pointer (some ⟨Bs, 0, none⟩)] enc (Below n₀) (fun ys => ys = []) (fun _ => True) 0 w := fun l J Jx W hW _ _ hY h0 => by
  have hc' := (hW.cell (p := ⟨Bs, 0, none⟩) hBs).trans hc
  refine callsIn_of_wp Tryd.func44 rfl h7 ?_ hro
  simp only [Tryd.ntmps44, List.size_toArray, List.length_cons, List.length_nil, Nat.reduceAdd, Nat.reduceSub, Array.replicate_succ, Array.replicate_zero, List.push_toArray, List.append_toArray, List.nil_append, List.cons_append]
  gi_wp2
  gi_loopw [3] (fun i wr => i = .int .i64 (-1) ∧ J [] wr) (fun _ _ => 0)
  case atStart => exact ⟨rfl, h0⟩
  case round =>
    obtain ⟨rfl, hJs⟩ := hrel
    gi_wp2
    go_end0
    exact ⟨⟨_, rfl⟩, .inl ⟨_, rfl, hJs⟩⟩
end Go.Proofs.YtjdphcdpgjdmkaaDoor

namespace Go.Proofs.YtjdphcdpgjdmkaaDoor
open Go.RowKit Go.Shelf
set_option linter.unusedVariables false
attribute [local go_sem] Oper.semAt_some

/-- -1, 0 or 1. -/
def cmpI (x y : Int) : Int := if x < y then -1 else if y < x then 1 else 0
theorem cmpInt_any (x y : Int) (w : World) :
    Calls Tryd.prog 30 #[.int .i64 x, .int .i64 y] w fun e w' => e = .returned (.int .i64 (cmpI x y)) ∧ w = w' := by
  unfold cmpI
  go_enter Tryd.func30, Tryd.ntmps30
  go_wp2
  all_goals (go_ret; exact ⟨rfl, rfl⟩)
theorem cmpWord_any (x y : Int) (w : World) :
    Calls Tryd.prog 32 #[.int .u32 x, .int .u32 y] w fun e w' => e = .returned (.int .i64 (cmpI x y)) ∧ w = w' := by
  unfold cmpI
  go_enter Tryd.func32, Tryd.ntmps32
  go_wp2
  all_goals (go_ret; exact ⟨rfl, rfl⟩)
/-- Equal from place k on. -/
theorem top_eq {u v m k : Nat} (hk : k ≤ m) (hu : u < 4294967296 ^ m) (hv : v < 4294967296 ^ m) (h : ∀ j, k ≤ j → j < m → wd.dg (u : Int) j = wd.dg (v : Int) j) : u / 4294967296 ^ k = v / 4294967296 ^ k := by
  have hlt : ∀ x : Nat, x < 4294967296 ^ m → x / 4294967296 ^ k < 4294967296 ^ (m - k) := fun x hx => by
    refine Nat.div_lt_of_lt_mul ?_
    rw [← Nat.pow_add, show k + (m - k) = m by omega]
    exact hx
  refine wd.eq_of_dcells (m - k) _ _ (hlt u hu) (hlt v hv) fun j hj => ?_
  rw [Int.natCast_ediv, Int.natCast_ediv, wd.pow_cast, wd.dg_div, wd.dg_div]
  exact h _ (by omega) (by omega)

theorem strip_len (m : Nat) (a : Option Addr) (l cap u : Nat) (w : World) (hs : Sl w a l cap (wd.dcells l (u : Int))) (hu : u < 4294967296 ^ l) (hm : wd.nlen u = m) :
    Calls Tryd.prog 29 #[.slice a l cap] w fun e w' => ∃ a' cap', e = .returned (.slice a' m cap') ∧ w = w' ∧ Cut a l cap a' m cap' := by
  subst hm
  exact strip_any a l cap u w hs hu
set_option maxRecDepth 100000 in
set_option maxHeartbeats 2000000 in
theorem cmp_ne (a b : Option Addr) (la lb ca cb u v m1 m2 : Nat) (w : World) (ha : Sl w a la ca (wd.dcells la (u : Int))) (hu : u < 4294967296 ^ la) (hb : Sl w b lb cb (wd.dcells lb (v : Int))) (hv : v < 4294967296 ^ lb) (h1 : Hid (wd.nlen u = m1)) (h2 : Hid (wd.nlen v = m2)) (hne : m1 ≠ m2) (HC : Hid (cmpI (m1 : Int) m2 = cmpI u v)) :
    Calls Tryd.prog 11 #[.slice a la ca, .slice b lb cb] w fun e w' => e = .returned (.int .i64 (cmpI u v)) ∧ Below w.heap.size w w' := by
  refine callsIn_wide.1 (callsIn_of_wp_marks (F := Fence.wide) (n := 4) Tryd.func11 rfl trivial ?_ rfl)
  simp only [Tryd.ntmps11, List.size_toArray, List.length_cons, List.length_nil, Nat.reduceAdd, Nat.reduceSub, Array.replicate_succ, Array.replicate_zero, List.push_toArray, List.append_toArray, List.nil_append, List.cons_append]
  refine wpIn_wide.2 ?_
  have hB0 : Below w.heap.size w ((w.alloc (.cells #[.slice b lb cb] 23)).alloc (.cells #[.int .i64 0] 3)) := ((Below.refl _ _).alloc (Nat.le_refl _) _).alloc (by simp) _
  go_wp2
  refine wp_region_noPanic ?_
  go_region_with (first
    | (go_at_call_of 29 [Value.slice a la ca]; refine (strip_len m1 a la ca u _ (ha.below (by first | exact hB0 | exact hB0.drew | exact hB0.drew.drew)) hu h1.out).mono ?_; rintro e w' ⟨a1, ca1, rfl, hw, hcut1⟩; subst hw)
    | (go_at_call 29; refine (strip_len m2 b lb cb v _ (hb.below (by first | exact hB0 | exact hB0.drew | exact hB0.drew.drew)) hv h2.out).mono ?_; rintro e w' ⟨b1, cb1, rfl, hw, hcut2⟩; subst hw))
  all_goals
    refine NoPanic.normal ?_
    go_wp2_with (go_at_call 30; refine (cmpInt_any _ _ _).mono ?_; rintro e w' ⟨rfl, hw⟩; subst hw)
    refine ⟨.int .i64 (cmpI m1 m2), by simp [results, Tryd.results11, go_sem], by rw [HC.out], ?_⟩
    exact (((Below.refl _ _).alloc (Nat.le_refl _) _).alloc (by simp) _).drew

set_option maxRecDepth 100000 in
set_option maxHeartbeats 2000000 in
theorem cmp_zero (a b : Option Addr) (la lb ca cb u v : Nat) (w : World) (ha : Sl w a la ca (wd.dcells la (u : Int))) (hu : u < 4294967296 ^ la) (hb : Sl w b lb cb (wd.dcells lb (v : Int))) (hv : v < 4294967296 ^ lb) (h1 : Hid (wd.nlen u = 0)) (h2 : Hid (wd.nlen v = 0)) (HC : Hid (0 = cmpI u v)) :
    Calls Tryd.prog 11 #[.slice a la ca, .slice b lb cb] w fun e w' => e = .returned (.int .i64 (cmpI u v)) ∧ Below w.heap.size w w' := by
  refine callsIn_wide.1 (callsIn_of_wp_marks (F := Fence.wide) (n := 4) Tryd.func11 rfl trivial ?_ rfl)
  simp only [Tryd.ntmps11, List.size_toArray, List.length_cons, List.length_nil, Nat.reduceAdd, Nat.reduceSub, Array.replicate_succ, Array.replicate_zero, List.push_toArray, List.append_toArray, List.nil_append, List.cons_append]
  refine wpIn_wide.2 ?_
  have hB0 : Below w.heap.size w ((w.alloc (.cells #[.slice b lb cb] 23)).alloc (.cells #[.int .i64 0] 3)) := ((Below.refl _ _).alloc (Nat.le_refl _) _).alloc (by simp) _
  go_wp2
  refine wp_region_noPanic ?_
  go_region_with (first
    | (go_at_call_of 29 [Value.slice a la ca]; refine (strip_len 0 a la ca u _ (ha.below (by first | exact hB0 | exact hB0.drew | exact hB0.drew.drew)) hu h1.out).mono ?_; rintro e w' ⟨a1, ca1, rfl, hw, hcut1⟩; subst hw)
    | (go_at_call 29; refine (strip_len 0 b lb cb v _ (hb.below (by first | exact hB0 | exact hB0.drew | exact hB0.drew.drew)) hv h2.out).mono ?_; rintro e w' ⟨b1, cb1, rfl, hw, hcut2⟩; subst hw))
  all_goals
    refine NoPanic.normal ?_
    go_wp2_with (go_at_call 31; refine (callsIn_wide.1 (backward_in Fence.wide 3 trivial rfl _ _ _ _)).mono ?_; rintro e w' ⟨rfl, hw⟩; have hw := hw.symm; subst hw)
    have hB1 : Below w.heap.size w ((((w.alloc (.cells #[.slice b1 0 cb1] 23)).alloc (.cells #[.int .i64 0] 3)).alloc (.cells #[.slice a1 0 ca1] 23)).drew) := ((((Below.refl _ _).alloc (Nat.le_refl _) _).alloc (by simp) _).alloc (by simp; omega) _).drew
    have bR : Boxed ((((w.alloc (.cells #[.slice b1 0 cb1] 23)).alloc (.cells #[.int .i64 0] 3)).alloc (.cells #[.slice a1 0 ca1] 23)).drew) (w.heap.size + 1) 3 (.int .i64 0) := by
      have := (Boxed.new (w.alloc (.cells #[.slice b1 0 cb1] 23)) 3 (.int .i64 0)).alloc (.cells #[.slice a1 0 ca1] 23)
      rw [World.size_alloc] at this
      exact this
    have bA : Boxed ((((w.alloc (.cells #[.slice b1 0 cb1] 23)).alloc (.cells #[.int .i64 0] 3)).alloc (.cells #[.slice a1 0 ca1] 23)).drew) (w.heap.size + 1 + 1) 23 (.slice a1 0 ca1) := by
      have := Boxed.new ((w.alloc (.cells #[.slice b1 0 cb1] 23)).alloc (.cells #[.int .i64 0] 3)) 23 (.slice a1 0 ca1)
      rw [World.size_alloc, World.size_alloc] at this
      exact this
    refine (wpIn_wide (n := 4)).1 ?_
    refine wpIn_rangeFunc_ownG (α := Empty) rfl (by decide) (gf := 44) (lb := #[.pointer (some ⟨w.heap.size + 1 + 1, 0, none⟩)]) rfl trivial (enters_of Tryd.func44 (by kernel_rfl) rfl)
      (backward_nil_stops Fence.wide 3 trivial rfl (w.heap.size + 1 + 1) w.heap.size ca1 a1 _ (by simp) bA.cell (fun x => x.elim)) belowK_t (belowK_b (by simp; omega)) (Below.refl _ _) (fun x => x.elim)
      (fun _ W => (W.cell? ⟨w.heap.size + 1, 0, none⟩ = some (.int .i64 0) ∧ W.frozen? ⟨w.heap.size + 1, 0, none⟩ = false) ∧ Below w.heap.size w W)
      (fun _ _ _ => False)
      (OwnFrom.and (Own.from (fun s A B row hs hg hr => ⟨cell_kept hs.1 hg hr, (frozen_kept hs.1 hg hr).trans hs.2⟩) _) (ownFrom_below (Nat.le_refl _) (by simp; omega)))
      (fun _ _ _ _ _ hs _ _ => hs)
      ⟨⟨bR.cell, bR.frozen⟩, hB1⟩
      (fun x => x.elim) ?assign ?body ?done ?stop
    case assign => intro l x; exact x.elim
    case body => intro l pre x; exact x.elim
    case done =>
      rintro D ys W hD rfl ⟨⟨hcr, hfr⟩, hB⟩ hK
      go_wp2
      have hK' := (KeepsOthers.setCell W ⟨w.heap.size + 1, 0, none⟩ (.int .i64 0)).same D _ hK rfl
      refine ⟨by simp, .inl ⟨_, _, rfl, run_takeDeferred hK', ?_⟩⟩
      have hc5 := cell_kept (World.cell?_setCell_same' W ⟨w.heap.size + 1, 0, none⟩ (.int .i64 0) (by rw [hcr]; rfl)) (grownBy_putObj' _ D (.deferred none)) (fun r e => by cases e; exact ⟨_, hK', rfl⟩)
      refine ⟨.int .i64 0, ?_, by rw [← HC.out], (hB.setCell (p := ⟨w.heap.size + 1, 0, none⟩) (by simp) _).trans (belowK_b (w := w) (Nat.le_refl _) _ D _ _ (by simp at hD; omega) hK' rfl rfl)⟩
      simp [results, Tryd.results11, go_sem, hc5]
    case stop =>
      rintro D c pre W _ _ h _
      exact h.elim
end Go.Proofs.YtjdphcdpgjdmkaaDoor

namespace Go.Proofs.YtjdphcdpgjdmkaaDoor
open Go.RowKit Go.Shelf
set_option linter.unusedVariables false
attribute [local go_sem] Oper.semAt_some

theorem cmp_words {u v : Nat} {k : Nat} (h : u / 4294967296 ^ (k + 1) = v / 4294967296 ^ (k + 1)) (hne : wd.dg (u : Int) k ≠ wd.dg (v : Int) k) : cmpI (wd.dg (u : Int) k) (wd.dg (v : Int) k) = cmpI u v := by
  unfold cmpI
  rcases Int.lt_or_gt_of_ne hne with l | l
  · have := wd.lt_of_top h l
    rw [if_pos l, if_pos (by omega)]
  · have := wd.lt_of_top h.symm l
    rw [if_neg (by omega), if_pos l, if_neg (by omega), if_pos (by omega)]
theorem cmpI_self (x : Int) : cmpI x x = 0 := by unfold cmpI; simp

set_option maxRecDepth 100000 in
set_option maxHeartbeats 4000000 in
theorem cmp_eq (a b : Option Addr) (la lb ca cb u v p : Nat) (w : World) (ha : Sl w a la ca (wd.dcells la (u : Int))) (hu : u < 4294967296 ^ la) (hb : Sl w b lb cb (wd.dcells lb (v : Int))) (hv : v < 4294967296 ^ lb) (h1 : Hid (wd.nlen u = p + 1)) (h2 : Hid (wd.nlen v = p + 1)) :
    Calls Tryd.prog 11 #[.slice a la ca, .slice b lb cb] w fun e w' => e = .returned (.int .i64 (cmpI u v)) ∧ Below w.heap.size w w' := by
  have HU : Hid (u < 4294967296 ^ (p + 1)) := by have := wd.nlen_lt u; rwa [h1.out] at this
  have HV : Hid (v < 4294967296 ^ (p + 1)) := by have := wd.nlen_lt v; rwa [h2.out] at this
  refine callsIn_wide.1 (callsIn_of_wp_marks (F := Fence.wide) (n := 4) Tryd.func11 rfl trivial ?_ rfl)
  simp only [Tryd.ntmps11, List.size_toArray, List.length_cons, List.length_nil, Nat.reduceAdd, Nat.reduceSub, Array.replicate_succ, Array.replicate_zero, List.push_toArray, List.append_toArray, List.nil_append, List.cons_append]
  refine wpIn_wide.2 ?_
  have hB0 : Below w.heap.size w ((w.alloc (.cells #[.slice b lb cb] 23)).alloc (.cells #[.int .i64 0] 3)) := ((Below.refl _ _).alloc (Nat.le_refl _) _).alloc (by simp) _
  go_wp2
  refine wp_region_noPanic ?_
  go_region_with (first
    | (go_at_call_of 29 [Value.slice a la ca]; refine (strip_len (p + 1) a la ca u _ (ha.below (by first | exact hB0 | exact hB0.drew | exact hB0.drew.drew)) hu h1.out).mono ?_; rintro e w' ⟨a1, ca1, rfl, hw, hcut1⟩; subst hw)
    | (go_at_call 29; refine (strip_len (p + 1) b lb cb v _ (hb.below (by first | exact hB0 | exact hB0.drew | exact hB0.drew.drew)) hv h2.out).mono ?_; rintro e w' ⟨b1, cb1, rfl, hw, hcut2⟩; subst hw))
  all_goals
    refine NoPanic.normal ?_
    go_wp2_with (go_at_call 31; refine (callsIn_wide.1 (backward_in Fence.wide 3 trivial rfl _ _ _ _)).mono ?_; rintro e w' ⟨rfl, hw⟩; have hw := hw.symm; subst hw)
    have hs1 := hcut1.sl ha
    have hs2 := hcut2.sl hb
    obtain ⟨ba, oa, rfl, hba, hsa⟩ := hs1.at (by omega)
    obtain ⟨bb, ob, rfl, hbb, hsb⟩ := hs2.at (by omega)
    have k1 := hs1.room
    have k2 := hs1.big
    have k3 := hs2.room
    have k4 := hs2.big
    unfold maxLen at k2 k4
    clear hs1 hs2 hcut1 hcut2
    have hB1 : Below w.heap.size w ((((w.alloc (.cells #[.slice (some ⟨bb, ob, none⟩) (p + 1) cb1] 23)).alloc (.cells #[.int .i64 0] 3)).alloc (.cells #[.slice (some ⟨ba, oa, none⟩) (p + 1) ca1] 23)).drew) := ((((Below.refl _ _).alloc (Nat.le_refl _) _).alloc (by simp) _).alloc (by simp; omega) _).drew
    have bB : Boxed ((((w.alloc (.cells #[.slice (some ⟨bb, ob, none⟩) (p + 1) cb1] 23)).alloc (.cells #[.int .i64 0] 3)).alloc (.cells #[.slice (some ⟨ba, oa, none⟩) (p + 1) ca1] 23)).drew) w.heap.size 23 (.slice (some ⟨bb, ob, none⟩) (p + 1) cb1) :=
      ((Boxed.new w 23 (.slice (some ⟨bb, ob, none⟩) (p + 1) cb1)).alloc (.cells #[.int .i64 0] 3)).alloc (.cells #[.slice (some ⟨ba, oa, none⟩) (p + 1) ca1] 23)
    have bR : Boxed ((((w.alloc (.cells #[.slice (some ⟨bb, ob, none⟩) (p + 1) cb1] 23)).alloc (.cells #[.int .i64 0] 3)).alloc (.cells #[.slice (some ⟨ba, oa, none⟩) (p + 1) ca1] 23)).drew) (w.heap.size + 1) 3 (.int .i64 0) := by
      have := (Boxed.new (w.alloc (.cells #[.slice (some ⟨bb, ob, none⟩) (p + 1) cb1] 23)) 3 (.int .i64 0)).alloc (.cells #[.slice (some ⟨ba, oa, none⟩) (p + 1) ca1] 23)
      rw [World.size_alloc] at this
      exact this
    have bA : Boxed ((((w.alloc (.cells #[.slice (some ⟨bb, ob, none⟩) (p + 1) cb1] 23)).alloc (.cells #[.int .i64 0] 3)).alloc (.cells #[.slice (some ⟨ba, oa, none⟩) (p + 1) ca1] 23)).drew) (w.heap.size + 1 + 1) 23 (.slice (some ⟨ba, oa, none⟩) (p + 1) ca1) := by
      have := Boxed.new ((w.alloc (.cells #[.slice (some ⟨bb, ob, none⟩) (p + 1) cb1] 23)).alloc (.cells #[.int .i64 0] 3)) 23 (.slice (some ⟨ba, oa, none⟩) (p + 1) ca1)
      rw [World.size_alloc, World.size_alloc] at this
      exact this
    refine (wpIn_wide (n := 4)).1 ?_
    refine wpIn_rangeFunc_ownG (α := Fin (p + 1)) rfl (by decide) (gf := 44) (lb := #[.pointer (some ⟨w.heap.size + 1 + 1, 0, none⟩)]) rfl trivial (enters_of Tryd.func44 (by kernel_rfl) rfl)
      (backward_stops Fence.wide 3 trivial rfl (by decide) (w.heap.size + 1 + 1) (w.heap.size + 1 + 1 + 1) p ca1 u _ _ (by simp) (by simp) (by omega) bA.cell ba oa rfl (by omega) k1 (by omega) (hsa.below hB1 hba)) belowK_t (belowK_b (by simp)) (Below.refl _ _) (fun _ => rfl)
      (fun pre W => (W.cell? ⟨w.heap.size, 0, none⟩ = some (.slice (some ⟨bb, ob, none⟩) (p + 1) cb1) ∧ W.cell? ⟨w.heap.size + 1, 0, none⟩ = some (.int .i64 0) ∧ W.frozen? ⟨w.heap.size + 1, 0, none⟩ = false ∧ ∀ x ∈ pre, wd.dg (u : Int) x.1 = wd.dg (v : Int) x.1) ∧ Below w.heap.size w W)
      (fun c pre W => (c = .ret ∧ ∃ ini last, pre = ini ++ [last] ∧ (∀ x ∈ ini, wd.dg (u : Int) x.1 = wd.dg (v : Int) x.1) ∧ wd.dg (u : Int) last.1 ≠ wd.dg (v : Int) last.1 ∧ W.cell? ⟨w.heap.size + 1, 0, none⟩ = some (.int .i64 (cmpI (wd.dg (u : Int) last.1) (wd.dg (v : Int) last.1)))) ∧ Below w.heap.size w W)
      (OwnFrom.and (Own.from (fun s A B row hs hg hr => ⟨cell_kept hs.1 hg hr, cell_kept hs.2.1 hg hr, (frozen_kept hs.2.1 hg hr).trans hs.2.2.1, hs.2.2.2⟩) _) (ownFrom_below (Nat.le_refl _) (by simp; omega)))
      (fun c => OwnFrom.and (Own.from (fun s A B row hs hg hr => by obtain ⟨hc, ini, last, e1, e2, e3, e4⟩ := hs; exact ⟨hc, ini, last, e1, e2, e3, cell_kept e4 hg hr⟩) _) (ownFrom_below (Nat.le_refl _) (by simp; omega)))
      ⟨⟨bB.cell, bR.cell, bR.frozen, by simp⟩, hB1⟩
      (fun x => { tmps := #[.slice (some ⟨ba, oa, none⟩) (p + 1) ca1, .slice b lb cb, undef, .pointer (some ⟨w.heap.size, 0, none⟩), .pointer (some ⟨w.heap.size + 1, 0, none⟩), .int .i64 ((x.1 : Nat) : Int), .int .u32 (wd.dg u x.1), .slice a la ca,
        .slice (some ⟨ba, oa, none⟩) (p + 1) ca1, .slice b lb cb, .slice (some ⟨bb, ob, none⟩) (p + 1) cb1, .slice (some ⟨ba, oa, none⟩) (p + 1) ca1, .int .i64 ((p : Int) + 1), .slice (some ⟨bb, ob, none⟩) (p + 1) cb1, .int .i64 ((p : Int) + 1), .bool false, undef, undef, undef, undef, undef,
        .slice (some ⟨ba, oa, none⟩) (p + 1) ca1, .func (.func 44) #[] #[.pointer (some ⟨w.heap.size + 1 + 1, 0, none⟩)], .int .i64 ((x.1 : Nat) : Int), .int .u32 (wd.dg u x.1), undef, undef, undef, undef, undef, undef, undef, undef, undef, undef, undef, undef], defers := [] }) ?assign ?body ?done ?stop
    case assign =>
      intro l x W K hK
      gi_wp2
      exact hK
    case body =>
      rintro l pre x W ⟨⟨hcb, hcr, hfr, hp⟩, hB⟩ _
      have hx := x.2
      have c1 : W.cell? ⟨bb, ob + x.1, none⟩ = some (.int .u32 (wd.dg v x.1)) := (hB.cell (p := ⟨bb, ob + x.1, none⟩) hbb).trans (hsb.cell x.1 _ (wd.dcells_at _ _ _ hx))
      by_cases hd : wd.dg (u : Int) x.1 = wd.dg (v : Int) x.1
      · have hd' : (wd.dg (u : Int) x.1 != wd.dg (v : Int) x.1) = false := by rw [hd]; simp
        have HD : Hid _ := hd
        clear hd
        gi_wp2
        exact ⟨KeepsFrom.refl _ _, Below.refl _ _, ⟨hcb, hcr, hfr, fun y hy => (List.mem_append.1 hy).elim (hp y) (fun e => by simp at e; subst e; exact HD.out)⟩, hB⟩
      · have hd' : (wd.dg (u : Int) x.1 != wd.dg (v : Int) x.1) = true := by simpa using hd
        have HD : Hid _ := hd
        clear hd
        gi_wp2_with (refine ⟨trivial, ?_⟩; gi_at_call 32; refine (CallsIn.inRound l (callsIn_wide.2 (cmpWord_any _ _ _))).mono ?_; rintro e w' ⟨rfl, hw⟩; subst hw)
        exact ⟨(KeepsOthers.setCell _ _ _).from _, ⟨rfl, pre, x, rfl, hp, HD.out, World.cell?_setCell_same' _ _ _ (by rw [hcr]; rfl)⟩, hB.setCell (p := ⟨w.heap.size + 1, 0, none⟩) (by simp) _⟩
    case done =>
      rintro D ys W hD rfl ⟨⟨_, hcr, hfr, hp⟩, hB⟩ hK
      have huv : Hid (0 = cmpI (u : Int) v) := by
        obtain rfl : u = v := wd.eq_of_dcells (p + 1) u v HU.out HV.out (fun j hj => hp ⟨j, hj⟩ ((dn_mem p 0 ⟨j, hj⟩).2 (Nat.zero_le _)))
        exact (cmpI_self _).symm
      clear hp
      go_wp2
      have hK' := (KeepsOthers.setCell W ⟨w.heap.size + 1, 0, none⟩ (.int .i64 0)).same D _ hK rfl
      refine ⟨by simp, .inl ⟨_, _, rfl, run_takeDeferred hK', ?_⟩⟩
      have hc5 := cell_kept (World.cell?_setCell_same' W ⟨w.heap.size + 1, 0, none⟩ (.int .i64 0) (by rw [hcr]; rfl)) (grownBy_putObj' _ D (.deferred none)) (fun r e => by cases e; exact ⟨_, hK', rfl⟩)
      refine ⟨.int .i64 0, ?_, by rw [← huv.out], (hB.setCell (p := ⟨w.heap.size + 1, 0, none⟩) (by simp) _).trans (belowK_b (w := w) (Nat.le_refl _) _ D _ _ (by simp at hD; omega) hK' rfl rfl)⟩
      simp [results, Tryd.results11, go_sem, hc5]
    case stop =>
      rintro D c pre W hD ⟨r, hr, rfl⟩ ⟨⟨rfl, ini, last, e1, e2, e3, hcr⟩, hB⟩ hK
      have huv : Hid (cmpI (wd.dg (u : Int) last.1) (wd.dg (v : Int) last.1) = cmpI (u : Int) v) := by
        rw [dn_next p r (by omega)] at e1
        obtain ⟨rfl, e5⟩ := List.append_inj' e1 rfl
        obtain rfl : (⟨r, by omega⟩ : Fin (p + 1)) = last := by simpa using e5
        refine cmp_words (top_eq (by omega) HU.out HV.out fun j h1 h2 => e2 ⟨j, h2⟩ ((dn_mem p (r + 1) ⟨j, h2⟩).2 h1)) e3
      clear e1 e2 e3
      refine wpIn_wide.2 ?_
      go_wp2
      refine ⟨by simp, .inl ⟨_, _, rfl, run_takeDeferred hK, ?_⟩⟩
      have hc5 := cell_kept hcr (grownBy_putObj' _ D (.deferred none)) (fun r e => by cases e; exact ⟨_, hK, rfl⟩)
      refine ⟨.int .i64 (cmpI (wd.dg (u : Int) last.1) (wd.dg (v : Int) last.1)), ?_, by rw [← huv.out], hB.trans (belowK_b (w := w) (Nat.le_refl _) W D _ _ (by simp at hD; omega) hK rfl rfl)⟩
      simp [results, Tryd.results11, go_sem, hc5]

theorem cmp_any (a b : Option Addr) (la lb ca cb u v : Nat) (w : World) (ha : Sl w a la ca (wd.dcells la (u : Int))) (hu : u < 4294967296 ^ la) (hb : Sl w b lb cb (wd.dcells lb (v : Int))) (hv : v < 4294967296 ^ lb) :
    Calls Tryd.prog 11 #[.slice a la ca, .slice b lb cb] w fun e w' => e = .returned (.int .i64 (cmpI u v)) ∧ Below w.heap.size w w' := by
  by_cases h : wd.nlen u = wd.nlen v
  · rcases hp : wd.nlen u with _ | p
    · have e1 := wd.nlen_eq_zero.1 hp
      have e2 := wd.nlen_eq_zero.1 (h.symm.trans hp)
      exact cmp_zero a b la lb ca cb u v w ha hu hb hv hp (h.symm.trans hp) (by unfold Hid; rw [e1, e2, cmpI_self])
    · exact cmp_eq a b la lb ca cb u v p w ha hu hb hv hp (h.symm.trans hp)
  · refine cmp_ne a b la lb ca cb u v _ _ w ha hu hb hv rfl rfl h ?_
    unfold Hid cmpI
    rcases Nat.lt_or_gt_of_ne h with l | l
    · have := wd.lt_of_nlen l
      rw [if_pos (by omega), if_pos (by omega)]
    · have := wd.lt_of_nlen l
      rw [if_neg (by omega), if_pos (by omega), if_neg (by omega), if_pos (by omega)]
end Go.Proofs.YtjdphcdpgjdmkaaDoor
