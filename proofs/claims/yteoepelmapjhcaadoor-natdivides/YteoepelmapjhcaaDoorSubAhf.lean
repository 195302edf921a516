/-
  The arithmetic of a difference, and of a division by a small number, digit by digit. It imports nothing of the program.
-/
import Derived.Test.YteoepelmapjhcaaDoorRefAhf
namespace Go.Proofs.YteoepelmapjhcaaDoor.hf
open Go.RowKit
set_option linter.unusedVariables false

/-- The borrow, under a name. -/
def bor (x y : Int) : Int := if x < y then 1 else 0
/-- The borrow out of the places below i when y is taken off x. -/
def bw (x y : Int) (i : Nat) : Int := -((x % 65536 ^ i - y % 65536 ^ i) / 65536 ^ i)
theorem bw_zero (x y : Int) : bw x y 0 = 0 := by simp [bw, Int.emod_one]
theorem bw_sum (x y : Int) (i : Nat) : (x % 65536 ^ (i + 1) - y % 65536 ^ (i + 1)) / 65536 ^ i = dg x i - dg y i - bw x y i := by
  rw [emod_succ, emod_succ]
  unfold bw
  have e : dg x i * 65536 ^ i + x % 65536 ^ i - (dg y i * 65536 ^ i + y % 65536 ^ i) = (x % 65536 ^ i - y % 65536 ^ i) + (dg x i - dg y i) * 65536 ^ i := by rw [Int.sub_mul]; omega
  rw [e, Int.add_mul_ediv_right _ _ (Int.ne_of_gt (p256 i))]
  omega
theorem bw_range (x y : Int) (i : Nat) : 0 ≤ bw x y i ∧ bw x y i ≤ 1 := by
  unfold bw
  have hp := p256 i
  have a := Int.emod_nonneg x (Int.ne_of_gt hp)
  have a' := Int.emod_lt_of_pos x hp
  have b := Int.emod_nonneg y (Int.ne_of_gt hp)
  have b' := Int.emod_lt_of_pos y hp
  have h1 : (x % 65536 ^ i - y % 65536 ^ i) / 65536 ^ i < 1 := Int.ediv_lt_of_lt_mul hp (by omega)
  have h2 : -1 ≤ (x % 65536 ^ i - y % 65536 ^ i) / 65536 ^ i := Int.le_ediv_of_mul_le hp (by omega)
  omega
theorem bw_succ (x y : Int) (i : Nat) : bor (dg x i) (dg y i + bw x y i) = bw x y (i + 1) := by
  have e : bw x y (i + 1) = -((dg x i - dg y i - bw x y i) / 65536) := by
    rw [← bw_sum]
    show -((x % 65536 ^ (i + 1) - y % 65536 ^ (i + 1)) / 65536 ^ (i + 1)) = _
    have hp := p256 i
    rw [Int.pow_succ, Int.ediv_ediv, if_neg (by omega)]
    omega
  rw [e]
  have h := bw_range x y i
  have a := dg_range x i
  have b := dg_range y i
  unfold bor
  split <;> omega
theorem sub_digit (x y : Int) (i : Nat) : (dg x i - dg y i - bw x y i) % 65536 = dg (x - y) i := by
  unfold dg bw
  have hp := p256 i
  have h1 := Int.mul_ediv_add_emod x (65536 ^ i)
  have h2 := Int.mul_ediv_add_emod y (65536 ^ i)
  have e : x - y = (x % 65536 ^ i - y % 65536 ^ i) + (x / 65536 ^ i - y / 65536 ^ i) * 65536 ^ i := by
    have a1 : x / 65536 ^ i * (65536 : Int) ^ i = 65536 ^ i * (x / 65536 ^ i) := Int.mul_comm _ _
    have a2 : y / 65536 ^ i * (65536 : Int) ^ i = 65536 ^ i * (y / 65536 ^ i) := Int.mul_comm _ _
    rw [Int.sub_mul]; omega
  have e2 : (x - y) / 65536 ^ i = (x % 65536 ^ i - y % 65536 ^ i) / 65536 ^ i + (x / 65536 ^ i - y / 65536 ^ i) := by
    conv => lhs; rw [e]
    exact Int.add_mul_ediv_right _ _ (Int.ne_of_gt hp)
  rw [e2]
  omega
/-- Long division by d: what is left of the places from k + 1 on, and digit k, give digit k of the quotient, and what is left of the places from k on. -/
theorem long_div (v d : Int) (k : Nat) (hd : 0 < d) : (v / 65536 ^ (k + 1) % d * 65536 + dg v k) / d = v / 65536 ^ k / d - 65536 * (v / 65536 ^ (k + 1) / d) ∧ (v / 65536 ^ (k + 1) % d * 65536 + dg v k) % d = v / 65536 ^ k % d := by
  have hp := p256 k
  have e : v / 65536 ^ (k + 1) = v / 65536 ^ k / 65536 := by rw [Int.pow_succ, Int.ediv_ediv, if_neg (by omega)]; omega
  unfold dg
  rw [e]
  generalize v / 65536 ^ k = u
  have h1 : u / 65536 % d = u / 65536 - d * (u / 65536 / d) := by have := Int.mul_ediv_add_emod (u / 65536) d; omega
  have h2 : u / 65536 % d * 65536 + u % 65536 = u + (-(65536 * (u / 65536 / d))) * d := by
    rw [h1, Int.sub_mul, Int.neg_mul, Int.mul_comm d, Int.mul_assoc, Int.mul_comm d 65536, Int.mul_left_comm, Int.mul_assoc]
    omega
  rw [h2]
  refine ⟨?_, Int.add_mul_emod_self_right _ _ _⟩
  rw [Int.add_mul_ediv_right _ _ (by omega)]
  omega
end Go.Proofs.YteoepelmapjhcaaDoor.hf
