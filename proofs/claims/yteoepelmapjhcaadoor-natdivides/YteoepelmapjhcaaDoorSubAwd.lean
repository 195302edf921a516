/-
  The arithmetic of a difference, and of a division by a small number, digit by digit. It imports nothing of the program.
-/
import Derived.Test.YteoepelmapjhcaaDoorRefAwd
namespace Go.Proofs.YteoepelmapjhcaaDoor.wd
open Go.RowKit
set_option linter.unusedVariables false

/-- The borrow, under a name. -/
def bor (x y : Int) : Int := if x < y then 1 else 0
/-- The borrow out of the places below i when y is taken off x. -/
def bw (x y : Int) (i : Nat) : Int := -((x % 4294967296 ^ i - y % 4294967296 ^ i) / 4294967296 ^ i)
theorem bw_zero (x y : Int) : bw x y 0 = 0 := by simp [bw, Int.emod_one]
theorem bw_sum (x y : Int) (i : Nat) : (x % 4294967296 ^ (i + 1) - y % 4294967296 ^ (i + 1)) / 4294967296 ^ i = dg x i - dg y i - bw x y i := by
  rw [emod_succ, emod_succ]
  unfold bw
  have e : dg x i * 4294967296 ^ i + x % 4294967296 ^ i - (dg y i * 4294967296 ^ i + y % 4294967296 ^ i) = (x % 4294967296 ^ i - y % 4294967296 ^ i) + (dg x i - dg y i) * 4294967296 ^ i := by rw [Int.sub_mul]; omega
  rw [e, Int.add_mul_ediv_right _ _ (Int.ne_of_gt (p256 i))]
  omega
theorem bw_range (x y : Int) (i : Nat) : 0 ≤ bw x y i ∧ bw x y i ≤ 1 := by
  unfold bw
  have hp := p256 i
  have a := Int.emod_nonneg x (Int.ne_of_gt hp)
  have a' := Int.emod_lt_of_pos x hp
  have b := Int.emod_nonneg y (Int.ne_of_gt hp)
  have b' := Int.emod_lt_of_pos y hp
  have h1 : (x % 4294967296 ^ i - y % 4294967296 ^ i) / 4294967296 ^ i < 1 := Int.ediv_lt_of_lt_mul hp (by omega)
  have h2 : -1 ≤ (x % 4294967296 ^ i - y % 4294967296 ^ i) / 4294967296 ^ i := Int.le_ediv_of_mul_le hp (by omega)
  omega
theorem bw_succ (x y : Int) (i : Nat) : bor (dg x i) (dg y i + bw x y i) = bw x y (i + 1) := by
  have e : bw x y (i + 1) = -((dg x i - dg y i - bw x y i) / 4294967296) := by
    rw [← bw_sum]
    show -((x % 4294967296 ^ (i + 1) - y % 4294967296 ^ (i + 1)) / 4294967296 ^ (i + 1)) = _
    have hp := p256 i
    rw [Int.pow_succ, Int.ediv_ediv, if_neg (by omega)]
    omega
  rw [e]
  have h := bw_range x y i
  have a := dg_range x i
  have b := dg_range y i
  unfold bor
  split <;> omega
theorem sub_digit (x y : Int) (i : Nat) : (dg x i - dg y i - bw x y i) % 4294967296 = dg (x - y) i := by
  unfold dg bw
  have hp := p256 i
  have h1 := Int.mul_ediv_add_emod x (4294967296 ^ i)
  have h2 := Int.mul_ediv_add_emod y (4294967296 ^ i)
  have e : x - y = (x % 4294967296 ^ i - y % 4294967296 ^ i) + (x / 4294967296 ^ i - y / 4294967296 ^ i) * 4294967296 ^ i := by
    have a1 : x / 4294967296 ^ i * (4294967296 : Int) ^ i = 4294967296 ^ i * (x / 4294967296 ^ i) := Int.mul_comm _ _
    have a2 : y / 4294967296 ^ i * (4294967296 : Int) ^ i = 4294967296 ^ i * (y / 4294967296 ^ i) := Int.mul_comm _ _
    rw [Int.sub_mul]; omega
  have e2 : (x - y) / 4294967296 ^ i = (x % 4294967296 ^ i - y % 4294967296 ^ i) / 4294967296 ^ i + (x / 4294967296 ^ i - y / 4294967296 ^ i) := by
    conv => lhs; rw [e]
    exact Int.add_mul_ediv_right _ _ (Int.ne_of_gt hp)
  rw [e2]
  omega
/-- Long division by d: what is left of the places from k + 1 on, and digit k, give digit k of the quotient, and what is left of the places from k on. -/
theorem long_div (v d : Int) (k : Nat) (hd : 0 < d) : (v / 4294967296 ^ (k + 1) % d * 4294967296 + dg v k) / d = v / 4294967296 ^ k / d - 4294967296 * (v / 4294967296 ^ (k + 1) / d) ∧ (v / 4294967296 ^ (k + 1) % d * 4294967296 + dg v k) % d = v / 4294967296 ^ k % d := by
  have hp := p256 k
  have e : v / 4294967296 ^ (k + 1) = v / 4294967296 ^ k / 4294967296 := by rw [Int.pow_succ, Int.ediv_ediv, if_neg (by omega)]; omega
  unfold dg
  rw [e]
  generalize v / 4294967296 ^ k = u
  have h1 : u / 4294967296 % d = u / 4294967296 - d * (u / 4294967296 / d) := by have := Int.mul_ediv_add_emod (u / 4294967296) d; omega
  have h2 : u / 4294967296 % d * 4294967296 + u % 4294967296 = u + (-(4294967296 * (u / 4294967296 / d))) * d := by
    rw [h1, Int.sub_mul, Int.neg_mul, Int.mul_comm d, Int.mul_assoc, Int.mul_comm d 4294967296, Int.mul_left_comm, Int.mul_assoc]
    omega
  rw [h2]
  refine ⟨?_, Int.add_mul_emod_self_right _ _ _⟩
  rw [Int.add_mul_ediv_right _ _ (by omega)]
  omega
end Go.Proofs.YteoepelmapjhcaaDoor.wd
