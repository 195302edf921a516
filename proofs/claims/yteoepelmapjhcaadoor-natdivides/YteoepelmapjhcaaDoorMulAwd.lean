/-
  The arithmetic of a product, digit by digit. It imports nothing of the program.
-/
import Derived.Test.YteoepelmapjhcaaDoorRefAwd
namespace Go.Proofs.YteoepelmapjhcaaDoor.wd
set_option linter.unusedVariables false

/-- What stands below place i + k, and over it, when k digits of y have been taken times digit i of x. -/
def tk (O xi y : Int) (i k : Nat) : Int := O % 4294967296 ^ (i + k) + xi * 4294967296 ^ i * (y % 4294967296 ^ k)
def cy (O xi y : Int) (i k : Nat) : Int := tk O xi y i k / 4294967296 ^ (i + k)
theorem pow_ik (i k : Nat) : (4294967296 : Int) ^ (i + k) = 4294967296 ^ i * 4294967296 ^ k := Int.pow_add _ _ _
theorem tk_succ (O xi y : Int) (i k : Nat) : tk O xi y i (k + 1) = tk O xi y i k + (dg O (i + k) + xi * dg y k) * 4294967296 ^ (i + k) := by
  unfold tk
  rw [← Nat.add_assoc, emod_succ, emod_succ, Int.add_mul, Int.mul_add, pow_ik]
  have e : xi * 4294967296 ^ i * (dg y k * 4294967296 ^ k) = xi * dg y k * (4294967296 ^ i * 4294967296 ^ k) := by
    rw [Int.mul_assoc xi, Int.mul_left_comm (4294967296 ^ i) (dg y k), Int.mul_assoc xi (dg y k)]
  rw [e]; omega
theorem cy_sum (O xi y : Int) (i k : Nat) : tk O xi y i (k + 1) / 4294967296 ^ (i + k) = cy O xi y i k + dg O (i + k) + xi * dg y k := by
  rw [tk_succ, Int.add_mul_ediv_right _ _ (Int.ne_of_gt (p256 _))]; unfold cy; omega
theorem cy_succ (O xi y : Int) (i k : Nat) : cy O xi y i (k + 1) = (cy O xi y i k + dg O (i + k) + xi * dg y k) / 4294967296 := by
  rw [← cy_sum]
  show tk O xi y i (k + 1) / 4294967296 ^ (i + k + 1) = _
  have hp := p256 (i + k)
  rw [Int.pow_succ, Int.ediv_ediv, if_neg (by omega)]; omega
theorem mul_digit (O xi y : Int) (i k : Nat) : (cy O xi y i k + dg O (i + k) + xi * dg y k) % 4294967296 = dg (O + xi * 4294967296 ^ i * y) (i + k) := by
  rw [← cy_sum]
  show dg (tk O xi y i (k + 1)) (i + k) = _
  refine (dg_congr (i := i + k + 1) (O / 4294967296 ^ (i + k + 1) + xi * (y / 4294967296 ^ (k + 1))) ?_ (by omega)).symm
  unfold tk
  have h1 := Int.mul_ediv_add_emod O (4294967296 ^ (i + k + 1))
  have h2 := Int.mul_ediv_add_emod y (4294967296 ^ (k + 1))
  have e0 : i + (k + 1) = i + k + 1 := by omega
  rw [e0, Int.add_mul]
  have e1 : O / 4294967296 ^ (i + k + 1) * (4294967296 : Int) ^ (i + k + 1) = 4294967296 ^ (i + k + 1) * (O / 4294967296 ^ (i + k + 1)) := Int.mul_comm _ _
  have e2 : xi * (y / 4294967296 ^ (k + 1)) * (4294967296 : Int) ^ (i + k + 1) = xi * 4294967296 ^ i * (4294967296 ^ (k + 1) * (y / 4294967296 ^ (k + 1))) := by
    rw [← e0, pow_ik i (k + 1)]
    generalize (4294967296 : Int) ^ (k + 1) = K
    rw [Int.mul_assoc xi, Int.mul_assoc xi, Int.mul_left_comm (y / K) (4294967296 ^ i) K, Int.mul_comm (y / K) K]
  have e3 : xi * 4294967296 ^ i * y = xi * 4294967296 ^ i * (4294967296 ^ (k + 1) * (y / 4294967296 ^ (k + 1))) + xi * 4294967296 ^ i * (y % 4294967296 ^ (k + 1)) := by rw [← Int.mul_add, h2]
  rw [e1, e2, e3]; omega
theorem cy_zero (O xi y : Int) (i : Nat) : cy O xi y i 0 = 0 := by
  unfold cy tk
  have hp := p256 i
  have a := Int.emod_nonneg O (Int.ne_of_gt hp)
  have a' := Int.emod_lt_of_pos O hp
  have e : y % (4294967296 : Int) ^ 0 = 0 := by simp [Int.emod_one]
  rw [e]
  simp only [Nat.add_zero, Int.mul_zero, Int.add_zero]
  exact Int.ediv_eq_zero_of_lt a a'
theorem cy_range (O xi y : Int) (i k : Nat) (h0 : 0 ≤ xi) (h1 : xi < 4294967296) : 0 ≤ cy O xi y i k ∧ cy O xi y i k ≤ 4294967295 := by
  unfold cy tk
  have hp := p256 (i + k)
  have hi := p256 i
  have hk := p256 k
  have a := Int.emod_nonneg O (Int.ne_of_gt hp)
  have a' := Int.emod_lt_of_pos O hp
  have b := Int.emod_nonneg y (Int.ne_of_gt hk)
  have b' := Int.emod_lt_of_pos y hk
  have c : 0 ≤ xi * 4294967296 ^ i * (y % 4294967296 ^ k) := Int.mul_nonneg (Int.mul_nonneg h0 (Int.le_of_lt hi)) b
  have c' : xi * 4294967296 ^ i * (y % 4294967296 ^ k) ≤ 4294967295 * 4294967296 ^ (i + k) := by
    rw [pow_ik, ← Int.mul_assoc]
    exact Int.mul_le_mul (Int.mul_le_mul_of_nonneg_right (by omega) (Int.le_of_lt hi)) (by omega) b (Int.mul_nonneg (by decide) (Int.le_of_lt hi))
  refine ⟨Int.ediv_nonneg (by omega) (by omega), ?_⟩
  have : (O % 4294967296 ^ (i + k) + xi * 4294967296 ^ i * (y % 4294967296 ^ k)) / 4294967296 ^ (i + k) < 4294967296 := Int.ediv_lt_of_lt_mul hp (by omega)
  omega
theorem dg_mul (x y : Int) (i k : Nat) : 0 ≤ dg x i * dg y k ∧ dg x i * dg y k ≤ 18446744065119617025 := by
  obtain ⟨a, a'⟩ := dg_range x i
  obtain ⟨b, b'⟩ := dg_range y k
  refine ⟨Int.mul_nonneg a b, ?_⟩
  have := Int.mul_le_mul (show dg x i ≤ 4294967295 by omega) (show dg y k ≤ 4294967295 by omega) b (by decide)
  omega
theorem mul_next (x y : Int) (i : Nat) : x % 4294967296 ^ i * y + dg x i * 4294967296 ^ i * y = x % 4294967296 ^ (i + 1) * y := by rw [emod_succ, Int.add_mul]; omega
theorem mix_start (n i : Nat) (O xi y : Int) : mix n i (O + xi * 4294967296 ^ i * y) O = dcells n O := by
  rw [← mix_zero n O O]
  refine fill_congr fun j _ => ?_
  by_cases h : j < i
  · have e : dg (O + xi * 4294967296 ^ i * y) j = dg O j := dg_congr (i := i) (xi * y) (by rw [Int.mul_assoc, Int.mul_comm (4294967296 ^ i) y, ← Int.mul_assoc]) h
    simp [h, e]
  · simp [h]
end Go.Proofs.YteoepelmapjhcaaDoor.wd
