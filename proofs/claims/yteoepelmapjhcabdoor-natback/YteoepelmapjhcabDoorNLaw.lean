/-
  Two numbers, and the digits of both, kept by calls; and what the laws import.
-/
import Derived.Test.YteoepelmapjhcabDoorShort
import Derived.Test.YteoepelmapjhcabDoorLives
import Derived.Test.YteoepelmapjhcabDoorNatF
import Derived.Test.YteoepelmapjhcabDoorNView
import Derived.Test.YteoepelmapjhcabDoorCards
import Derived.Test.YteoepelmapjhcabDoorTie
import Derived.Lay
import Derived.Carry
import Derived.SevenTiedAt
namespace Go.Proofs.YteoepelmapjhcabDoor
open Go.RowKit
set_option linter.unusedVariables false

theorem few_sum {u v m n : Nat} (hm : m ≤ 20) (hn : n ≤ 20) (hu : u < 4294967296 ^ m) (hv : v < 4294967296 ^ n) : u + v < 4294967296 ^ 21 := by
  have h1 := Nat.pow_le_pow_right (n := 4294967296) (by decide) hm
  have h2 := Nat.pow_le_pow_right (n := 4294967296) (by decide) hn
  rw [Nat.pow_succ]
  omega
theorem few_mul {u v m n : Nat} (hm : m ≤ 20) (hn : n ≤ 20) (hu : u < 4294967296 ^ m) (hv : v < 4294967296 ^ n) : u * v < 4294967296 ^ 40 := by
  have h1 := Nat.pow_le_pow_right (n := 4294967296) (by decide) hm
  have h2 := Nat.pow_le_pow_right (n := 4294967296) (by decide) hn
  rw [show 40 = 20 + 20 from rfl, Nat.pow_add]
  exact Nat.mul_lt_mul_of_lt_of_le (by omega) (by omega) (by decide)
end Go.Proofs.YteoepelmapjhcabDoor
