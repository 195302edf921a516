/-
  Two numbers, and the digits of both, kept by calls; and what the laws import.
-/
import Derived.Test.YteoepelmapjhcaaDoorShort
import Derived.Test.YteoepelmapjhcaaDoorLives
import Derived.Test.YteoepelmapjhcaaDoorNatF
import Derived.Test.YteoepelmapjhcaaDoorNView
import Derived.Test.YteoepelmapjhcaaDoorCards
import Derived.Test.YteoepelmapjhcaaDoorTie
import Derived.Lay
import Derived.Carry
import Derived.SevenTiedAt
namespace Go.Proofs.YteoepelmapjhcaaDoor
open Go.RowKit
set_option linter.unusedVariables false

/-- Two numbers, and the digits of both. -/
structure Four (w : World) (a b x y : Option Addr) (ca cb cx cy m n u v : Nat) : Prop where
  a : Sl w a m ca (wd.dcells m (u : Int))
  b : Sl w b n cb (wd.dcells n (v : Int))
  x : Sl w x (hf.nlen u) cx (hf.dcells (hf.nlen u) (u : Int))
  y : Sl w y (hf.nlen v) cy (hf.dcells (hf.nlen v) (v : Int))
theorem Four.below {w w' : World} {a b x y : Option Addr} {ca cb cx cy m n u v : Nat} (h : Four w a b x y ca cb cx cy m n u v) (hb : Below w.heap.size w w') : Four w' a b x y ca cb cx cy m n u v :=
  ⟨h.a.below hb, h.b.below hb, h.x.below hb, h.y.below hb⟩
theorem hf_few {u m : Nat} (hm : m ≤ 100000000) (h : u < 4294967296 ^ m) : hf.nlen u ≤ 1000000000 := by
  have : hf.nlen u ≤ 2 * m := hf.nlen_le (by rw [pow_halves]; exact h)
  omega
theorem few_sum {u v m n : Nat} (hm : m ≤ 20) (hn : n ≤ 20) (hu : u < 4294967296 ^ m) (hv : v < 4294967296 ^ n) : u + v < 4294967296 ^ 21 := by
  have h1 := Nat.pow_le_pow_right (n := 4294967296) (by decide) hm
  have h2 := Nat.pow_le_pow_right (n := 4294967296) (by decide) hn
  rw [Nat.pow_succ]
  omega
theorem few_mul {u v m n : Nat} (hm : m ≤ 20) (hn : n ≤ 20) (hu : u < 4294967296 ^ m) (hv : v < 4294967296 ^ n) : u * v < 4294967296 ^ 40 := by
  have h1 := Nat.pow_le_pow_right (n := 4294967296) (by decide) hm
  have h2 := Nat.pow_le_pow_right (n := 4294967296) (by decide) hn
  rw [show 40 = 20 + 20 from rfl, Nat.pow_add]
  exact Nat.mul_lt_mul_of_lt_of_le (by omega) (by omega) (by decide)
end Go.Proofs.YteoepelmapjhcaaDoor
