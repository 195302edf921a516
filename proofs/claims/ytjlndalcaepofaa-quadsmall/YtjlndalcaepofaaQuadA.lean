/-
  Plain arithmetic of numbers of four words. It imports nothing of the program.
-/
import Derived.Test.YtjlndalcaepofaaRefA
import Derived.Test.YtjlndalcaepofaaRefAq
import Derived.Test.YtjlndalcaepofaaMulAq
import Derived.Test.YtjlndalcaepofaaWideA
import Derived.Test.YtjlndalcaepofaaMem
import Derived.WalkKit
namespace Go.Proofs.Ytjlndalcaepofaa
open Go.RowKit
set_option linter.unusedVariables false

/-- The four words of a number, modulo 2^256. -/
def Wd (a a0 a1 a2 a3 : Int) : Prop := a0 = q.dg a 0 ∧ a1 = q.dg a 1 ∧ a2 = q.dg a 2 ∧ a3 = q.dg a 3
theorem wd_self (a : Int) : Wd a (q.dg a 0) (q.dg a 1) (q.dg a 2) (q.dg a 3) := ⟨rfl, rfl, rfl, rfl⟩
theorem qdg_0 (j : Nat) : q.dg 0 j = 0 := by simp [q.dg]
theorem wd_0 : Wd 0 0 0 0 0 := ⟨(qdg_0 _).symm, (qdg_0 _).symm, (qdg_0 _).symm, (qdg_0 _).symm⟩
theorem qcells (a : Int) : q.dcells 4 a = [.int .u64 (q.dg a 0), .int .u64 (q.dg a 1), .int .u64 (q.dg a 2), .int .u64 (q.dg a 3)] := by simp [q.dcells, List.range, List.range.loop]
theorem qcells_0 : q.dcells 4 0 = [.int .u64 0, .int .u64 0, .int .u64 0, .int .u64 0] := by rw [qcells]; simp [qdg_0]
/-- A row of four. -/
theorem row4 {w : World} {b : Nat} {v0 v1 v2 v3 : Value} (h : Row w b [v0, v1, v2, v3]) : w.cell? ⟨b, 0, none⟩ = some v0 ∧ w.cell? ⟨b, 1, none⟩ = some v1 ∧ w.cell? ⟨b, 2, none⟩ = some v2 ∧ w.cell? ⟨b, 3, none⟩ = some v3 ∧
    w.frozen? ⟨b, 0, none⟩ = false ∧ w.frozen? ⟨b, 1, none⟩ = false ∧ w.frozen? ⟨b, 2, none⟩ = false ∧ w.frozen? ⟨b, 3, none⟩ = false :=
  ⟨h.cell 0 _ rfl, h.cell 1 _ rfl, h.cell 2 _ rfl, h.cell 3 _ rfl, h.free 0 (by simp), h.free 1 (by simp), h.free 2 (by simp), h.free 3 (by simp)⟩
theorem Row.cells {w : World} {b : Nat} {xs ys : List Value} (h : Row w b xs) (e : xs = ys) : Row w b ys := e ▸ h
/-- The borrow out of the places below i when y is taken off x. -/
def bw (x y : Int) (i : Nat) : Int := -((x % 18446744073709551616 ^ i - y % 18446744073709551616 ^ i) / 18446744073709551616 ^ i)
theorem bw_zero (x y : Int) : bw x y 0 = 0 := by simp [bw, Int.emod_one]
theorem bw_sum (x y : Int) (i : Nat) : (x % 18446744073709551616 ^ (i + 1) - y % 18446744073709551616 ^ (i + 1)) / 18446744073709551616 ^ i = q.dg x i - q.dg y i - bw x y i := by
  rw [q.emod_succ, q.emod_succ]
  unfold bw
  have e : q.dg x i * 18446744073709551616 ^ i + x % 18446744073709551616 ^ i - (q.dg y i * 18446744073709551616 ^ i + y % 18446744073709551616 ^ i) = (x % 18446744073709551616 ^ i - y % 18446744073709551616 ^ i) + (q.dg x i - q.dg y i) * 18446744073709551616 ^ i := by rw [Int.sub_mul]; omega
  rw [e, Int.add_mul_ediv_right _ _ (Int.ne_of_gt (q.p256 i))]
  omega
theorem bw_range (x y : Int) (i : Nat) : 0 ≤ bw x y i ∧ bw x y i ≤ 1 := by
  unfold bw
  have hp := q.p256 i
  have a := Int.emod_nonneg x (Int.ne_of_gt hp)
  have a' := Int.emod_lt_of_pos x hp
  have b := Int.emod_nonneg y (Int.ne_of_gt hp)
  have b' := Int.emod_lt_of_pos y hp
  have h1 : (x % 18446744073709551616 ^ i - y % 18446744073709551616 ^ i) / 18446744073709551616 ^ i < 1 := Int.ediv_lt_of_lt_mul hp (by omega)
  have h2 : -1 ≤ (x % 18446744073709551616 ^ i - y % 18446744073709551616 ^ i) / 18446744073709551616 ^ i := Int.le_ediv_of_mul_le hp (by omega)
  omega
theorem bw_succ (x y : Int) (i : Nat) : bor (q.dg x i) (q.dg y i + bw x y i) = bw x y (i + 1) := by
  have e : bw x y (i + 1) = -((q.dg x i - q.dg y i - bw x y i) / 18446744073709551616) := by
    rw [← bw_sum]
    show -((x % 18446744073709551616 ^ (i + 1) - y % 18446744073709551616 ^ (i + 1)) / 18446744073709551616 ^ (i + 1)) = _
    have hp := q.p256 i
    rw [Int.pow_succ, Int.ediv_ediv, if_neg (by omega)]
    omega
  rw [e]
  have h := bw_range x y i
  have a := q.dg_range x i
  have b := q.dg_range y i
  unfold bor
  split <;> omega
theorem sub_digit (x y : Int) (i : Nat) : (q.dg x i - q.dg y i - bw x y i) % 18446744073709551616 = q.dg (x - y) i := by
  unfold q.dg bw
  have hp := q.p256 i
  have h1 := Int.mul_ediv_add_emod x (18446744073709551616 ^ i)
  have h2 := Int.mul_ediv_add_emod y (18446744073709551616 ^ i)
  have e : x - y = (x % 18446744073709551616 ^ i - y % 18446744073709551616 ^ i) + (x / 18446744073709551616 ^ i - y / 18446744073709551616 ^ i) * 18446744073709551616 ^ i := by
    have a1 : x / 18446744073709551616 ^ i * (18446744073709551616 : Int) ^ i = 18446744073709551616 ^ i * (x / 18446744073709551616 ^ i) := Int.mul_comm _ _
    have a2 : y / 18446744073709551616 ^ i * (18446744073709551616 : Int) ^ i = 18446744073709551616 ^ i * (y / 18446744073709551616 ^ i) := Int.mul_comm _ _
    rw [Int.sub_mul]; omega
  have e2 : (x - y) / 18446744073709551616 ^ i = (x % 18446744073709551616 ^ i - y % 18446744073709551616 ^ i) / 18446744073709551616 ^ i + (x / 18446744073709551616 ^ i - y / 18446744073709551616 ^ i) := by
    conv => lhs; rw [e]
    exact Int.add_mul_ediv_right _ _ (Int.ne_of_gt hp)
  rw [e2]
  omega
end Go.Proofs.Ytjlndalcaepofaa
