/-
  PredAreas: twice any triangle's area, its sign, and how far any two points are, squared.
-/
import Derived.Test.YtlelbhiebmdnoaaChecked
import Derived.Test.YtlelbhiebmdnoaaRows
import Derived.Test.YtlelbhiebmdnoaaP8
import Derived.Test.YtlelbhiebmdnoaaP14
import Derived.Test.YtlelbhiebmdnoaaP13
import Derived.Deep.RegionHeld3
import Derived.ProofKit
import Derived.OpenShut
import Derived.Lib.SmallJoins
namespace Go.Proofs.Ytlelbhiebmdnoaa
open Go.RowKit
set_option linter.unusedVariables false

namespace pareas
open Go.ChangeShapes Go.WideShapes Go.ChangeAt Go.Joins
theorem di_wide (a1 a2 b1 b2 : Int) : -10000000000000000000000000 ≤ diP a1 a2 b1 b2 ∧ diP a1 a2 b1 b2 ≤ 10000000000000000000000000 := by
  unfold diP
  cases h : canAll [(a1, a2), (b1, b2)]
  · exact ⟨by simp, by simp⟩
  · obtain ⟨h1, h2⟩ := can2.1 h
    have := dist_wide h1 h2
    exact ⟨by simp; omega, by simp; omega⟩
def SpA0 (A D u v x y : Int) : Nat → Value → (World → Prop) → (Nat → Prop) → Prop
  | 0 => ValIs (.agg #[.int .i64 u, .int .u64 v])
  | 1 => RNIs A
  | 2 => ValIs (.int .i64 0)
  | 3 => ValIs (.agg #[.int .i64 x, .int .u64 y])
  | 4 => RNIs D
  | _ => ValIs undef
theorem SpA0_good (A D u v x y : Int) : GoodSp (SpA0 A D u v x y) := fun j x R A h => match j with
  | 0 => valIs_good h
  | 1 => rnIs_good h
  | 2 => valIs_good h
  | 3 => valIs_good h
  | 4 => rnIs_good h
  | k + 5 => valIs_good h
def SpA0Z : Nat → List Value
  | 0 => [.int .i64 0, .slice none 0 0]
  | 1 => [.int .i64 0, .slice none 0 0]
  | _ => []
theorem fuel_SpA0_b0 {bD eD : Nat → Bool} {f : Nat} (hf : f = 3 + (nb (bD 0) + nb (bD 1) + nb (bD 2) + nb (bD 3) + nb (bD 4) + nb (eD 0) + nb (eD 1))) (h : bD 0 = false) : f - 1 = 3 + (nb (upd bD 0 true 0) + nb (upd bD 0 true 1) + nb (upd bD 0 true 2) + nb (upd bD 0 true 3) + nb (upd bD 0 true 4) + nb (eD 0) + nb (eD 1)) := by
  have h1 : nb (bD 0) = 1 := by rw [h]; rfl
  have h2 : nb (upd bD 0 true 0) = 0 := rfl
  have q1 : nb (upd bD 0 true 1) = nb (bD 1) := rfl
  have q2 : nb (upd bD 0 true 2) = nb (bD 2) := rfl
  have q3 : nb (upd bD 0 true 3) = nb (bD 3) := rfl
  have q4 : nb (upd bD 0 true 4) = nb (bD 4) := rfl
  omega
theorem fuel_SpA0_b1 {bD eD : Nat → Bool} {f : Nat} (hf : f = 3 + (nb (bD 0) + nb (bD 1) + nb (bD 2) + nb (bD 3) + nb (bD 4) + nb (eD 0) + nb (eD 1))) (h : bD 1 = false) : f - 1 = 3 + (nb (upd bD 1 true 0) + nb (upd bD 1 true 1) + nb (upd bD 1 true 2) + nb (upd bD 1 true 3) + nb (upd bD 1 true 4) + nb (eD 0) + nb (eD 1)) := by
  have h1 : nb (bD 1) = 1 := by rw [h]; rfl
  have h2 : nb (upd bD 1 true 1) = 0 := rfl
  have q0 : nb (upd bD 1 true 0) = nb (bD 0) := rfl
  have q2 : nb (upd bD 1 true 2) = nb (bD 2) := rfl
  have q3 : nb (upd bD 1 true 3) = nb (bD 3) := rfl
  have q4 : nb (upd bD 1 true 4) = nb (bD 4) := rfl
  omega
theorem fuel_SpA0_b2 {bD eD : Nat → Bool} {f : Nat} (hf : f = 3 + (nb (bD 0) + nb (bD 1) + nb (bD 2) + nb (bD 3) + nb (bD 4) + nb (eD 0) + nb (eD 1))) (h : bD 2 = false) : f - 1 = 3 + (nb (upd bD 2 true 0) + nb (upd bD 2 true 1) + nb (upd bD 2 true 2) + nb (upd bD 2 true 3) + nb (upd bD 2 true 4) + nb (eD 0) + nb (eD 1)) := by
  have h1 : nb (bD 2) = 1 := by rw [h]; rfl
  have h2 : nb (upd bD 2 true 2) = 0 := rfl
  have q0 : nb (upd bD 2 true 0) = nb (bD 0) := rfl
  have q1 : nb (upd bD 2 true 1) = nb (bD 1) := rfl
  have q3 : nb (upd bD 2 true 3) = nb (bD 3) := rfl
  have q4 : nb (upd bD 2 true 4) = nb (bD 4) := rfl
  omega
theorem fuel_SpA0_b3 {bD eD : Nat → Bool} {f : Nat} (hf : f = 3 + (nb (bD 0) + nb (bD 1) + nb (bD 2) + nb (bD 3) + nb (bD 4) + nb (eD 0) + nb (eD 1))) (h : bD 3 = false) : f - 1 = 3 + (nb (upd bD 3 true 0) + nb (upd bD 3 true 1) + nb (upd bD 3 true 2) + nb (upd bD 3 true 3) + nb (upd bD 3 true 4) + nb (eD 0) + nb (eD 1)) := by
  have h1 : nb (bD 3) = 1 := by rw [h]; rfl
  have h2 : nb (upd bD 3 true 3) = 0 := rfl
  have q0 : nb (upd bD 3 true 0) = nb (bD 0) := rfl
  have q1 : nb (upd bD 3 true 1) = nb (bD 1) := rfl
  have q2 : nb (upd bD 3 true 2) = nb (bD 2) := rfl
  have q4 : nb (upd bD 3 true 4) = nb (bD 4) := rfl
  omega
theorem fuel_SpA0_b4 {bD eD : Nat → Bool} {f : Nat} (hf : f = 3 + (nb (bD 0) + nb (bD 1) + nb (bD 2) + nb (bD 3) + nb (bD 4) + nb (eD 0) + nb (eD 1))) (h : bD 4 = false) : f - 1 = 3 + (nb (upd bD 4 true 0) + nb (upd bD 4 true 1) + nb (upd bD 4 true 2) + nb (upd bD 4 true 3) + nb (upd bD 4 true 4) + nb (eD 0) + nb (eD 1)) := by
  have h1 : nb (bD 4) = 1 := by rw [h]; rfl
  have h2 : nb (upd bD 4 true 4) = 0 := rfl
  have q0 : nb (upd bD 4 true 0) = nb (bD 0) := rfl
  have q1 : nb (upd bD 4 true 1) = nb (bD 1) := rfl
  have q2 : nb (upd bD 4 true 2) = nb (bD 2) := rfl
  have q3 : nb (upd bD 4 true 3) = nb (bD 3) := rfl
  omega
theorem fuel_SpA0_e0 {bD eD : Nat → Bool} {f : Nat} (hf : f = 3 + (nb (bD 0) + nb (bD 1) + nb (bD 2) + nb (bD 3) + nb (bD 4) + nb (eD 0) + nb (eD 1))) (h : eD 0 = false) : f - 1 = 3 + (nb (bD 0) + nb (bD 1) + nb (bD 2) + nb (bD 3) + nb (bD 4) + nb (upd eD 0 true 0) + nb (upd eD 0 true 1)) := by
  have h1 : nb (eD 0) = 1 := by rw [h]; rfl
  have h2 : nb (upd eD 0 true 0) = 0 := rfl
  have q1 : nb (upd eD 0 true 1) = nb (eD 1) := rfl
  omega
theorem fuel_SpA0_e1 {bD eD : Nat → Bool} {f : Nat} (hf : f = 3 + (nb (bD 0) + nb (bD 1) + nb (bD 2) + nb (bD 3) + nb (bD 4) + nb (eD 0) + nb (eD 1))) (h : eD 1 = false) : f - 1 = 3 + (nb (bD 0) + nb (bD 1) + nb (bD 2) + nb (bD 3) + nb (bD 4) + nb (upd eD 1 true 0) + nb (upd eD 1 true 1)) := by
  have h1 : nb (eD 1) = 1 := by rw [h]; rfl
  have h2 : nb (upd eD 1 true 1) = 0 := rfl
  have q0 : nb (upd eD 1 true 0) = nb (eD 0) := rfl
  omega
def SpA (A D n u v x y : Int) : Nat → Value → (World → Prop) → (Nat → Prop) → Prop
  | 0 => ValIs (.agg #[.int .i64 u, .int .u64 v])
  | 1 => RNIs A
  | 2 => ValIs (.int .i64 n)
  | 3 => ValIs (.agg #[.int .i64 x, .int .u64 y])
  | 4 => RNIs D
  | _ => ValIs undef
theorem SpA_good (A D n u v x y : Int) : GoodSp (SpA A D n u v x y) := fun j x R A h => match j with
  | 0 => valIs_good h
  | 1 => rnIs_good h
  | 2 => valIs_good h
  | 3 => valIs_good h
  | 4 => rnIs_good h
  | k + 5 => valIs_good h
def SpAZ : Nat → List Value
  | 0 => [.int .i64 0, .slice none 0 0]
  | 1 => [.int .i64 0, .slice none 0 0]
  | _ => []
theorem fuel_SpA_b0 {bD eD : Nat → Bool} {f : Nat} (hf : f = 3 + (nb (bD 0) + nb (bD 1) + nb (bD 2) + nb (bD 3) + nb (bD 4) + nb (eD 0) + nb (eD 1))) (h : bD 0 = false) : f - 1 = 3 + (nb (upd bD 0 true 0) + nb (upd bD 0 true 1) + nb (upd bD 0 true 2) + nb (upd bD 0 true 3) + nb (upd bD 0 true 4) + nb (eD 0) + nb (eD 1)) := by
  have h1 : nb (bD 0) = 1 := by rw [h]; rfl
  have h2 : nb (upd bD 0 true 0) = 0 := rfl
  have q1 : nb (upd bD 0 true 1) = nb (bD 1) := rfl
  have q2 : nb (upd bD 0 true 2) = nb (bD 2) := rfl
  have q3 : nb (upd bD 0 true 3) = nb (bD 3) := rfl
  have q4 : nb (upd bD 0 true 4) = nb (bD 4) := rfl
  omega
theorem fuel_SpA_b1 {bD eD : Nat → Bool} {f : Nat} (hf : f = 3 + (nb (bD 0) + nb (bD 1) + nb (bD 2) + nb (bD 3) + nb (bD 4) + nb (eD 0) + nb (eD 1))) (h : bD 1 = false) : f - 1 = 3 + (nb (upd bD 1 true 0) + nb (upd bD 1 true 1) + nb (upd bD 1 true 2) + nb (upd bD 1 true 3) + nb (upd bD 1 true 4) + nb (eD 0) + nb (eD 1)) := by
  have h1 : nb (bD 1) = 1 := by rw [h]; rfl
  have h2 : nb (upd bD 1 true 1) = 0 := rfl
  have q0 : nb (upd bD 1 true 0) = nb (bD 0) := rfl
  have q2 : nb (upd bD 1 true 2) = nb (bD 2) := rfl
  have q3 : nb (upd bD 1 true 3) = nb (bD 3) := rfl
  have q4 : nb (upd bD 1 true 4) = nb (bD 4) := rfl
  omega
theorem fuel_SpA_b2 {bD eD : Nat → Bool} {f : Nat} (hf : f = 3 + (nb (bD 0) + nb (bD 1) + nb (bD 2) + nb (bD 3) + nb (bD 4) + nb (eD 0) + nb (eD 1))) (h : bD 2 = false) : f - 1 = 3 + (nb (upd bD 2 true 0) + nb (upd bD 2 true 1) + nb (upd bD 2 true 2) + nb (upd bD 2 true 3) + nb (upd bD 2 true 4) + nb (eD 0) + nb (eD 1)) := by
  have h1 : nb (bD 2) = 1 := by rw [h]; rfl
  have h2 : nb (upd bD 2 true 2) = 0 := rfl
  have q0 : nb (upd bD 2 true 0) = nb (bD 0) := rfl
  have q1 : nb (upd bD 2 true 1) = nb (bD 1) := rfl
  have q3 : nb (upd bD 2 true 3) = nb (bD 3) := rfl
  have q4 : nb (upd bD 2 true 4) = nb (bD 4) := rfl
  omega
theorem fuel_SpA_b3 {bD eD : Nat → Bool} {f : Nat} (hf : f = 3 + (nb (bD 0) + nb (bD 1) + nb (bD 2) + nb (bD 3) + nb (bD 4) + nb (eD 0) + nb (eD 1))) (h : bD 3 = false) : f - 1 = 3 + (nb (upd bD 3 true 0) + nb (upd bD 3 true 1) + nb (upd bD 3 true 2) + nb (upd bD 3 true 3) + nb (upd bD 3 true 4) + nb (eD 0) + nb (eD 1)) := by
  have h1 : nb (bD 3) = 1 := by rw [h]; rfl
  have h2 : nb (upd bD 3 true 3) = 0 := rfl
  have q0 : nb (upd bD 3 true 0) = nb (bD 0) := rfl
  have q1 : nb (upd bD 3 true 1) = nb (bD 1) := rfl
  have q2 : nb (upd bD 3 true 2) = nb (bD 2) := rfl
  have q4 : nb (upd bD 3 true 4) = nb (bD 4) := rfl
  omega
theorem fuel_SpA_b4 {bD eD : Nat → Bool} {f : Nat} (hf : f = 3 + (nb (bD 0) + nb (bD 1) + nb (bD 2) + nb (bD 3) + nb (bD 4) + nb (eD 0) + nb (eD 1))) (h : bD 4 = false) : f - 1 = 3 + (nb (upd bD 4 true 0) + nb (upd bD 4 true 1) + nb (upd bD 4 true 2) + nb (upd bD 4 true 3) + nb (upd bD 4 true 4) + nb (eD 0) + nb (eD 1)) := by
  have h1 : nb (bD 4) = 1 := by rw [h]; rfl
  have h2 : nb (upd bD 4 true 4) = 0 := rfl
  have q0 : nb (upd bD 4 true 0) = nb (bD 0) := rfl
  have q1 : nb (upd bD 4 true 1) = nb (bD 1) := rfl
  have q2 : nb (upd bD 4 true 2) = nb (bD 2) := rfl
  have q3 : nb (upd bD 4 true 3) = nb (bD 3) := rfl
  omega
theorem fuel_SpA_e0 {bD eD : Nat → Bool} {f : Nat} (hf : f = 3 + (nb (bD 0) + nb (bD 1) + nb (bD 2) + nb (bD 3) + nb (bD 4) + nb (eD 0) + nb (eD 1))) (h : eD 0 = false) : f - 1 = 3 + (nb (bD 0) + nb (bD 1) + nb (bD 2) + nb (bD 3) + nb (bD 4) + nb (upd eD 0 true 0) + nb (upd eD 0 true 1)) := by
  have h1 : nb (eD 0) = 1 := by rw [h]; rfl
  have h2 : nb (upd eD 0 true 0) = 0 := rfl
  have q1 : nb (upd eD 0 true 1) = nb (eD 1) := rfl
  omega
theorem fuel_SpA_e1 {bD eD : Nat → Bool} {f : Nat} (hf : f = 3 + (nb (bD 0) + nb (bD 1) + nb (bD 2) + nb (bD 3) + nb (bD 4) + nb (eD 0) + nb (eD 1))) (h : eD 1 = false) : f - 1 = 3 + (nb (bD 0) + nb (bD 1) + nb (bD 2) + nb (bD 3) + nb (bD 4) + nb (upd eD 1 true 0) + nb (upd eD 1 true 1)) := by
  have h1 : nb (eD 1) = 1 := by rw [h]; rfl
  have h2 : nb (upd eD 1 true 1) = 0 := rfl
  have q0 : nb (upd eD 1 true 0) = nb (eD 0) := rfl
  omega
set_option maxRecDepth 100000 in
set_option maxHeartbeats 20000000 in
theorem walk (a1 a2 : Int) (ha1_1 : -9223372036854775808 ≤ a1) (ha1_2 : a1 ≤ 9223372036854775807) (ha2_1 : -9223372036854775808 ≤ a2) (ha2_2 : a2 ≤ 9223372036854775807) (b1 b2 : Int) (hb1_1 : -9223372036854775808 ≤ b1) (hb1_2 : b1 ≤ 9223372036854775807) (hb2_1 : -9223372036854775808 ≤ b2) (hb2_2 : b2 ≤ 9223372036854775807) (c1 c2 : Int) (hc1_1 : -9223372036854775808 ≤ c1) (hc1_2 : c1 ≤ 9223372036854775807) (hc2_1 : -9223372036854775808 ≤ c2) (hc2_2 : c2 ≤ 9223372036854775807) (w : World) :
    Calls Try.prog 3 #[.agg #[.int .i64 a1, .int .i64 a2], .agg #[.int .i64 b1, .int .i64 b2], .agg #[.int .i64 c1, .int .i64 c2]] w fun e w' => e = .returned (.bool true) ∧ Below w.heap.size w w' := by
  have Ra1 : Hid (R64 a1) := ⟨ha1_1, ha1_2⟩
  have Ra2 : Hid (R64 a2) := ⟨ha2_1, ha2_2⟩
  have Rb1 : Hid (R64 b1) := ⟨hb1_1, hb1_2⟩
  have Rb2 : Hid (R64 b2) := ⟨hb2_1, hb2_2⟩
  have Rc1 : Hid (R64 c1) := ⟨hc1_1, hc1_2⟩
  have Rc2 : Hid (R64 c2) := ⟨hc2_1, hc2_2⟩
  clear ha1_1 ha1_2 ha2_1 ha2_2 hb1_1 hb1_2 hb2_1 hb2_2 hc1_1 hc1_2 hc2_1 hc2_2
  obtain ⟨A, hA⟩ : ∃ A, A = arP a1 a2 b1 b2 c1 c2 := ⟨_, rfl⟩
  obtain ⟨D, hD⟩ : ∃ D, D = diP a1 a2 b1 b2 := ⟨_, rfl⟩
  have rA := ar_wide a1 a2 b1 b2 c1 c2
  have rD := di_wide a1 a2 b1 b2
  rw [← hA] at rA
  rw [← hD] at rD
  have GA : Hid _ := rA
  have GD : Hid _ := rD
  have FA : Hid _ := few_num (z := A) (by omega)
  have FD : Hid _ := few_num (z := D) (by omega)
  clear rA rD
  obtain ⟨n, hn⟩ : ∃ n, n = A.sign := ⟨_, rfl⟩
  have HN : Hid (n = (arP a1 a2 b1 b2 c1 c2).sign) := by unfold Hid; rw [← hA]; exact hn
  obtain ⟨u, hu⟩ : ∃ z, z = lw.hi A := ⟨_, rfl⟩
  have Eu : Hid (u = lw.hi (arP a1 a2 b1 b2 c1 c2)) := by unfold Hid; rw [← hA]; exact hu
  have Hu : Hid _ := hu
  clear hu
  obtain ⟨v, hv⟩ : ∃ z, z = lw.lo A := ⟨_, rfl⟩
  have Ev : Hid (v = lw.lo (arP a1 a2 b1 b2 c1 c2)) := by unfold Hid; rw [← hA]; exact hv
  have Hv : Hid _ := hv
  clear hv
  obtain ⟨x, hx⟩ : ∃ z, z = lw.hi D := ⟨_, rfl⟩
  have Ex : Hid (x = lw.hi (diP a1 a2 b1 b2)) := by unfold Hid; rw [← hD]; exact hx
  have Hx : Hid _ := hx
  clear hx
  obtain ⟨y, hy⟩ : ∃ z, z = lw.lo D := ⟨_, rfl⟩
  have Ey : Hid (y = lw.lo (diP a1 a2 b1 b2)) := by unfold Hid; rw [← hD]; exact hy
  have Hy : Hid _ := hy
  clear hy
  cases ha : canC a1 a2
  · skip
    have hA0 : A = 0 := by rw [hA]; unfold arP; rw [if_neg]; rw [can3]; rintro ⟨qa, qb, qc⟩; simp_all
    obtain rfl : n = 0 := by rw [hn, hA0]; rfl
    have HA0 : Hid _ := hA0
    clear hA0 hn
    have HD0 : Hid (D = 0) := by unfold Hid; rw [hD]; unfold diP; rw [if_neg]; rw [can2]; rintro ⟨qa, qb⟩; simp_all
    clear hA hD
    have Z1 : Hid ((0 : Int) = (D - D).sign) := by unfold Hid; rw [Int.sub_self]; rfl
    have Z2 : Hid ((0 : Int) = (A - A).sign) := by unfold Hid; rw [Int.sub_self]; rfl
    obtain ⟨W, hW, bW, x_a, x_b, x_c, sW⟩ := bs_222 w (.int .i64 a1) (.int .i64 a2) (.int .i64 b1) (.int .i64 b2) (.int .i64 c1) (.int .i64 c2) 23 23 23
    have zbW := bW.size
    have BB := bW
    go_enter Try.func3, Try.ntmps3
    go_wp2
    rw [← hW]
    clear hW
    obtain ⟨QQ, hQQ⟩ : ∃ QQ : Exit → Act → World → Prop, QQ = fun e act wr => e = .normal ∧ ∃ (pma0 : Nat) (pma1 : Nat) (s11 : Int) (d11 : Option Addr) (l11 c11 : Nat) (s12 : Int) (d12 : Option Addr) (l12 c12 : Nat), act = ⟨#[.agg #[.int .i64 a1, .int .i64 a2], .agg #[.int .i64 b1, .int .i64 b2], .agg #[.int .i64 c1, .int .i64 c2], .pointer (some ⟨w.heap.size, 0, none⟩), .pointer (some ⟨w.heap.size + 1, 0, none⟩), .pointer (some ⟨w.heap.size + 1 + 1, 0, none⟩), .bool false, .pointer (some ⟨pma0, 0, none⟩), .int .i64 0, .pointer (some ⟨pma1, 0, none⟩), .agg #[.int .i64 a1, .int .i64 a2], .agg #[.int .i64 b1, .int .i64 b2], .agg #[.int .i64 c1, .int .i64 c2], .agg #[.int .i64 u, .int .u64 v], .agg #[.int .i64 s11, .slice d11 l11 c11], .agg #[.int .i64 a1, .int .i64 a2], .agg #[.int .i64 b1, .int .i64 b2], .agg #[.int .i64 c1, .int .i64 c2], .int .i64 0, .agg #[.int .i64 a1, .int .i64 a2], .agg #[.int .i64 b1, .int .i64 b2], .agg #[.int .i64 x, .int .u64 y], .agg #[.int .i64 s12, .slice d12 l12 c12], undef, undef, undef, undef, undef, undef, undef, undef, undef, undef, undef, undef, undef, undef, undef, undef, undef, undef, undef, undef, undef, undef, undef, undef, undef, undef, undef, undef, undef, undef, undef, undef, undef, undef, undef, undef, undef, undef, undef, undef, undef, undef, undef, undef, undef, undef, undef, undef, undef, undef, undef, undef, undef, undef, undef, undef, undef, undef, undef, undef, undef, undef, undef, undef, undef, undef], []⟩ ∧ RN wr s11 d11 l11 c11 A ∧ RN wr s12 d12 l12 c12 D ∧ Bx wr (w.heap.size) (.int .i64 a1) (.int .i64 a2) ∧ Bx wr (w.heap.size + 1) (.int .i64 b1) (.int .i64 b2) ∧ Bx wr (w.heap.size + 1 + 1) (.int .i64 c1) (.int .i64 c2) ∧ Bx wr pma0 (.int .i64 s11) (.slice d11 l11 c11) ∧ Bx wr pma1 (.int .i64 s12) (.slice d12 l12 c12) ∧ Below w.heap.size w wr ∧ W.heap.size ≤ wr.heap.size ∧ (W.heap.size ≤ pma0 ∧ pma0 < wr.heap.size) ∧ (W.heap.size ≤ pma1 ∧ pma1 < wr.heap.size) := ⟨_, rfl⟩
    have HQQ : Hid _ := hQQ
    clear hQQ
    refine wp_mono (Q := QQ) ?_ ?_
    · refine wp_region_held_drew (S := (fun w' => w'.cell? ⟨w.heap.size, 0, none⟩ = some (.int .i64 a1) ∧ w'.cell? ⟨w.heap.size, 1, none⟩ = some (.int .i64 a2) ∧ w'.cell? ⟨w.heap.size + 1, 0, none⟩ = some (.int .i64 b1) ∧ w'.cell? ⟨w.heap.size + 1, 1, none⟩ = some (.int .i64 b2) ∧ w'.cell? ⟨w.heap.size + 1 + 1, 0, none⟩ = some (.int .i64 c1) ∧ w'.cell? ⟨w.heap.size + 1 + 1, 1, none⟩ = some (.int .i64 c2) ∧ Below w.heap.size w w')) (by kernel_rfl) ?_ (fun hHeld => ?_)
      · exact ⟨x_a.c0, x_a.c1, x_b.c0, x_b.c1, x_c.c0, x_c.c1, BB.drew⟩
      refine take_yes (i := 0) (v := ?vma0x1) rfl (by kernel_rfl) (by kernel_rfl) (by kernel_rfl) (fun _ _ _ h => by rw [HQQ.out] at h; exact Exit.noConfusion h.1) (by rfl) (by assumption) ?hyma0x1 ?restma0x1
      case hyma0x1 => (intro w hSw; (try dsimp only at hSw); first | (go_simp; done) | (go_simp; with_reducible rfl))
      simp only [Act.put, List.setIfInBounds_toArray, List.set_cons_zero, List.set_cons_succ]
      refine take_yes (i := 1) (v := ?vma1x2) rfl (by kernel_rfl) (by kernel_rfl) (by kernel_rfl) (fun _ _ _ h => by rw [HQQ.out] at h; exact Exit.noConfusion h.1) (by rfl) (by assumption) ?hyma1x2 ?restma1x2
      case hyma1x2 => (intro w hSw; (try dsimp only at hSw); first | (go_simp; done) | (go_simp; with_reducible rfl))
      simp only [Act.put, List.setIfInBounds_toArray, List.set_cons_zero, List.set_cons_succ]
      refine take_yes (i := 2) (v := ?vma2x3) rfl (by kernel_rfl) (by kernel_rfl) (by kernel_rfl) (fun _ _ _ h => by rw [HQQ.out] at h; exact Exit.noConfusion h.1) (by rfl) (by assumption) ?hyma2x3 ?restma2x3
      case hyma2x3 => (intro w hSw; (try dsimp only at hSw); first | (go_simp; done) | (go_simp; with_reducible rfl))
      simp only [Act.put, List.setIfInBounds_toArray, List.set_cons_zero, List.set_cons_succ]
      refine take_yes (i := 5) (v := ?vma5x4) rfl (by kernel_rfl) (by kernel_rfl) (by kernel_rfl) (fun _ _ _ h => by rw [HQQ.out] at h; exact Exit.noConfusion h.1) (by rfl) (by assumption) ?hyma5x4 ?restma5x4
      case hyma5x4 => (intro w hSw; (try dsimp only at hSw); first | (go_simp; done) | (go_simp; with_reducible rfl))
      simp only [Act.put, List.setIfInBounds_toArray, List.set_cons_zero, List.set_cons_succ]
      refine take_yes (i := 6) (v := ?vma6x5) rfl (by kernel_rfl) (by kernel_rfl) (by kernel_rfl) (fun _ _ _ h => by rw [HQQ.out] at h; exact Exit.noConfusion h.1) (by rfl) (by assumption) ?hyma6x5 ?restma6x5
      case hyma6x5 => (intro w hSw; (try dsimp only at hSw); first | (go_simp; done) | (go_simp; with_reducible rfl))
      simp only [Act.put, List.setIfInBounds_toArray, List.set_cons_zero, List.set_cons_succ]
      refine take_yes (i := 7) (v := ?vma7x6) rfl (by kernel_rfl) (by kernel_rfl) (by kernel_rfl) (fun _ _ _ h => by rw [HQQ.out] at h; exact Exit.noConfusion h.1) (by rfl) (by assumption) ?hyma7x6 ?restma7x6
      case hyma7x6 => (intro w hSw; (try dsimp only at hSw); first | (go_simp; done) | (go_simp; with_reducible rfl))
      simp only [Act.put, List.setIfInBounds_toArray, List.set_cons_zero, List.set_cons_succ]
      refine take_yes (i := 9) (v := ?vma9x7) rfl (by kernel_rfl) (by kernel_rfl) (by kernel_rfl) (fun _ _ _ h => by rw [HQQ.out] at h; exact Exit.noConfusion h.1) (by rfl) (by assumption) ?hyma9x7 ?restma9x7
      case hyma9x7 => (intro w hSw; (try dsimp only at hSw); first | (go_simp; done) | (go_simp; with_reducible rfl))
      simp only [Act.put, List.setIfInBounds_toArray, List.set_cons_zero, List.set_cons_succ]
      refine take_yes (i := 10) (v := ?vma10x8) rfl (by kernel_rfl) (by kernel_rfl) (by kernel_rfl) (fun _ _ _ h => by rw [HQQ.out] at h; exact Exit.noConfusion h.1) (by rfl) (by assumption) ?hyma10x8 ?restma10x8
      case hyma10x8 => (intro w hSw; (try dsimp only at hSw); first | (go_simp; done) | (go_simp; with_reducible rfl))
      simp only [Act.put, List.setIfInBounds_toArray, List.set_cons_zero, List.set_cons_succ]
      clear hHeld
      obtain ⟨INV, hINV⟩ : ∃ INV : Nat → Array Bool → Act → World → Prop, INV = fun f L act wr => ∃ (bD eD : Nat → Bool) (pD : Nat → Nat) (RD : Nat → World → Prop) (AD : Nat → Nat → Prop) (uD vD : Nat → Value), f = 3 + (nb (bD 0) + nb (bD 1) + nb (bD 2) + nb (bD 3) + nb (bD 4) + nb (eD 0) + nb (eD 1)) ∧ L = #[true, true, true, bD 0, bD 1, true, true, true, bD 2, true, true, bD 3, bD 4, eD 0, eD 1, false, false, false] ∧ act = ⟨#[.agg #[.int .i64 a1, .int .i64 a2], .agg #[.int .i64 b1, .int .i64 b2], .agg #[.int .i64 c1, .int .i64 c2], .pointer (some ⟨w.heap.size, 0, none⟩), .pointer (some ⟨w.heap.size + 1, 0, none⟩), .pointer (some ⟨w.heap.size + 1 + 1, 0, none⟩), .bool false, vD 0, undef, vD 1, .agg #[.int .i64 a1, .int .i64 a2], .agg #[.int .i64 b1, .int .i64 b2], .agg #[.int .i64 c1, .int .i64 c2], uD 0, uD 1, .agg #[.int .i64 a1, .int .i64 a2], .agg #[.int .i64 b1, .int .i64 b2], .agg #[.int .i64 c1, .int .i64 c2], uD 2, .agg #[.int .i64 a1, .int .i64 a2], .agg #[.int .i64 b1, .int .i64 b2], uD 3, uD 4, undef, undef, undef, undef, undef, undef, undef, undef, undef, undef, undef, undef, undef, undef, undef, undef, undef, undef, undef, undef, undef, undef, undef, undef, undef, undef, undef, undef, undef, undef, undef, undef, undef, undef, undef, undef, undef, undef, undef, undef, undef, undef, undef, undef, undef, undef, undef, undef, undef, undef, undef, undef, undef, undef, undef, undef, undef, undef, undef, undef, undef, undef, undef, undef, undef, undef], []⟩ ∧ (bD 1 = true → bD 0 = true) ∧ (bD 2 = true → bD 1 = true) ∧ (bD 3 = true → bD 2 = true) ∧ (bD 4 = true → bD 3 = true) ∧ Mk W SpA0Z (SpA0 A D u v x y) bD eD pD RD AD uD vD wr := ⟨_, rfl⟩
      have HINV : Hid _ := hINV
      clear hINV
      refine phase INV ?stepma _ _ _ _ ?initma
      case initma => rw [HINV.out]; exact ⟨fun _ => false, fun _ => false, fun _ => 0, fun _ _ => True, fun _ _ => True, fun _ => undef, fun _ => undef, rfl, rfl, rfl, fun h => Bool.noConfusion h, fun h => Bool.noConfusion h, fun h => Bool.noConfusion h, fun h => Bool.noConfusion h, Mk.start _ _ _ (Below.refl _ _).drew⟩
      intro f L act wr hinv
      rw [HINV.out] at hinv
      obtain ⟨bD, eD, pD, RD, AD, uD, vD, hf, rfl, rfl, ch0, ch1, ch2, ch3, hm⟩ := hinv
      by_cases hall : bD 4 = true ∧ eD 0 = true ∧ eD 1 = true
      · refine Or.inl ?_
        obtain ⟨hb4, he0, he1⟩ := hall
        have hb3 := ch3 hb4
        have hb2 := ch2 hb3
        have hb1 := ch1 hb2
        have hb0 := ch0 hb1
        simp only [hb0, hb1, hb2, hb3, hb4, he0, he1, nb] at hf
        subst hf
        rw [hb0, hb1, hb2, hb3, hb4, he0, he1, hm.ptr 0 he0, hm.ptr 1 he1]
        obtain ⟨hu0, _, _⟩ : ValIs _ _ _ _ := hm.spec 0 hb0
        rw [hu0]
        obtain ⟨s11, d11, l11, c11, hu1, hR1, hA1⟩ : RNIs _ _ _ _ := hm.spec 1 hb1
        rw [hu1]
        have r11 : RN wr s11 d11 l11 c11 A := by have := hm.res 1 hb1; rw [hR1] at this; exact this
        have n_r11_0_pma0 : NA (pD 0) d11 l11 := by have := hm.ap 0 1 he0 hb1; rw [hA1] at this; exact this
        have n_r11_0_pma1 : NA (pD 1) d11 l11 := by have := hm.ap 1 1 he1 hb1; rw [hA1] at this; exact this
        obtain ⟨hu2, _, _⟩ : ValIs _ _ _ _ := hm.spec 2 hb2
        rw [hu2]
        obtain ⟨hu3, _, _⟩ : ValIs _ _ _ _ := hm.spec 3 hb3
        rw [hu3]
        obtain ⟨s12, d12, l12, c12, hu4, hR4, hA4⟩ : RNIs _ _ _ _ := hm.spec 4 hb4
        rw [hu4]
        have r12 : RN wr s12 d12 l12 c12 D := by have := hm.res 4 hb4; rw [hR4] at this; exact this
        have n_r12_0_pma0 : NA (pD 0) d12 l12 := by have := hm.ap 0 4 he0 hb4; rw [hA4] at this; exact this
        have n_r12_0_pma1 : NA (pD 1) d12 l12 := by have := hm.ap 1 4 he1 hb4; rw [hA4] at this; exact this
        have y_pma0 : Bx wr (pD 0) (.int .i64 0) (.slice none 0 0) := bx_row (hm.blk 0 he0)
        have gpma0 := hm.old 0 he0
        have ltpma0 := hm.lt 0 he0
        have y_pma1 : Bx wr (pD 1) (.int .i64 0) (.slice none 0 0) := bx_row (hm.blk 1 he1)
        have gpma1 := hm.old 1 he1
        have ltpma1 := hm.lt 1 he1
        have ne_0_1 : pD 0 ≠ pD 1 := hm.ne 0 1 he0 he1 (by decide)
        have BU := hm.bel
        replace x_a := x_a.on BU
        replace x_b := x_b.on BU
        replace x_c := x_c.on BU
        replace BB := also BB BU
        have hHeld : ((fun w' => w'.cell? ⟨w.heap.size, 0, none⟩ = some (.int .i64 a1) ∧ w'.cell? ⟨w.heap.size, 1, none⟩ = some (.int .i64 a2) ∧ w'.cell? ⟨w.heap.size + 1, 0, none⟩ = some (.int .i64 b1) ∧ w'.cell? ⟨w.heap.size + 1, 1, none⟩ = some (.int .i64 b2) ∧ w'.cell? ⟨w.heap.size + 1 + 1, 0, none⟩ = some (.int .i64 c1) ∧ w'.cell? ⟨w.heap.size + 1 + 1, 1, none⟩ = some (.int .i64 c2) ∧ Below w.heap.size w w')) wr := ⟨x_a.c0, x_a.c1, x_b.c0, x_b.c1, x_c.c0, x_c.c1, BB⟩
        clear hm HINV INV ch0 ch1 ch2 ch3
        generalize pD 0 = pma0 at *
        generalize pD 1 = pma1 at *
        dsimp only at hHeld
        have ⟨c_pma0_0, c_pma0_1, c_pma0_2, c_pma0_3⟩ : Bx wr pma0 (.int .i64 0) (.slice none 0 0) := y_pma0
        refine take_call (i := 15) rfl (by kernel_rfl) (fun Kc hK => ?_)
        go_simp
        refine hK.out _ _ ⟨cell_put2 hHeld.1 (by omega) _ _, cell_put2 hHeld.2.1 (by omega) _ _, cell_put2 hHeld.2.2.1 (by omega) _ _, cell_put2 hHeld.2.2.2.1 (by omega) _ _, cell_put2 hHeld.2.2.2.2.1 (by omega) _ _, cell_put2 hHeld.2.2.2.2.2.1 (by omega) _ _, below_put2 hHeld.2.2.2.2.2.2 (by omega) _ _⟩ (fun hHeld => ?_)
        clear hK Kc
        refine take_yes (i := 16) (v := ?vma16x9) rfl (by kernel_rfl) (by kernel_rfl) (by kernel_rfl) (fun _ _ _ h => by rw [HQQ.out] at h; exact Exit.noConfusion h.1) (by rfl) (by assumption) ?hyma16x9 ?restma16x9
        case hyma16x9 => (intro w hSw; (try dsimp only at hSw); first | (go_simp; done) | (go_simp; with_reducible rfl))
        simp only [Act.put, List.setIfInBounds_toArray, List.set_cons_zero, List.set_cons_succ]
        have ⟨c_pma1_0, c_pma1_1, c_pma1_2, c_pma1_3⟩ : Bx ((wr.setCell ⟨pma0, 0, none⟩ (.int .i64 s11)).setCell ⟨pma0, 1, none⟩ (.slice d11 l11 c11)) pma1 (.int .i64 0) (.slice none 0 0) := ((y_pma1.put ne_0_1).put ne_0_1)
        refine take_call (i := 17) rfl (by kernel_rfl) (fun Kc hK => ?_)
        go_simp
        refine hK.out _ _ ⟨cell_put2 hHeld.1 (by omega) _ _, cell_put2 hHeld.2.1 (by omega) _ _, cell_put2 hHeld.2.2.1 (by omega) _ _, cell_put2 hHeld.2.2.2.1 (by omega) _ _, cell_put2 hHeld.2.2.2.2.1 (by omega) _ _, cell_put2 hHeld.2.2.2.2.2.1 (by omega) _ _, below_put2 hHeld.2.2.2.2.2.2 (by omega) _ _⟩ (fun hHeld => ?_)
        clear hK Kc
        refine wpAnyH_done (by kernel_rfl) ?_ _
        rw [HQQ.out]
        exact ⟨rfl, pma0, pma1, s11, d11, l11, c11, s12, d12, l12, c12, rfl, ((((r11.put n_r11_0_pma0 0 _).put n_r11_0_pma0 1 _).put n_r11_0_pma1 0 _).put n_r11_0_pma1 1 _), ((((r12.put n_r12_0_pma0 0 _).put n_r12_0_pma0 1 _).put n_r12_0_pma1 0 _).put n_r12_0_pma1 1 _), ((((x_a.put (by omega)).put (by omega)).put (by omega)).put (by omega)), ((((x_b.put (by omega)).put (by omega)).put (by omega)).put (by omega)), ((((x_c.put (by omega)).put (by omega)).put (by omega)).put (by omega)), ((y_pma0.set.put (fun e => ne_0_1 e.symm)).put (fun e => ne_0_1 e.symm)), ((y_pma1.put ne_0_1).put ne_0_1).set, (below_put2 (below_put2 BB (by omega) _ _) (by omega) _ _), by have := BU.size; simp only [World.size_setCell]; omega, ⟨gpma0, by simp only [World.size_setCell]; omega⟩, ⟨gpma1, by simp only [World.size_setCell]; omega⟩⟩
      · refine Or.inr ⟨f - 1, by omega, ?nema, ?opsma⟩
        case nema =>
          cases he0 : eD 0
          · exact ready_ne (i := 13) (by decide) (by kernel_rfl)
          cases he1 : eD 1
          · exact ready_ne (i := 14) (by decide) (by kernel_rfl)
          cases hb0 : bD 0
          · exact ready_ne (i := 3) (by decide) (by kernel_rfl)
          cases hb1 : bD 1
          · exact ready_ne (i := 4) (by decide) (by kernel_rfl)
          cases hb2 : bD 2
          · exact ready_ne (i := 8) (by decide) (by kernel_rfl)
          cases hb3 : bD 3
          · exact ready_ne (i := 11) (by decide) (by kernel_rfl)
          cases hb4 : bD 4
          · exact ready_ne (i := 12) (by decide) (by kernel_rfl)
          exact absurd ⟨hb4, he0, he1⟩ hall
        case opsma =>
          intro i hi
          obtain ⟨hlt, hnot, hdep⟩ := ready_at hi
          replace hlt : i < 18 := hlt
          obtain rfl | rfl | rfl | rfl | rfl | rfl | rfl | rfl | rfl | rfl | rfl | rfl | rfl | rfl | rfl | rfl | rfl | rfl : i = 0 ∨ i = 1 ∨ i = 2 ∨ i = 3 ∨ i = 4 ∨ i = 5 ∨ i = 6 ∨ i = 7 ∨ i = 8 ∨ i = 9 ∨ i = 10 ∨ i = 11 ∨ i = 12 ∨ i = 13 ∨ i = 14 ∨ i = 15 ∨ i = 16 ∨ i = 17 := by omega
          · skip
            exact Bool.noConfusion (show true = false from hnot)
          · skip
            exact Bool.noConfusion (show true = false from hnot)
          · skip
            exact Bool.noConfusion (show true = false from hnot)
          · skip
            have hbj : bD 0 = false := hnot
            refine ⟨_, rfl, fun K' hK => ?_⟩
            go_simp
            (go_at_call 9; refine (pArea a1 a2 b1 b2 c1 c2 _ Eu.out Ev.out).mono ?_; rintro e' X ⟨rfl, bX⟩)
            have hm' := hm.call (SpA0_good A D u v x y) 0 bX (.agg #[.int .i64 u, .int .u64 v]) (fun _ => True) (fun _ => True) ⟨rfl, rfl, rfl⟩ trivial (fun i hi => trivial)
            refine hK.out _ _ ⟨cell_on hm'.bel x_a.c0, cell_on hm'.bel x_a.c1, cell_on hm'.bel x_b.c0, cell_on hm'.bel x_b.c1, cell_on hm'.bel x_c.c0, cell_on hm'.bel x_c.c1, also BB hm'.bel⟩ ?_
            rw [HINV.out]
            exact ⟨upd bD 0 true, eD, pD, upd RD 0 (fun _ => True), upd AD 0 (fun _ => True), upd uD 0 (.agg #[.int .i64 u, .int .u64 v]), vD, fuel_SpA0_b0 hf hbj, rfl, rfl, fun _ => rfl, ch1, ch2, ch3, hm'⟩
          · skip
            have hbj : bD 1 = false := hnot
            have hprev : bD 0 = true := hdep _ rfl 1 _ rfl rfl
            refine ⟨_, rfl, fun K' hK => ?_⟩
            obtain ⟨hu0, _, _⟩ : ValIs _ _ _ _ := hm.spec 0 hprev
            rw [hu0]
            go_simp
            (go_at_call 8; refine (pWide A Hu.out Hv.out GA.out _).mono ?_; rintro e' X ⟨s11, d11, l11, c11, rfl, r11, f11, bX⟩)
            have hm' := hm.call (SpA0_good A D u v x y) 1 bX (.agg #[.int .i64 s11, .slice d11 l11 c11]) (fun w => RN w s11 d11 l11 c11 A) (fun k => NA k d11 l11) ⟨_, _, _, _, rfl, rfl, rfl⟩ r11 (fun i hi => f11 (pD i) (hm.lt i hi) trivial)
            refine hK.out _ _ ⟨cell_on hm'.bel x_a.c0, cell_on hm'.bel x_a.c1, cell_on hm'.bel x_b.c0, cell_on hm'.bel x_b.c1, cell_on hm'.bel x_c.c0, cell_on hm'.bel x_c.c1, also BB hm'.bel⟩ ?_
            rw [HINV.out]
            exact ⟨upd bD 1 true, eD, pD, upd RD 1 (fun w => RN w s11 d11 l11 c11 A), upd AD 1 (fun k => NA k d11 l11), upd uD 1 (.agg #[.int .i64 s11, .slice d11 l11 c11]), vD, fuel_SpA0_b1 hf hbj, rfl, (by rw [show upd uD 1 (.agg #[.int .i64 s11, .slice d11 l11 c11]) 0 = .agg #[.int .i64 u, .int .u64 v] from hu0] <;> rfl), fun _ => hprev, fun _ => rfl, ch2, ch3, hm'⟩
          · skip
            exact Bool.noConfusion (show true = false from hnot)
          · skip
            exact Bool.noConfusion (show true = false from hnot)
          · skip
            exact Bool.noConfusion (show true = false from hnot)
          · skip
            have hbj : bD 2 = false := hnot
            have hprev : bD 1 = true := hdep _ rfl 3 _ rfl rfl
            have hq0 : bD 0 = true := ch0 hprev
            refine ⟨_, rfl, fun K' hK => ?_⟩
            go_simp
            (go_at_call 10; refine (pOrient a1 a2 b1 b2 c1 c2 _ HN.out).mono ?_; rintro e' X ⟨rfl, bX⟩)
            have hm' := hm.call (SpA0_good A D u v x y) 2 bX (.int .i64 0) (fun _ => True) (fun _ => True) ⟨rfl, rfl, rfl⟩ trivial (fun i hi => trivial)
            refine hK.out _ _ ⟨cell_on hm'.bel x_a.c0, cell_on hm'.bel x_a.c1, cell_on hm'.bel x_b.c0, cell_on hm'.bel x_b.c1, cell_on hm'.bel x_c.c0, cell_on hm'.bel x_c.c1, also BB hm'.bel⟩ ?_
            rw [HINV.out]
            exact ⟨upd bD 2 true, eD, pD, upd RD 2 (fun _ => True), upd AD 2 (fun _ => True), upd uD 2 (.int .i64 0), vD, fuel_SpA0_b2 hf hbj, rfl, rfl, ch0, fun _ => hprev, fun _ => rfl, ch3, hm'⟩
          · skip
            exact Bool.noConfusion (show true = false from hnot)
          · skip
            exact Bool.noConfusion (show true = false from hnot)
          · skip
            have hbj : bD 3 = false := hnot
            have hprev : bD 2 = true := hdep _ rfl 2 _ rfl rfl
            have hq1 : bD 1 = true := ch1 hprev
            have hq0 : bD 0 = true := ch0 hq1
            refine ⟨_, rfl, fun K' hK => ?_⟩
            go_simp
            (go_at_call 11; refine (pDist a1 a2 b1 b2 _ Ex.out Ey.out).mono ?_; rintro e' X ⟨rfl, bX⟩)
            have hm' := hm.call (SpA0_good A D u v x y) 3 bX (.agg #[.int .i64 x, .int .u64 y]) (fun _ => True) (fun _ => True) ⟨rfl, rfl, rfl⟩ trivial (fun i hi => trivial)
            refine hK.out _ _ ⟨cell_on hm'.bel x_a.c0, cell_on hm'.bel x_a.c1, cell_on hm'.bel x_b.c0, cell_on hm'.bel x_b.c1, cell_on hm'.bel x_c.c0, cell_on hm'.bel x_c.c1, also BB hm'.bel⟩ ?_
            rw [HINV.out]
            exact ⟨upd bD 3 true, eD, pD, upd RD 3 (fun _ => True), upd AD 3 (fun _ => True), upd uD 3 (.agg #[.int .i64 x, .int .u64 y]), vD, fuel_SpA0_b3 hf hbj, rfl, rfl, ch0, ch1, fun _ => hprev, fun _ => rfl, hm'⟩
          · skip
            have hbj : bD 4 = false := hnot
            have hprev : bD 3 = true := hdep _ rfl 1 _ rfl rfl
            have hq2 : bD 2 = true := ch2 hprev
            have hq1 : bD 1 = true := ch1 hq2
            have hq0 : bD 0 = true := ch0 hq1
            refine ⟨_, rfl, fun K' hK => ?_⟩
            obtain ⟨hu3, _, _⟩ : ValIs _ _ _ _ := hm.spec 3 hprev
            rw [hu3]
            go_simp
            (go_at_call 8; refine (pWide D Hx.out Hy.out GD.out _).mono ?_; rintro e' X ⟨s12, d12, l12, c12, rfl, r12, f12, bX⟩)
            have hm' := hm.call (SpA0_good A D u v x y) 4 bX (.agg #[.int .i64 s12, .slice d12 l12 c12]) (fun w => RN w s12 d12 l12 c12 D) (fun k => NA k d12 l12) ⟨_, _, _, _, rfl, rfl, rfl⟩ r12 (fun i hi => f12 (pD i) (hm.lt i hi) trivial)
            refine hK.out _ _ ⟨cell_on hm'.bel x_a.c0, cell_on hm'.bel x_a.c1, cell_on hm'.bel x_b.c0, cell_on hm'.bel x_b.c1, cell_on hm'.bel x_c.c0, cell_on hm'.bel x_c.c1, also BB hm'.bel⟩ ?_
            rw [HINV.out]
            exact ⟨upd bD 4 true, eD, pD, upd RD 4 (fun w => RN w s12 d12 l12 c12 D), upd AD 4 (fun k => NA k d12 l12), upd uD 4 (.agg #[.int .i64 s12, .slice d12 l12 c12]), vD, fuel_SpA0_b4 hf hbj, rfl, (by rw [show upd uD 4 (.agg #[.int .i64 s12, .slice d12 l12 c12]) 3 = .agg #[.int .i64 x, .int .u64 y] from hu3] <;> rfl), ch0, ch1, ch2, fun _ => hprev, hm'⟩
          · skip
            have hei : eD 0 = false := hnot
            refine ⟨_, rfl, fun K' hK => ?_⟩
            go_simp
            have hm' := hm.alloc (SpA0_good A D u v x y) 0 27 hei
            refine hK.out _ _ ⟨cell_on hm'.bel x_a.c0, cell_on hm'.bel x_a.c1, cell_on hm'.bel x_b.c0, cell_on hm'.bel x_b.c1, cell_on hm'.bel x_c.c0, cell_on hm'.bel x_c.c1, also BB hm'.bel⟩ ?_
            rw [HINV.out]
            exact ⟨bD, upd eD 0 true, upd pD 0 wr.heap.size, RD, AD, uD, upd vD 0 (.pointer (some ⟨wr.heap.size, 0, none⟩)), fuel_SpA0_e0 hf hei, rfl, rfl, ch0, ch1, ch2, ch3, hm'⟩
          · skip
            have hei : eD 1 = false := hnot
            refine ⟨_, rfl, fun K' hK => ?_⟩
            go_simp
            have hm' := hm.alloc (SpA0_good A D u v x y) 1 27 hei
            refine hK.out _ _ ⟨cell_on hm'.bel x_a.c0, cell_on hm'.bel x_a.c1, cell_on hm'.bel x_b.c0, cell_on hm'.bel x_b.c1, cell_on hm'.bel x_c.c0, cell_on hm'.bel x_c.c1, also BB hm'.bel⟩ ?_
            rw [HINV.out]
            exact ⟨bD, upd eD 1 true, upd pD 1 wr.heap.size, RD, AD, uD, upd vD 1 (.pointer (some ⟨wr.heap.size, 0, none⟩)), fuel_SpA0_e1 hf hei, rfl, rfl, ch0, ch1, ch2, ch3, hm'⟩
          · skip
            exact absurd ⟨hdep _ rfl 2 _ rfl rfl, hdep _ rfl 0 _ rfl rfl, hdep _ rfl 17 _ rfl rfl⟩ hall
          · skip
            exact Bool.noConfusion (show false = true from hdep _ rfl 1 _ rfl rfl)
          · skip
            exact Bool.noConfusion (show false = true from hdep _ rfl 18 _ rfl rfl)
    rw [HQQ.out]
    rintro e act Y1 ⟨rfl, pma0, pma1, s11, d11, l11, c11, s12, d12, l12, c12, rfl, r11, r12, x_a, x_b, x_c, x_X, x_Y, BB, z_Y1, z_Y1_pma0, z_Y1_pma1⟩
    clear HQQ QQ
    try dsimp only
    have hs11 : s11 = 0 := by have := r11.sg; rw [HA0.out] at this; exact this
    have hs12 : s12 = 0 := by have := r12.sg; rw [HD0.out] at this; exact this
    subst hs11
    subst hs12
    have ⟨x_a_0, x_a_1, x_a_2, x_a_3⟩ := x_a
    have ⟨x_b_0, x_b_1, x_b_2, x_b_3⟩ := x_b
    have ⟨x_c_0, x_c_1, x_c_2, x_c_3⟩ := x_c
    have ⟨x_X_0, x_X_1, x_X_2, x_X_3⟩ := x_X
    have ⟨x_Y_0, x_Y_1, x_Y_2, x_Y_3⟩ := x_Y
    go_wp2_with (go_at_call 12; fail)
    refine (rlCan a1 a2 Y1 (r64 Ra1.out) (r64 Ra2.out) ha.symm).mono ?_
    rintro e v0 ⟨rfl, bv0⟩
    clear x_a_0 x_a_1 x_a_2 x_a_3 x_b_0 x_b_1 x_b_2 x_b_3 x_c_0 x_c_1 x_c_2 x_c_3 x_X_0 x_X_1 x_X_2 x_X_3 x_Y_0 x_Y_1 x_Y_2 x_Y_3
    have zbv0 := bv0.size
    replace BB := also BB bv0
    replace x_a := x_a.on bv0
    replace x_b := x_b.on bv0
    replace x_c := x_c.on bv0
    replace r11 := r11.below bv0
    replace r12 := r12.below bv0
    replace x_X := x_X.on bv0
    replace x_Y := x_Y.on bv0
    have ⟨x_a_0, x_a_1, x_a_2, x_a_3⟩ := x_a
    have ⟨x_b_0, x_b_1, x_b_2, x_b_3⟩ := x_b
    have ⟨x_c_0, x_c_1, x_c_2, x_c_3⟩ := x_c
    have ⟨x_X_0, x_X_1, x_X_2, x_X_3⟩ := x_X
    have ⟨x_Y_0, x_Y_1, x_Y_2, x_Y_3⟩ := x_Y
    go_wp2_with (go_at_call 13; fail)
    refine (lives7_any v0).mono ?_
    rintro e v9 ⟨rfl, bv9⟩
    clear x_a_0 x_a_1 x_a_2 x_a_3 x_b_0 x_b_1 x_b_2 x_b_3 x_c_0 x_c_1 x_c_2 x_c_3 x_X_0 x_X_1 x_X_2 x_X_3 x_Y_0 x_Y_1 x_Y_2 x_Y_3
    have zbv9 := bv9.size
    replace BB := also BB bv9
    replace x_a := x_a.on bv9
    replace x_b := x_b.on bv9
    replace x_c := x_c.on bv9
    replace r11 := r11.below bv9
    replace r12 := r12.below bv9
    replace x_X := x_X.on bv9
    replace x_Y := x_Y.on bv9
    go_wp2
    go_ret
    exact ⟨rfl, BB⟩
  · skip
    cases hb : canC b1 b2
    · skip
      have hA0 : A = 0 := by rw [hA]; unfold arP; rw [if_neg]; rw [can3]; rintro ⟨qa, qb, qc⟩; simp_all
      obtain rfl : n = 0 := by rw [hn, hA0]; rfl
      have HA0 : Hid _ := hA0
      clear hA0 hn
      have HD0 : Hid (D = 0) := by unfold Hid; rw [hD]; unfold diP; rw [if_neg]; rw [can2]; rintro ⟨qa, qb⟩; simp_all
      clear hA hD
      have Z1 : Hid ((0 : Int) = (D - D).sign) := by unfold Hid; rw [Int.sub_self]; rfl
      have Z2 : Hid ((0 : Int) = (A - A).sign) := by unfold Hid; rw [Int.sub_self]; rfl
      obtain ⟨W, hW, bW, x_a, x_b, x_c, sW⟩ := bs_222 w (.int .i64 a1) (.int .i64 a2) (.int .i64 b1) (.int .i64 b2) (.int .i64 c1) (.int .i64 c2) 23 23 23
      have zbW := bW.size
      have BB := bW
      go_enter Try.func3, Try.ntmps3
      go_wp2
      rw [← hW]
      clear hW
      obtain ⟨QQ, hQQ⟩ : ∃ QQ : Exit → Act → World → Prop, QQ = fun e act wr => e = .normal ∧ ∃ (pmb0 : Nat) (pmb1 : Nat) (s11 : Int) (d11 : Option Addr) (l11 c11 : Nat) (s12 : Int) (d12 : Option Addr) (l12 c12 : Nat), act = ⟨#[.agg #[.int .i64 a1, .int .i64 a2], .agg #[.int .i64 b1, .int .i64 b2], .agg #[.int .i64 c1, .int .i64 c2], .pointer (some ⟨w.heap.size, 0, none⟩), .pointer (some ⟨w.heap.size + 1, 0, none⟩), .pointer (some ⟨w.heap.size + 1 + 1, 0, none⟩), .bool false, .pointer (some ⟨pmb0, 0, none⟩), .int .i64 0, .pointer (some ⟨pmb1, 0, none⟩), .agg #[.int .i64 a1, .int .i64 a2], .agg #[.int .i64 b1, .int .i64 b2], .agg #[.int .i64 c1, .int .i64 c2], .agg #[.int .i64 u, .int .u64 v], .agg #[.int .i64 s11, .slice d11 l11 c11], .agg #[.int .i64 a1, .int .i64 a2], .agg #[.int .i64 b1, .int .i64 b2], .agg #[.int .i64 c1, .int .i64 c2], .int .i64 0, .agg #[.int .i64 a1, .int .i64 a2], .agg #[.int .i64 b1, .int .i64 b2], .agg #[.int .i64 x, .int .u64 y], .agg #[.int .i64 s12, .slice d12 l12 c12], undef, undef, undef, undef, undef, undef, undef, undef, undef, undef, undef, undef, undef, undef, undef, undef, undef, undef, undef, undef, undef, undef, undef, undef, undef, undef, undef, undef, undef, undef, undef, undef, undef, undef, undef, undef, undef, undef, undef, undef, undef, undef, undef, undef, undef, undef, undef, undef, undef, undef, undef, undef, undef, undef, undef, undef, undef, undef, undef, undef, undef, undef, undef, undef, undef, undef], []⟩ ∧ RN wr s11 d11 l11 c11 A ∧ RN wr s12 d12 l12 c12 D ∧ Bx wr (w.heap.size) (.int .i64 a1) (.int .i64 a2) ∧ Bx wr (w.heap.size + 1) (.int .i64 b1) (.int .i64 b2) ∧ Bx wr (w.heap.size + 1 + 1) (.int .i64 c1) (.int .i64 c2) ∧ Bx wr pmb0 (.int .i64 s11) (.slice d11 l11 c11) ∧ Bx wr pmb1 (.int .i64 s12) (.slice d12 l12 c12) ∧ Below w.heap.size w wr ∧ W.heap.size ≤ wr.heap.size ∧ (W.heap.size ≤ pmb0 ∧ pmb0 < wr.heap.size) ∧ (W.heap.size ≤ pmb1 ∧ pmb1 < wr.heap.size) := ⟨_, rfl⟩
      have HQQ : Hid _ := hQQ
      clear hQQ
      refine wp_mono (Q := QQ) ?_ ?_
      · refine wp_region_held_drew (S := (fun w' => w'.cell? ⟨w.heap.size, 0, none⟩ = some (.int .i64 a1) ∧ w'.cell? ⟨w.heap.size, 1, none⟩ = some (.int .i64 a2) ∧ w'.cell? ⟨w.heap.size + 1, 0, none⟩ = some (.int .i64 b1) ∧ w'.cell? ⟨w.heap.size + 1, 1, none⟩ = some (.int .i64 b2) ∧ w'.cell? ⟨w.heap.size + 1 + 1, 0, none⟩ = some (.int .i64 c1) ∧ w'.cell? ⟨w.heap.size + 1 + 1, 1, none⟩ = some (.int .i64 c2) ∧ Below w.heap.size w w')) (by kernel_rfl) ?_ (fun hHeld => ?_)
        · exact ⟨x_a.c0, x_a.c1, x_b.c0, x_b.c1, x_c.c0, x_c.c1, BB.drew⟩
        refine take_yes (i := 0) (v := ?vmb0x1) rfl (by kernel_rfl) (by kernel_rfl) (by kernel_rfl) (fun _ _ _ h => by rw [HQQ.out] at h; exact Exit.noConfusion h.1) (by rfl) (by assumption) ?hymb0x1 ?restmb0x1
        case hymb0x1 => (intro w hSw; (try dsimp only at hSw); first | (go_simp; done) | (go_simp; with_reducible rfl))
        simp only [Act.put, List.setIfInBounds_toArray, List.set_cons_zero, List.set_cons_succ]
        refine take_yes (i := 1) (v := ?vmb1x2) rfl (by kernel_rfl) (by kernel_rfl) (by kernel_rfl) (fun _ _ _ h => by rw [HQQ.out] at h; exact Exit.noConfusion h.1) (by rfl) (by assumption) ?hymb1x2 ?restmb1x2
        case hymb1x2 => (intro w hSw; (try dsimp only at hSw); first | (go_simp; done) | (go_simp; with_reducible rfl))
        simp only [Act.put, List.setIfInBounds_toArray, List.set_cons_zero, List.set_cons_succ]
        refine take_yes (i := 2) (v := ?vmb2x3) rfl (by kernel_rfl) (by kernel_rfl) (by kernel_rfl) (fun _ _ _ h => by rw [HQQ.out] at h; exact Exit.noConfusion h.1) (by rfl) (by assumption) ?hymb2x3 ?restmb2x3
        case hymb2x3 => (intro w hSw; (try dsimp only at hSw); first | (go_simp; done) | (go_simp; with_reducible rfl))
        simp only [Act.put, List.setIfInBounds_toArray, List.set_cons_zero, List.set_cons_succ]
        refine take_yes (i := 5) (v := ?vmb5x4) rfl (by kernel_rfl) (by kernel_rfl) (by kernel_rfl) (fun _ _ _ h => by rw [HQQ.out] at h; exact Exit.noConfusion h.1) (by rfl) (by assumption) ?hymb5x4 ?restmb5x4
        case hymb5x4 => (intro w hSw; (try dsimp only at hSw); first | (go_simp; done) | (go_simp; with_reducible rfl))
        simp only [Act.put, List.setIfInBounds_toArray, List.set_cons_zero, List.set_cons_succ]
        refine take_yes (i := 6) (v := ?vmb6x5) rfl (by kernel_rfl) (by kernel_rfl) (by kernel_rfl) (fun _ _ _ h => by rw [HQQ.out] at h; exact Exit.noConfusion h.1) (by rfl) (by assumption) ?hymb6x5 ?restmb6x5
        case hymb6x5 => (intro w hSw; (try dsimp only at hSw); first | (go_simp; done) | (go_simp; with_reducible rfl))
        simp only [Act.put, List.setIfInBounds_toArray, List.set_cons_zero, List.set_cons_succ]
        refine take_yes (i := 7) (v := ?vmb7x6) rfl (by kernel_rfl) (by kernel_rfl) (by kernel_rfl) (fun _ _ _ h => by rw [HQQ.out] at h; exact Exit.noConfusion h.1) (by rfl) (by assumption) ?hymb7x6 ?restmb7x6
        case hymb7x6 => (intro w hSw; (try dsimp only at hSw); first | (go_simp; done) | (go_simp; with_reducible rfl))
        simp only [Act.put, List.setIfInBounds_toArray, List.set_cons_zero, List.set_cons_succ]
        refine take_yes (i := 9) (v := ?vmb9x7) rfl (by kernel_rfl) (by kernel_rfl) (by kernel_rfl) (fun _ _ _ h => by rw [HQQ.out] at h; exact Exit.noConfusion h.1) (by rfl) (by assumption) ?hymb9x7 ?restmb9x7
        case hymb9x7 => (intro w hSw; (try dsimp only at hSw); first | (go_simp; done) | (go_simp; with_reducible rfl))
        simp only [Act.put, List.setIfInBounds_toArray, List.set_cons_zero, List.set_cons_succ]
        refine take_yes (i := 10) (v := ?vmb10x8) rfl (by kernel_rfl) (by kernel_rfl) (by kernel_rfl) (fun _ _ _ h => by rw [HQQ.out] at h; exact Exit.noConfusion h.1) (by rfl) (by assumption) ?hymb10x8 ?restmb10x8
        case hymb10x8 => (intro w hSw; (try dsimp only at hSw); first | (go_simp; done) | (go_simp; with_reducible rfl))
        simp only [Act.put, List.setIfInBounds_toArray, List.set_cons_zero, List.set_cons_succ]
        clear hHeld
        obtain ⟨INV, hINV⟩ : ∃ INV : Nat → Array Bool → Act → World → Prop, INV = fun f L act wr => ∃ (bD eD : Nat → Bool) (pD : Nat → Nat) (RD : Nat → World → Prop) (AD : Nat → Nat → Prop) (uD vD : Nat → Value), f = 3 + (nb (bD 0) + nb (bD 1) + nb (bD 2) + nb (bD 3) + nb (bD 4) + nb (eD 0) + nb (eD 1)) ∧ L = #[true, true, true, bD 0, bD 1, true, true, true, bD 2, true, true, bD 3, bD 4, eD 0, eD 1, false, false, false] ∧ act = ⟨#[.agg #[.int .i64 a1, .int .i64 a2], .agg #[.int .i64 b1, .int .i64 b2], .agg #[.int .i64 c1, .int .i64 c2], .pointer (some ⟨w.heap.size, 0, none⟩), .pointer (some ⟨w.heap.size + 1, 0, none⟩), .pointer (some ⟨w.heap.size + 1 + 1, 0, none⟩), .bool false, vD 0, undef, vD 1, .agg #[.int .i64 a1, .int .i64 a2], .agg #[.int .i64 b1, .int .i64 b2], .agg #[.int .i64 c1, .int .i64 c2], uD 0, uD 1, .agg #[.int .i64 a1, .int .i64 a2], .agg #[.int .i64 b1, .int .i64 b2], .agg #[.int .i64 c1, .int .i64 c2], uD 2, .agg #[.int .i64 a1, .int .i64 a2], .agg #[.int .i64 b1, .int .i64 b2], uD 3, uD 4, undef, undef, undef, undef, undef, undef, undef, undef, undef, undef, undef, undef, undef, undef, undef, undef, undef, undef, undef, undef, undef, undef, undef, undef, undef, undef, undef, undef, undef, undef, undef, undef, undef, undef, undef, undef, undef, undef, undef, undef, undef, undef, undef, undef, undef, undef, undef, undef, undef, undef, undef, undef, undef, undef, undef, undef, undef, undef, undef, undef, undef, undef, undef, undef, undef, undef], []⟩ ∧ (bD 1 = true → bD 0 = true) ∧ (bD 2 = true → bD 1 = true) ∧ (bD 3 = true → bD 2 = true) ∧ (bD 4 = true → bD 3 = true) ∧ Mk W SpA0Z (SpA0 A D u v x y) bD eD pD RD AD uD vD wr := ⟨_, rfl⟩
        have HINV : Hid _ := hINV
        clear hINV
        refine phase INV ?stepmb _ _ _ _ ?initmb
        case initmb => rw [HINV.out]; exact ⟨fun _ => false, fun _ => false, fun _ => 0, fun _ _ => True, fun _ _ => True, fun _ => undef, fun _ => undef, rfl, rfl, rfl, fun h => Bool.noConfusion h, fun h => Bool.noConfusion h, fun h => Bool.noConfusion h, fun h => Bool.noConfusion h, Mk.start _ _ _ (Below.refl _ _).drew⟩
        intro f L act wr hinv
        rw [HINV.out] at hinv
        obtain ⟨bD, eD, pD, RD, AD, uD, vD, hf, rfl, rfl, ch0, ch1, ch2, ch3, hm⟩ := hinv
        by_cases hall : bD 4 = true ∧ eD 0 = true ∧ eD 1 = true
        · refine Or.inl ?_
          obtain ⟨hb4, he0, he1⟩ := hall
          have hb3 := ch3 hb4
          have hb2 := ch2 hb3
          have hb1 := ch1 hb2
          have hb0 := ch0 hb1
          simp only [hb0, hb1, hb2, hb3, hb4, he0, he1, nb] at hf
          subst hf
          rw [hb0, hb1, hb2, hb3, hb4, he0, he1, hm.ptr 0 he0, hm.ptr 1 he1]
          obtain ⟨hu0, _, _⟩ : ValIs _ _ _ _ := hm.spec 0 hb0
          rw [hu0]
          obtain ⟨s11, d11, l11, c11, hu1, hR1, hA1⟩ : RNIs _ _ _ _ := hm.spec 1 hb1
          rw [hu1]
          have r11 : RN wr s11 d11 l11 c11 A := by have := hm.res 1 hb1; rw [hR1] at this; exact this
          have n_r11_0_pmb0 : NA (pD 0) d11 l11 := by have := hm.ap 0 1 he0 hb1; rw [hA1] at this; exact this
          have n_r11_0_pmb1 : NA (pD 1) d11 l11 := by have := hm.ap 1 1 he1 hb1; rw [hA1] at this; exact this
          obtain ⟨hu2, _, _⟩ : ValIs _ _ _ _ := hm.spec 2 hb2
          rw [hu2]
          obtain ⟨hu3, _, _⟩ : ValIs _ _ _ _ := hm.spec 3 hb3
          rw [hu3]
          obtain ⟨s12, d12, l12, c12, hu4, hR4, hA4⟩ : RNIs _ _ _ _ := hm.spec 4 hb4
          rw [hu4]
          have r12 : RN wr s12 d12 l12 c12 D := by have := hm.res 4 hb4; rw [hR4] at this; exact this
          have n_r12_0_pmb0 : NA (pD 0) d12 l12 := by have := hm.ap 0 4 he0 hb4; rw [hA4] at this; exact this
          have n_r12_0_pmb1 : NA (pD 1) d12 l12 := by have := hm.ap 1 4 he1 hb4; rw [hA4] at this; exact this
          have y_pmb0 : Bx wr (pD 0) (.int .i64 0) (.slice none 0 0) := bx_row (hm.blk 0 he0)
          have gpmb0 := hm.old 0 he0
          have ltpmb0 := hm.lt 0 he0
          have y_pmb1 : Bx wr (pD 1) (.int .i64 0) (.slice none 0 0) := bx_row (hm.blk 1 he1)
          have gpmb1 := hm.old 1 he1
          have ltpmb1 := hm.lt 1 he1
          have ne_0_1 : pD 0 ≠ pD 1 := hm.ne 0 1 he0 he1 (by decide)
          have BU := hm.bel
          replace x_a := x_a.on BU
          replace x_b := x_b.on BU
          replace x_c := x_c.on BU
          replace BB := also BB BU
          have hHeld : ((fun w' => w'.cell? ⟨w.heap.size, 0, none⟩ = some (.int .i64 a1) ∧ w'.cell? ⟨w.heap.size, 1, none⟩ = some (.int .i64 a2) ∧ w'.cell? ⟨w.heap.size + 1, 0, none⟩ = some (.int .i64 b1) ∧ w'.cell? ⟨w.heap.size + 1, 1, none⟩ = some (.int .i64 b2) ∧ w'.cell? ⟨w.heap.size + 1 + 1, 0, none⟩ = some (.int .i64 c1) ∧ w'.cell? ⟨w.heap.size + 1 + 1, 1, none⟩ = some (.int .i64 c2) ∧ Below w.heap.size w w')) wr := ⟨x_a.c0, x_a.c1, x_b.c0, x_b.c1, x_c.c0, x_c.c1, BB⟩
          clear hm HINV INV ch0 ch1 ch2 ch3
          generalize pD 0 = pmb0 at *
          generalize pD 1 = pmb1 at *
          dsimp only at hHeld
          have ⟨c_pmb0_0, c_pmb0_1, c_pmb0_2, c_pmb0_3⟩ : Bx wr pmb0 (.int .i64 0) (.slice none 0 0) := y_pmb0
          refine take_call (i := 15) rfl (by kernel_rfl) (fun Kc hK => ?_)
          go_simp
          refine hK.out _ _ ⟨cell_put2 hHeld.1 (by omega) _ _, cell_put2 hHeld.2.1 (by omega) _ _, cell_put2 hHeld.2.2.1 (by omega) _ _, cell_put2 hHeld.2.2.2.1 (by omega) _ _, cell_put2 hHeld.2.2.2.2.1 (by omega) _ _, cell_put2 hHeld.2.2.2.2.2.1 (by omega) _ _, below_put2 hHeld.2.2.2.2.2.2 (by omega) _ _⟩ (fun hHeld => ?_)
          clear hK Kc
          refine take_yes (i := 16) (v := ?vmb16x9) rfl (by kernel_rfl) (by kernel_rfl) (by kernel_rfl) (fun _ _ _ h => by rw [HQQ.out] at h; exact Exit.noConfusion h.1) (by rfl) (by assumption) ?hymb16x9 ?restmb16x9
          case hymb16x9 => (intro w hSw; (try dsimp only at hSw); first | (go_simp; done) | (go_simp; with_reducible rfl))
          simp only [Act.put, List.setIfInBounds_toArray, List.set_cons_zero, List.set_cons_succ]
          have ⟨c_pmb1_0, c_pmb1_1, c_pmb1_2, c_pmb1_3⟩ : Bx ((wr.setCell ⟨pmb0, 0, none⟩ (.int .i64 s11)).setCell ⟨pmb0, 1, none⟩ (.slice d11 l11 c11)) pmb1 (.int .i64 0) (.slice none 0 0) := ((y_pmb1.put ne_0_1).put ne_0_1)
          refine take_call (i := 17) rfl (by kernel_rfl) (fun Kc hK => ?_)
          go_simp
          refine hK.out _ _ ⟨cell_put2 hHeld.1 (by omega) _ _, cell_put2 hHeld.2.1 (by omega) _ _, cell_put2 hHeld.2.2.1 (by omega) _ _, cell_put2 hHeld.2.2.2.1 (by omega) _ _, cell_put2 hHeld.2.2.2.2.1 (by omega) _ _, cell_put2 hHeld.2.2.2.2.2.1 (by omega) _ _, below_put2 hHeld.2.2.2.2.2.2 (by omega) _ _⟩ (fun hHeld => ?_)
          clear hK Kc
          refine wpAnyH_done (by kernel_rfl) ?_ _
          rw [HQQ.out]
          exact ⟨rfl, pmb0, pmb1, s11, d11, l11, c11, s12, d12, l12, c12, rfl, ((((r11.put n_r11_0_pmb0 0 _).put n_r11_0_pmb0 1 _).put n_r11_0_pmb1 0 _).put n_r11_0_pmb1 1 _), ((((r12.put n_r12_0_pmb0 0 _).put n_r12_0_pmb0 1 _).put n_r12_0_pmb1 0 _).put n_r12_0_pmb1 1 _), ((((x_a.put (by omega)).put (by omega)).put (by omega)).put (by omega)), ((((x_b.put (by omega)).put (by omega)).put (by omega)).put (by omega)), ((((x_c.put (by omega)).put (by omega)).put (by omega)).put (by omega)), ((y_pmb0.set.put (fun e => ne_0_1 e.symm)).put (fun e => ne_0_1 e.symm)), ((y_pmb1.put ne_0_1).put ne_0_1).set, (below_put2 (below_put2 BB (by omega) _ _) (by omega) _ _), by have := BU.size; simp only [World.size_setCell]; omega, ⟨gpmb0, by simp only [World.size_setCell]; omega⟩, ⟨gpmb1, by simp only [World.size_setCell]; omega⟩⟩
        · refine Or.inr ⟨f - 1, by omega, ?nemb, ?opsmb⟩
          case nemb =>
            cases he0 : eD 0
            · exact ready_ne (i := 13) (by decide) (by kernel_rfl)
            cases he1 : eD 1
            · exact ready_ne (i := 14) (by decide) (by kernel_rfl)
            cases hb0 : bD 0
            · exact ready_ne (i := 3) (by decide) (by kernel_rfl)
            cases hb1 : bD 1
            · exact ready_ne (i := 4) (by decide) (by kernel_rfl)
            cases hb2 : bD 2
            · exact ready_ne (i := 8) (by decide) (by kernel_rfl)
            cases hb3 : bD 3
            · exact ready_ne (i := 11) (by decide) (by kernel_rfl)
            cases hb4 : bD 4
            · exact ready_ne (i := 12) (by decide) (by kernel_rfl)
            exact absurd ⟨hb4, he0, he1⟩ hall
          case opsmb =>
            intro i hi
            obtain ⟨hlt, hnot, hdep⟩ := ready_at hi
            replace hlt : i < 18 := hlt
            obtain rfl | rfl | rfl | rfl | rfl | rfl | rfl | rfl | rfl | rfl | rfl | rfl | rfl | rfl | rfl | rfl | rfl | rfl : i = 0 ∨ i = 1 ∨ i = 2 ∨ i = 3 ∨ i = 4 ∨ i = 5 ∨ i = 6 ∨ i = 7 ∨ i = 8 ∨ i = 9 ∨ i = 10 ∨ i = 11 ∨ i = 12 ∨ i = 13 ∨ i = 14 ∨ i = 15 ∨ i = 16 ∨ i = 17 := by omega
            · skip
              exact Bool.noConfusion (show true = false from hnot)
            · skip
              exact Bool.noConfusion (show true = false from hnot)
            · skip
              exact Bool.noConfusion (show true = false from hnot)
            · skip
              have hbj : bD 0 = false := hnot
              refine ⟨_, rfl, fun K' hK => ?_⟩
              go_simp
              (go_at_call 9; refine (pArea a1 a2 b1 b2 c1 c2 _ Eu.out Ev.out).mono ?_; rintro e' X ⟨rfl, bX⟩)
              have hm' := hm.call (SpA0_good A D u v x y) 0 bX (.agg #[.int .i64 u, .int .u64 v]) (fun _ => True) (fun _ => True) ⟨rfl, rfl, rfl⟩ trivial (fun i hi => trivial)
              refine hK.out _ _ ⟨cell_on hm'.bel x_a.c0, cell_on hm'.bel x_a.c1, cell_on hm'.bel x_b.c0, cell_on hm'.bel x_b.c1, cell_on hm'.bel x_c.c0, cell_on hm'.bel x_c.c1, also BB hm'.bel⟩ ?_
              rw [HINV.out]
              exact ⟨upd bD 0 true, eD, pD, upd RD 0 (fun _ => True), upd AD 0 (fun _ => True), upd uD 0 (.agg #[.int .i64 u, .int .u64 v]), vD, fuel_SpA0_b0 hf hbj, rfl, rfl, fun _ => rfl, ch1, ch2, ch3, hm'⟩
            · skip
              have hbj : bD 1 = false := hnot
              have hprev : bD 0 = true := hdep _ rfl 1 _ rfl rfl
              refine ⟨_, rfl, fun K' hK => ?_⟩
              obtain ⟨hu0, _, _⟩ : ValIs _ _ _ _ := hm.spec 0 hprev
              rw [hu0]
              go_simp
              (go_at_call 8; refine (pWide A Hu.out Hv.out GA.out _).mono ?_; rintro e' X ⟨s11, d11, l11, c11, rfl, r11, f11, bX⟩)
              have hm' := hm.call (SpA0_good A D u v x y) 1 bX (.agg #[.int .i64 s11, .slice d11 l11 c11]) (fun w => RN w s11 d11 l11 c11 A) (fun k => NA k d11 l11) ⟨_, _, _, _, rfl, rfl, rfl⟩ r11 (fun i hi => f11 (pD i) (hm.lt i hi) trivial)
              refine hK.out _ _ ⟨cell_on hm'.bel x_a.c0, cell_on hm'.bel x_a.c1, cell_on hm'.bel x_b.c0, cell_on hm'.bel x_b.c1, cell_on hm'.bel x_c.c0, cell_on hm'.bel x_c.c1, also BB hm'.bel⟩ ?_
              rw [HINV.out]
              exact ⟨upd bD 1 true, eD, pD, upd RD 1 (fun w => RN w s11 d11 l11 c11 A), upd AD 1 (fun k => NA k d11 l11), upd uD 1 (.agg #[.int .i64 s11, .slice d11 l11 c11]), vD, fuel_SpA0_b1 hf hbj, rfl, (by rw [show upd uD 1 (.agg #[.int .i64 s11, .slice d11 l11 c11]) 0 = .agg #[.int .i64 u, .int .u64 v] from hu0] <;> rfl), fun _ => hprev, fun _ => rfl, ch2, ch3, hm'⟩
            · skip
              exact Bool.noConfusion (show true = false from hnot)
            · skip
              exact Bool.noConfusion (show true = false from hnot)
            · skip
              exact Bool.noConfusion (show true = false from hnot)
            · skip
              have hbj : bD 2 = false := hnot
              have hprev : bD 1 = true := hdep _ rfl 3 _ rfl rfl
              have hq0 : bD 0 = true := ch0 hprev
              refine ⟨_, rfl, fun K' hK => ?_⟩
              go_simp
              (go_at_call 10; refine (pOrient a1 a2 b1 b2 c1 c2 _ HN.out).mono ?_; rintro e' X ⟨rfl, bX⟩)
              have hm' := hm.call (SpA0_good A D u v x y) 2 bX (.int .i64 0) (fun _ => True) (fun _ => True) ⟨rfl, rfl, rfl⟩ trivial (fun i hi => trivial)
              refine hK.out _ _ ⟨cell_on hm'.bel x_a.c0, cell_on hm'.bel x_a.c1, cell_on hm'.bel x_b.c0, cell_on hm'.bel x_b.c1, cell_on hm'.bel x_c.c0, cell_on hm'.bel x_c.c1, also BB hm'.bel⟩ ?_
              rw [HINV.out]
              exact ⟨upd bD 2 true, eD, pD, upd RD 2 (fun _ => True), upd AD 2 (fun _ => True), upd uD 2 (.int .i64 0), vD, fuel_SpA0_b2 hf hbj, rfl, rfl, ch0, fun _ => hprev, fun _ => rfl, ch3, hm'⟩
            · skip
              exact Bool.noConfusion (show true = false from hnot)
            · skip
              exact Bool.noConfusion (show true = false from hnot)
            · skip
              have hbj : bD 3 = false := hnot
              have hprev : bD 2 = true := hdep _ rfl 2 _ rfl rfl
              have hq1 : bD 1 = true := ch1 hprev
              have hq0 : bD 0 = true := ch0 hq1
              refine ⟨_, rfl, fun K' hK => ?_⟩
              go_simp
              (go_at_call 11; refine (pDist a1 a2 b1 b2 _ Ex.out Ey.out).mono ?_; rintro e' X ⟨rfl, bX⟩)
              have hm' := hm.call (SpA0_good A D u v x y) 3 bX (.agg #[.int .i64 x, .int .u64 y]) (fun _ => True) (fun _ => True) ⟨rfl, rfl, rfl⟩ trivial (fun i hi => trivial)
              refine hK.out _ _ ⟨cell_on hm'.bel x_a.c0, cell_on hm'.bel x_a.c1, cell_on hm'.bel x_b.c0, cell_on hm'.bel x_b.c1, cell_on hm'.bel x_c.c0, cell_on hm'.bel x_c.c1, also BB hm'.bel⟩ ?_
              rw [HINV.out]
              exact ⟨upd bD 3 true, eD, pD, upd RD 3 (fun _ => True), upd AD 3 (fun _ => True), upd uD 3 (.agg #[.int .i64 x, .int .u64 y]), vD, fuel_SpA0_b3 hf hbj, rfl, rfl, ch0, ch1, fun _ => hprev, fun _ => rfl, hm'⟩
            · skip
              have hbj : bD 4 = false := hnot
              have hprev : bD 3 = true := hdep _ rfl 1 _ rfl rfl
              have hq2 : bD 2 = true := ch2 hprev
              have hq1 : bD 1 = true := ch1 hq2
              have hq0 : bD 0 = true := ch0 hq1
              refine ⟨_, rfl, fun K' hK => ?_⟩
              obtain ⟨hu3, _, _⟩ : ValIs _ _ _ _ := hm.spec 3 hprev
              rw [hu3]
              go_simp
              (go_at_call 8; refine (pWide D Hx.out Hy.out GD.out _).mono ?_; rintro e' X ⟨s12, d12, l12, c12, rfl, r12, f12, bX⟩)
              have hm' := hm.call (SpA0_good A D u v x y) 4 bX (.agg #[.int .i64 s12, .slice d12 l12 c12]) (fun w => RN w s12 d12 l12 c12 D) (fun k => NA k d12 l12) ⟨_, _, _, _, rfl, rfl, rfl⟩ r12 (fun i hi => f12 (pD i) (hm.lt i hi) trivial)
              refine hK.out _ _ ⟨cell_on hm'.bel x_a.c0, cell_on hm'.bel x_a.c1, cell_on hm'.bel x_b.c0, cell_on hm'.bel x_b.c1, cell_on hm'.bel x_c.c0, cell_on hm'.bel x_c.c1, also BB hm'.bel⟩ ?_
              rw [HINV.out]
              exact ⟨upd bD 4 true, eD, pD, upd RD 4 (fun w => RN w s12 d12 l12 c12 D), upd AD 4 (fun k => NA k d12 l12), upd uD 4 (.agg #[.int .i64 s12, .slice d12 l12 c12]), vD, fuel_SpA0_b4 hf hbj, rfl, (by rw [show upd uD 4 (.agg #[.int .i64 s12, .slice d12 l12 c12]) 3 = .agg #[.int .i64 x, .int .u64 y] from hu3] <;> rfl), ch0, ch1, ch2, fun _ => hprev, hm'⟩
            · skip
              have hei : eD 0 = false := hnot
              refine ⟨_, rfl, fun K' hK => ?_⟩
              go_simp
              have hm' := hm.alloc (SpA0_good A D u v x y) 0 27 hei
              refine hK.out _ _ ⟨cell_on hm'.bel x_a.c0, cell_on hm'.bel x_a.c1, cell_on hm'.bel x_b.c0, cell_on hm'.bel x_b.c1, cell_on hm'.bel x_c.c0, cell_on hm'.bel x_c.c1, also BB hm'.bel⟩ ?_
              rw [HINV.out]
              exact ⟨bD, upd eD 0 true, upd pD 0 wr.heap.size, RD, AD, uD, upd vD 0 (.pointer (some ⟨wr.heap.size, 0, none⟩)), fuel_SpA0_e0 hf hei, rfl, rfl, ch0, ch1, ch2, ch3, hm'⟩
            · skip
              have hei : eD 1 = false := hnot
              refine ⟨_, rfl, fun K' hK => ?_⟩
              go_simp
              have hm' := hm.alloc (SpA0_good A D u v x y) 1 27 hei
              refine hK.out _ _ ⟨cell_on hm'.bel x_a.c0, cell_on hm'.bel x_a.c1, cell_on hm'.bel x_b.c0, cell_on hm'.bel x_b.c1, cell_on hm'.bel x_c.c0, cell_on hm'.bel x_c.c1, also BB hm'.bel⟩ ?_
              rw [HINV.out]
              exact ⟨bD, upd eD 1 true, upd pD 1 wr.heap.size, RD, AD, uD, upd vD 1 (.pointer (some ⟨wr.heap.size, 0, none⟩)), fuel_SpA0_e1 hf hei, rfl, rfl, ch0, ch1, ch2, ch3, hm'⟩
            · skip
              exact absurd ⟨hdep _ rfl 2 _ rfl rfl, hdep _ rfl 0 _ rfl rfl, hdep _ rfl 17 _ rfl rfl⟩ hall
            · skip
              exact Bool.noConfusion (show false = true from hdep _ rfl 1 _ rfl rfl)
            · skip
              exact Bool.noConfusion (show false = true from hdep _ rfl 18 _ rfl rfl)
      rw [HQQ.out]
      rintro e act Y1 ⟨rfl, pmb0, pmb1, s11, d11, l11, c11, s12, d12, l12, c12, rfl, r11, r12, x_a, x_b, x_c, x_X, x_Y, BB, z_Y1, z_Y1_pmb0, z_Y1_pmb1⟩
      clear HQQ QQ
      try dsimp only
      have hs11 : s11 = 0 := by have := r11.sg; rw [HA0.out] at this; exact this
      have hs12 : s12 = 0 := by have := r12.sg; rw [HD0.out] at this; exact this
      subst hs11
      subst hs12
      have ⟨x_a_0, x_a_1, x_a_2, x_a_3⟩ := x_a
      have ⟨x_b_0, x_b_1, x_b_2, x_b_3⟩ := x_b
      have ⟨x_c_0, x_c_1, x_c_2, x_c_3⟩ := x_c
      have ⟨x_X_0, x_X_1, x_X_2, x_X_3⟩ := x_X
      have ⟨x_Y_0, x_Y_1, x_Y_2, x_Y_3⟩ := x_Y
      go_wp2_with (go_at_call 12; fail)
      refine (rlCan a1 a2 Y1 (r64 Ra1.out) (r64 Ra2.out) ha.symm).mono ?_
      rintro e v0 ⟨rfl, bv0⟩
      clear x_a_0 x_a_1 x_a_2 x_a_3 x_b_0 x_b_1 x_b_2 x_b_3 x_c_0 x_c_1 x_c_2 x_c_3 x_X_0 x_X_1 x_X_2 x_X_3 x_Y_0 x_Y_1 x_Y_2 x_Y_3
      have zbv0 := bv0.size
      replace BB := also BB bv0
      replace x_a := x_a.on bv0
      replace x_b := x_b.on bv0
      replace x_c := x_c.on bv0
      replace r11 := r11.below bv0
      replace r12 := r12.below bv0
      replace x_X := x_X.on bv0
      replace x_Y := x_Y.on bv0
      have ⟨x_a_0, x_a_1, x_a_2, x_a_3⟩ := x_a
      have ⟨x_b_0, x_b_1, x_b_2, x_b_3⟩ := x_b
      have ⟨x_c_0, x_c_1, x_c_2, x_c_3⟩ := x_c
      have ⟨x_X_0, x_X_1, x_X_2, x_X_3⟩ := x_X
      have ⟨x_Y_0, x_Y_1, x_Y_2, x_Y_3⟩ := x_Y
      go_wp2_with (go_at_call 12; fail)
      refine (rlCan b1 b2 v0 (r64 Rb1.out) (r64 Rb2.out) hb.symm).mono ?_
      rintro e v1 ⟨rfl, bv1⟩
      clear x_a_0 x_a_1 x_a_2 x_a_3 x_b_0 x_b_1 x_b_2 x_b_3 x_c_0 x_c_1 x_c_2 x_c_3 x_X_0 x_X_1 x_X_2 x_X_3 x_Y_0 x_Y_1 x_Y_2 x_Y_3
      have zbv1 := bv1.size
      replace BB := also BB bv1
      replace x_a := x_a.on bv1
      replace x_b := x_b.on bv1
      replace x_c := x_c.on bv1
      replace r11 := r11.below bv1
      replace r12 := r12.below bv1
      replace x_X := x_X.on bv1
      replace x_Y := x_Y.on bv1
      have ⟨x_a_0, x_a_1, x_a_2, x_a_3⟩ := x_a
      have ⟨x_b_0, x_b_1, x_b_2, x_b_3⟩ := x_b
      have ⟨x_c_0, x_c_1, x_c_2, x_c_3⟩ := x_c
      have ⟨x_X_0, x_X_1, x_X_2, x_X_3⟩ := x_X
      have ⟨x_Y_0, x_Y_1, x_Y_2, x_Y_3⟩ := x_Y
      go_wp2_with (go_at_call 13; fail)
      refine (lives7_any v1).mono ?_
      rintro e v9 ⟨rfl, bv9⟩
      clear x_a_0 x_a_1 x_a_2 x_a_3 x_b_0 x_b_1 x_b_2 x_b_3 x_c_0 x_c_1 x_c_2 x_c_3 x_X_0 x_X_1 x_X_2 x_X_3 x_Y_0 x_Y_1 x_Y_2 x_Y_3
      have zbv9 := bv9.size
      replace BB := also BB bv9
      replace x_a := x_a.on bv9
      replace x_b := x_b.on bv9
      replace x_c := x_c.on bv9
      replace r11 := r11.below bv9
      replace r12 := r12.below bv9
      replace x_X := x_X.on bv9
      replace x_Y := x_Y.on bv9
      go_wp2
      go_ret
      exact ⟨rfl, BB⟩
    · skip
      cases hc : canC c1 c2
      · skip
        have hA0 : A = 0 := by rw [hA]; unfold arP; rw [if_neg]; rw [can3]; rintro ⟨qa, qb, qc⟩; simp_all
        obtain rfl : n = 0 := by rw [hn, hA0]; rfl
        have HA0 : Hid _ := hA0
        clear hA0 hn
        have HD : Hid (D = distP a1 a2 b1 b2) := by unfold Hid; rw [hD]; unfold diP; rw [if_pos (can2.2 ⟨ha, hb⟩)]
        clear hA hD
        have Z1 : Hid ((0 : Int) = (D - D).sign) := by unfold Hid; rw [Int.sub_self]; rfl
        have Z2 : Hid ((0 : Int) = (A - A).sign) := by unfold Hid; rw [Int.sub_self]; rfl
        obtain ⟨W, hW, bW, x_a, x_b, x_c, sW⟩ := bs_222 w (.int .i64 a1) (.int .i64 a2) (.int .i64 b1) (.int .i64 b2) (.int .i64 c1) (.int .i64 c2) 23 23 23
        have zbW := bW.size
        have BB := bW
        go_enter Try.func3, Try.ntmps3
        go_wp2
        rw [← hW]
        clear hW
        obtain ⟨QQ, hQQ⟩ : ∃ QQ : Exit → Act → World → Prop, QQ = fun e act wr => e = .normal ∧ ∃ (pmc0 : Nat) (pmc1 : Nat) (s11 : Int) (d11 : Option Addr) (l11 c11 : Nat) (s12 : Int) (d12 : Option Addr) (l12 c12 : Nat), act = ⟨#[.agg #[.int .i64 a1, .int .i64 a2], .agg #[.int .i64 b1, .int .i64 b2], .agg #[.int .i64 c1, .int .i64 c2], .pointer (some ⟨w.heap.size, 0, none⟩), .pointer (some ⟨w.heap.size + 1, 0, none⟩), .pointer (some ⟨w.heap.size + 1 + 1, 0, none⟩), .bool false, .pointer (some ⟨pmc0, 0, none⟩), .int .i64 0, .pointer (some ⟨pmc1, 0, none⟩), .agg #[.int .i64 a1, .int .i64 a2], .agg #[.int .i64 b1, .int .i64 b2], .agg #[.int .i64 c1, .int .i64 c2], .agg #[.int .i64 u, .int .u64 v], .agg #[.int .i64 s11, .slice d11 l11 c11], .agg #[.int .i64 a1, .int .i64 a2], .agg #[.int .i64 b1, .int .i64 b2], .agg #[.int .i64 c1, .int .i64 c2], .int .i64 0, .agg #[.int .i64 a1, .int .i64 a2], .agg #[.int .i64 b1, .int .i64 b2], .agg #[.int .i64 x, .int .u64 y], .agg #[.int .i64 s12, .slice d12 l12 c12], undef, undef, undef, undef, undef, undef, undef, undef, undef, undef, undef, undef, undef, undef, undef, undef, undef, undef, undef, undef, undef, undef, undef, undef, undef, undef, undef, undef, undef, undef, undef, undef, undef, undef, undef, undef, undef, undef, undef, undef, undef, undef, undef, undef, undef, undef, undef, undef, undef, undef, undef, undef, undef, undef, undef, undef, undef, undef, undef, undef, undef, undef, undef, undef, undef, undef], []⟩ ∧ RN wr s11 d11 l11 c11 A ∧ RN wr s12 d12 l12 c12 D ∧ Bx wr (w.heap.size) (.int .i64 a1) (.int .i64 a2) ∧ Bx wr (w.heap.size + 1) (.int .i64 b1) (.int .i64 b2) ∧ Bx wr (w.heap.size + 1 + 1) (.int .i64 c1) (.int .i64 c2) ∧ Bx wr pmc0 (.int .i64 s11) (.slice d11 l11 c11) ∧ Bx wr pmc1 (.int .i64 s12) (.slice d12 l12 c12) ∧ Below w.heap.size w wr ∧ W.heap.size ≤ wr.heap.size ∧ (W.heap.size ≤ pmc0 ∧ pmc0 < wr.heap.size) ∧ (W.heap.size ≤ pmc1 ∧ pmc1 < wr.heap.size) := ⟨_, rfl⟩
        have HQQ : Hid _ := hQQ
        clear hQQ
        refine wp_mono (Q := QQ) ?_ ?_
        · refine wp_region_held_drew (S := (fun w' => w'.cell? ⟨w.heap.size, 0, none⟩ = some (.int .i64 a1) ∧ w'.cell? ⟨w.heap.size, 1, none⟩ = some (.int .i64 a2) ∧ w'.cell? ⟨w.heap.size + 1, 0, none⟩ = some (.int .i64 b1) ∧ w'.cell? ⟨w.heap.size + 1, 1, none⟩ = some (.int .i64 b2) ∧ w'.cell? ⟨w.heap.size + 1 + 1, 0, none⟩ = some (.int .i64 c1) ∧ w'.cell? ⟨w.heap.size + 1 + 1, 1, none⟩ = some (.int .i64 c2) ∧ Below w.heap.size w w')) (by kernel_rfl) ?_ (fun hHeld => ?_)
          · exact ⟨x_a.c0, x_a.c1, x_b.c0, x_b.c1, x_c.c0, x_c.c1, BB.drew⟩
          refine take_yes (i := 0) (v := ?vmc0x1) rfl (by kernel_rfl) (by kernel_rfl) (by kernel_rfl) (fun _ _ _ h => by rw [HQQ.out] at h; exact Exit.noConfusion h.1) (by rfl) (by assumption) ?hymc0x1 ?restmc0x1
          case hymc0x1 => (intro w hSw; (try dsimp only at hSw); first | (go_simp; done) | (go_simp; with_reducible rfl))
          simp only [Act.put, List.setIfInBounds_toArray, List.set_cons_zero, List.set_cons_succ]
          refine take_yes (i := 1) (v := ?vmc1x2) rfl (by kernel_rfl) (by kernel_rfl) (by kernel_rfl) (fun _ _ _ h => by rw [HQQ.out] at h; exact Exit.noConfusion h.1) (by rfl) (by assumption) ?hymc1x2 ?restmc1x2
          case hymc1x2 => (intro w hSw; (try dsimp only at hSw); first | (go_simp; done) | (go_simp; with_reducible rfl))
          simp only [Act.put, List.setIfInBounds_toArray, List.set_cons_zero, List.set_cons_succ]
          refine take_yes (i := 2) (v := ?vmc2x3) rfl (by kernel_rfl) (by kernel_rfl) (by kernel_rfl) (fun _ _ _ h => by rw [HQQ.out] at h; exact Exit.noConfusion h.1) (by rfl) (by assumption) ?hymc2x3 ?restmc2x3
          case hymc2x3 => (intro w hSw; (try dsimp only at hSw); first | (go_simp; done) | (go_simp; with_reducible rfl))
          simp only [Act.put, List.setIfInBounds_toArray, List.set_cons_zero, List.set_cons_succ]
          refine take_yes (i := 5) (v := ?vmc5x4) rfl (by kernel_rfl) (by kernel_rfl) (by kernel_rfl) (fun _ _ _ h => by rw [HQQ.out] at h; exact Exit.noConfusion h.1) (by rfl) (by assumption) ?hymc5x4 ?restmc5x4
          case hymc5x4 => (intro w hSw; (try dsimp only at hSw); first | (go_simp; done) | (go_simp; with_reducible rfl))
          simp only [Act.put, List.setIfInBounds_toArray, List.set_cons_zero, List.set_cons_succ]
          refine take_yes (i := 6) (v := ?vmc6x5) rfl (by kernel_rfl) (by kernel_rfl) (by kernel_rfl) (fun _ _ _ h => by rw [HQQ.out] at h; exact Exit.noConfusion h.1) (by rfl) (by assumption) ?hymc6x5 ?restmc6x5
          case hymc6x5 => (intro w hSw; (try dsimp only at hSw); first | (go_simp; done) | (go_simp; with_reducible rfl))
          simp only [Act.put, List.setIfInBounds_toArray, List.set_cons_zero, List.set_cons_succ]
          refine take_yes (i := 7) (v := ?vmc7x6) rfl (by kernel_rfl) (by kernel_rfl) (by kernel_rfl) (fun _ _ _ h => by rw [HQQ.out] at h; exact Exit.noConfusion h.1) (by rfl) (by assumption) ?hymc7x6 ?restmc7x6
          case hymc7x6 => (intro w hSw; (try dsimp only at hSw); first | (go_simp; done) | (go_simp; with_reducible rfl))
          simp only [Act.put, List.setIfInBounds_toArray, List.set_cons_zero, List.set_cons_succ]
          refine take_yes (i := 9) (v := ?vmc9x7) rfl (by kernel_rfl) (by kernel_rfl) (by kernel_rfl) (fun _ _ _ h => by rw [HQQ.out] at h; exact Exit.noConfusion h.1) (by rfl) (by assumption) ?hymc9x7 ?restmc9x7
          case hymc9x7 => (intro w hSw; (try dsimp only at hSw); first | (go_simp; done) | (go_simp; with_reducible rfl))
          simp only [Act.put, List.setIfInBounds_toArray, List.set_cons_zero, List.set_cons_succ]
          refine take_yes (i := 10) (v := ?vmc10x8) rfl (by kernel_rfl) (by kernel_rfl) (by kernel_rfl) (fun _ _ _ h => by rw [HQQ.out] at h; exact Exit.noConfusion h.1) (by rfl) (by assumption) ?hymc10x8 ?restmc10x8
          case hymc10x8 => (intro w hSw; (try dsimp only at hSw); first | (go_simp; done) | (go_simp; with_reducible rfl))
          simp only [Act.put, List.setIfInBounds_toArray, List.set_cons_zero, List.set_cons_succ]
          clear hHeld
          obtain ⟨INV, hINV⟩ : ∃ INV : Nat → Array Bool → Act → World → Prop, INV = fun f L act wr => ∃ (bD eD : Nat → Bool) (pD : Nat → Nat) (RD : Nat → World → Prop) (AD : Nat → Nat → Prop) (uD vD : Nat → Value), f = 3 + (nb (bD 0) + nb (bD 1) + nb (bD 2) + nb (bD 3) + nb (bD 4) + nb (eD 0) + nb (eD 1)) ∧ L = #[true, true, true, bD 0, bD 1, true, true, true, bD 2, true, true, bD 3, bD 4, eD 0, eD 1, false, false, false] ∧ act = ⟨#[.agg #[.int .i64 a1, .int .i64 a2], .agg #[.int .i64 b1, .int .i64 b2], .agg #[.int .i64 c1, .int .i64 c2], .pointer (some ⟨w.heap.size, 0, none⟩), .pointer (some ⟨w.heap.size + 1, 0, none⟩), .pointer (some ⟨w.heap.size + 1 + 1, 0, none⟩), .bool false, vD 0, undef, vD 1, .agg #[.int .i64 a1, .int .i64 a2], .agg #[.int .i64 b1, .int .i64 b2], .agg #[.int .i64 c1, .int .i64 c2], uD 0, uD 1, .agg #[.int .i64 a1, .int .i64 a2], .agg #[.int .i64 b1, .int .i64 b2], .agg #[.int .i64 c1, .int .i64 c2], uD 2, .agg #[.int .i64 a1, .int .i64 a2], .agg #[.int .i64 b1, .int .i64 b2], uD 3, uD 4, undef, undef, undef, undef, undef, undef, undef, undef, undef, undef, undef, undef, undef, undef, undef, undef, undef, undef, undef, undef, undef, undef, undef, undef, undef, undef, undef, undef, undef, undef, undef, undef, undef, undef, undef, undef, undef, undef, undef, undef, undef, undef, undef, undef, undef, undef, undef, undef, undef, undef, undef, undef, undef, undef, undef, undef, undef, undef, undef, undef, undef, undef, undef, undef, undef, undef], []⟩ ∧ (bD 1 = true → bD 0 = true) ∧ (bD 2 = true → bD 1 = true) ∧ (bD 3 = true → bD 2 = true) ∧ (bD 4 = true → bD 3 = true) ∧ Mk W SpA0Z (SpA0 A D u v x y) bD eD pD RD AD uD vD wr := ⟨_, rfl⟩
          have HINV : Hid _ := hINV
          clear hINV
          refine phase INV ?stepmc _ _ _ _ ?initmc
          case initmc => rw [HINV.out]; exact ⟨fun _ => false, fun _ => false, fun _ => 0, fun _ _ => True, fun _ _ => True, fun _ => undef, fun _ => undef, rfl, rfl, rfl, fun h => Bool.noConfusion h, fun h => Bool.noConfusion h, fun h => Bool.noConfusion h, fun h => Bool.noConfusion h, Mk.start _ _ _ (Below.refl _ _).drew⟩
          intro f L act wr hinv
          rw [HINV.out] at hinv
          obtain ⟨bD, eD, pD, RD, AD, uD, vD, hf, rfl, rfl, ch0, ch1, ch2, ch3, hm⟩ := hinv
          by_cases hall : bD 4 = true ∧ eD 0 = true ∧ eD 1 = true
          · refine Or.inl ?_
            obtain ⟨hb4, he0, he1⟩ := hall
            have hb3 := ch3 hb4
            have hb2 := ch2 hb3
            have hb1 := ch1 hb2
            have hb0 := ch0 hb1
            simp only [hb0, hb1, hb2, hb3, hb4, he0, he1, nb] at hf
            subst hf
            rw [hb0, hb1, hb2, hb3, hb4, he0, he1, hm.ptr 0 he0, hm.ptr 1 he1]
            obtain ⟨hu0, _, _⟩ : ValIs _ _ _ _ := hm.spec 0 hb0
            rw [hu0]
            obtain ⟨s11, d11, l11, c11, hu1, hR1, hA1⟩ : RNIs _ _ _ _ := hm.spec 1 hb1
            rw [hu1]
            have r11 : RN wr s11 d11 l11 c11 A := by have := hm.res 1 hb1; rw [hR1] at this; exact this
            have n_r11_0_pmc0 : NA (pD 0) d11 l11 := by have := hm.ap 0 1 he0 hb1; rw [hA1] at this; exact this
            have n_r11_0_pmc1 : NA (pD 1) d11 l11 := by have := hm.ap 1 1 he1 hb1; rw [hA1] at this; exact this
            obtain ⟨hu2, _, _⟩ : ValIs _ _ _ _ := hm.spec 2 hb2
            rw [hu2]
            obtain ⟨hu3, _, _⟩ : ValIs _ _ _ _ := hm.spec 3 hb3
            rw [hu3]
            obtain ⟨s12, d12, l12, c12, hu4, hR4, hA4⟩ : RNIs _ _ _ _ := hm.spec 4 hb4
            rw [hu4]
            have r12 : RN wr s12 d12 l12 c12 D := by have := hm.res 4 hb4; rw [hR4] at this; exact this
            have n_r12_0_pmc0 : NA (pD 0) d12 l12 := by have := hm.ap 0 4 he0 hb4; rw [hA4] at this; exact this
            have n_r12_0_pmc1 : NA (pD 1) d12 l12 := by have := hm.ap 1 4 he1 hb4; rw [hA4] at this; exact this
            have y_pmc0 : Bx wr (pD 0) (.int .i64 0) (.slice none 0 0) := bx_row (hm.blk 0 he0)
            have gpmc0 := hm.old 0 he0
            have ltpmc0 := hm.lt 0 he0
            have y_pmc1 : Bx wr (pD 1) (.int .i64 0) (.slice none 0 0) := bx_row (hm.blk 1 he1)
            have gpmc1 := hm.old 1 he1
            have ltpmc1 := hm.lt 1 he1
            have ne_0_1 : pD 0 ≠ pD 1 := hm.ne 0 1 he0 he1 (by decide)
            have BU := hm.bel
            replace x_a := x_a.on BU
            replace x_b := x_b.on BU
            replace x_c := x_c.on BU
            replace BB := also BB BU
            have hHeld : ((fun w' => w'.cell? ⟨w.heap.size, 0, none⟩ = some (.int .i64 a1) ∧ w'.cell? ⟨w.heap.size, 1, none⟩ = some (.int .i64 a2) ∧ w'.cell? ⟨w.heap.size + 1, 0, none⟩ = some (.int .i64 b1) ∧ w'.cell? ⟨w.heap.size + 1, 1, none⟩ = some (.int .i64 b2) ∧ w'.cell? ⟨w.heap.size + 1 + 1, 0, none⟩ = some (.int .i64 c1) ∧ w'.cell? ⟨w.heap.size + 1 + 1, 1, none⟩ = some (.int .i64 c2) ∧ Below w.heap.size w w')) wr := ⟨x_a.c0, x_a.c1, x_b.c0, x_b.c1, x_c.c0, x_c.c1, BB⟩
            clear hm HINV INV ch0 ch1 ch2 ch3
            generalize pD 0 = pmc0 at *
            generalize pD 1 = pmc1 at *
            dsimp only at hHeld
            have ⟨c_pmc0_0, c_pmc0_1, c_pmc0_2, c_pmc0_3⟩ : Bx wr pmc0 (.int .i64 0) (.slice none 0 0) := y_pmc0
            refine take_call (i := 15) rfl (by kernel_rfl) (fun Kc hK => ?_)
            go_simp
            refine hK.out _ _ ⟨cell_put2 hHeld.1 (by omega) _ _, cell_put2 hHeld.2.1 (by omega) _ _, cell_put2 hHeld.2.2.1 (by omega) _ _, cell_put2 hHeld.2.2.2.1 (by omega) _ _, cell_put2 hHeld.2.2.2.2.1 (by omega) _ _, cell_put2 hHeld.2.2.2.2.2.1 (by omega) _ _, below_put2 hHeld.2.2.2.2.2.2 (by omega) _ _⟩ (fun hHeld => ?_)
            clear hK Kc
            refine take_yes (i := 16) (v := ?vmc16x9) rfl (by kernel_rfl) (by kernel_rfl) (by kernel_rfl) (fun _ _ _ h => by rw [HQQ.out] at h; exact Exit.noConfusion h.1) (by rfl) (by assumption) ?hymc16x9 ?restmc16x9
            case hymc16x9 => (intro w hSw; (try dsimp only at hSw); first | (go_simp; done) | (go_simp; with_reducible rfl))
            simp only [Act.put, List.setIfInBounds_toArray, List.set_cons_zero, List.set_cons_succ]
            have ⟨c_pmc1_0, c_pmc1_1, c_pmc1_2, c_pmc1_3⟩ : Bx ((wr.setCell ⟨pmc0, 0, none⟩ (.int .i64 s11)).setCell ⟨pmc0, 1, none⟩ (.slice d11 l11 c11)) pmc1 (.int .i64 0) (.slice none 0 0) := ((y_pmc1.put ne_0_1).put ne_0_1)
            refine take_call (i := 17) rfl (by kernel_rfl) (fun Kc hK => ?_)
            go_simp
            refine hK.out _ _ ⟨cell_put2 hHeld.1 (by omega) _ _, cell_put2 hHeld.2.1 (by omega) _ _, cell_put2 hHeld.2.2.1 (by omega) _ _, cell_put2 hHeld.2.2.2.1 (by omega) _ _, cell_put2 hHeld.2.2.2.2.1 (by omega) _ _, cell_put2 hHeld.2.2.2.2.2.1 (by omega) _ _, below_put2 hHeld.2.2.2.2.2.2 (by omega) _ _⟩ (fun hHeld => ?_)
            clear hK Kc
            refine wpAnyH_done (by kernel_rfl) ?_ _
            rw [HQQ.out]
            exact ⟨rfl, pmc0, pmc1, s11, d11, l11, c11, s12, d12, l12, c12, rfl, ((((r11.put n_r11_0_pmc0 0 _).put n_r11_0_pmc0 1 _).put n_r11_0_pmc1 0 _).put n_r11_0_pmc1 1 _), ((((r12.put n_r12_0_pmc0 0 _).put n_r12_0_pmc0 1 _).put n_r12_0_pmc1 0 _).put n_r12_0_pmc1 1 _), ((((x_a.put (by omega)).put (by omega)).put (by omega)).put (by omega)), ((((x_b.put (by omega)).put (by omega)).put (by omega)).put (by omega)), ((((x_c.put (by omega)).put (by omega)).put (by omega)).put (by omega)), ((y_pmc0.set.put (fun e => ne_0_1 e.symm)).put (fun e => ne_0_1 e.symm)), ((y_pmc1.put ne_0_1).put ne_0_1).set, (below_put2 (below_put2 BB (by omega) _ _) (by omega) _ _), by have := BU.size; simp only [World.size_setCell]; omega, ⟨gpmc0, by simp only [World.size_setCell]; omega⟩, ⟨gpmc1, by simp only [World.size_setCell]; omega⟩⟩
          · refine Or.inr ⟨f - 1, by omega, ?nemc, ?opsmc⟩
            case nemc =>
              cases he0 : eD 0
              · exact ready_ne (i := 13) (by decide) (by kernel_rfl)
              cases he1 : eD 1
              · exact ready_ne (i := 14) (by decide) (by kernel_rfl)
              cases hb0 : bD 0
              · exact ready_ne (i := 3) (by decide) (by kernel_rfl)
              cases hb1 : bD 1
              · exact ready_ne (i := 4) (by decide) (by kernel_rfl)
              cases hb2 : bD 2
              · exact ready_ne (i := 8) (by decide) (by kernel_rfl)
              cases hb3 : bD 3
              · exact ready_ne (i := 11) (by decide) (by kernel_rfl)
              cases hb4 : bD 4
              · exact ready_ne (i := 12) (by decide) (by kernel_rfl)
              exact absurd ⟨hb4, he0, he1⟩ hall
            case opsmc =>
              intro i hi
              obtain ⟨hlt, hnot, hdep⟩ := ready_at hi
              replace hlt : i < 18 := hlt
              obtain rfl | rfl | rfl | rfl | rfl | rfl | rfl | rfl | rfl | rfl | rfl | rfl | rfl | rfl | rfl | rfl | rfl | rfl : i = 0 ∨ i = 1 ∨ i = 2 ∨ i = 3 ∨ i = 4 ∨ i = 5 ∨ i = 6 ∨ i = 7 ∨ i = 8 ∨ i = 9 ∨ i = 10 ∨ i = 11 ∨ i = 12 ∨ i = 13 ∨ i = 14 ∨ i = 15 ∨ i = 16 ∨ i = 17 := by omega
              · skip
                exact Bool.noConfusion (show true = false from hnot)
              · skip
                exact Bool.noConfusion (show true = false from hnot)
              · skip
                exact Bool.noConfusion (show true = false from hnot)
              · skip
                have hbj : bD 0 = false := hnot
                refine ⟨_, rfl, fun K' hK => ?_⟩
                go_simp
                (go_at_call 9; refine (pArea a1 a2 b1 b2 c1 c2 _ Eu.out Ev.out).mono ?_; rintro e' X ⟨rfl, bX⟩)
                have hm' := hm.call (SpA0_good A D u v x y) 0 bX (.agg #[.int .i64 u, .int .u64 v]) (fun _ => True) (fun _ => True) ⟨rfl, rfl, rfl⟩ trivial (fun i hi => trivial)
                refine hK.out _ _ ⟨cell_on hm'.bel x_a.c0, cell_on hm'.bel x_a.c1, cell_on hm'.bel x_b.c0, cell_on hm'.bel x_b.c1, cell_on hm'.bel x_c.c0, cell_on hm'.bel x_c.c1, also BB hm'.bel⟩ ?_
                rw [HINV.out]
                exact ⟨upd bD 0 true, eD, pD, upd RD 0 (fun _ => True), upd AD 0 (fun _ => True), upd uD 0 (.agg #[.int .i64 u, .int .u64 v]), vD, fuel_SpA0_b0 hf hbj, rfl, rfl, fun _ => rfl, ch1, ch2, ch3, hm'⟩
              · skip
                have hbj : bD 1 = false := hnot
                have hprev : bD 0 = true := hdep _ rfl 1 _ rfl rfl
                refine ⟨_, rfl, fun K' hK => ?_⟩
                obtain ⟨hu0, _, _⟩ : ValIs _ _ _ _ := hm.spec 0 hprev
                rw [hu0]
                go_simp
                (go_at_call 8; refine (pWide A Hu.out Hv.out GA.out _).mono ?_; rintro e' X ⟨s11, d11, l11, c11, rfl, r11, f11, bX⟩)
                have hm' := hm.call (SpA0_good A D u v x y) 1 bX (.agg #[.int .i64 s11, .slice d11 l11 c11]) (fun w => RN w s11 d11 l11 c11 A) (fun k => NA k d11 l11) ⟨_, _, _, _, rfl, rfl, rfl⟩ r11 (fun i hi => f11 (pD i) (hm.lt i hi) trivial)
                refine hK.out _ _ ⟨cell_on hm'.bel x_a.c0, cell_on hm'.bel x_a.c1, cell_on hm'.bel x_b.c0, cell_on hm'.bel x_b.c1, cell_on hm'.bel x_c.c0, cell_on hm'.bel x_c.c1, also BB hm'.bel⟩ ?_
                rw [HINV.out]
                exact ⟨upd bD 1 true, eD, pD, upd RD 1 (fun w => RN w s11 d11 l11 c11 A), upd AD 1 (fun k => NA k d11 l11), upd uD 1 (.agg #[.int .i64 s11, .slice d11 l11 c11]), vD, fuel_SpA0_b1 hf hbj, rfl, (by rw [show upd uD 1 (.agg #[.int .i64 s11, .slice d11 l11 c11]) 0 = .agg #[.int .i64 u, .int .u64 v] from hu0] <;> rfl), fun _ => hprev, fun _ => rfl, ch2, ch3, hm'⟩
              · skip
                exact Bool.noConfusion (show true = false from hnot)
              · skip
                exact Bool.noConfusion (show true = false from hnot)
              · skip
                exact Bool.noConfusion (show true = false from hnot)
              · skip
                have hbj : bD 2 = false := hnot
                have hprev : bD 1 = true := hdep _ rfl 3 _ rfl rfl
                have hq0 : bD 0 = true := ch0 hprev
                refine ⟨_, rfl, fun K' hK => ?_⟩
                go_simp
                (go_at_call 10; refine (pOrient a1 a2 b1 b2 c1 c2 _ HN.out).mono ?_; rintro e' X ⟨rfl, bX⟩)
                have hm' := hm.call (SpA0_good A D u v x y) 2 bX (.int .i64 0) (fun _ => True) (fun _ => True) ⟨rfl, rfl, rfl⟩ trivial (fun i hi => trivial)
                refine hK.out _ _ ⟨cell_on hm'.bel x_a.c0, cell_on hm'.bel x_a.c1, cell_on hm'.bel x_b.c0, cell_on hm'.bel x_b.c1, cell_on hm'.bel x_c.c0, cell_on hm'.bel x_c.c1, also BB hm'.bel⟩ ?_
                rw [HINV.out]
                exact ⟨upd bD 2 true, eD, pD, upd RD 2 (fun _ => True), upd AD 2 (fun _ => True), upd uD 2 (.int .i64 0), vD, fuel_SpA0_b2 hf hbj, rfl, rfl, ch0, fun _ => hprev, fun _ => rfl, ch3, hm'⟩
              · skip
                exact Bool.noConfusion (show true = false from hnot)
              · skip
                exact Bool.noConfusion (show true = false from hnot)
              · skip
                have hbj : bD 3 = false := hnot
                have hprev : bD 2 = true := hdep _ rfl 2 _ rfl rfl
                have hq1 : bD 1 = true := ch1 hprev
                have hq0 : bD 0 = true := ch0 hq1
                refine ⟨_, rfl, fun K' hK => ?_⟩
                go_simp
                (go_at_call 11; refine (pDist a1 a2 b1 b2 _ Ex.out Ey.out).mono ?_; rintro e' X ⟨rfl, bX⟩)
                have hm' := hm.call (SpA0_good A D u v x y) 3 bX (.agg #[.int .i64 x, .int .u64 y]) (fun _ => True) (fun _ => True) ⟨rfl, rfl, rfl⟩ trivial (fun i hi => trivial)
                refine hK.out _ _ ⟨cell_on hm'.bel x_a.c0, cell_on hm'.bel x_a.c1, cell_on hm'.bel x_b.c0, cell_on hm'.bel x_b.c1, cell_on hm'.bel x_c.c0, cell_on hm'.bel x_c.c1, also BB hm'.bel⟩ ?_
                rw [HINV.out]
                exact ⟨upd bD 3 true, eD, pD, upd RD 3 (fun _ => True), upd AD 3 (fun _ => True), upd uD 3 (.agg #[.int .i64 x, .int .u64 y]), vD, fuel_SpA0_b3 hf hbj, rfl, rfl, ch0, ch1, fun _ => hprev, fun _ => rfl, hm'⟩
              · skip
                have hbj : bD 4 = false := hnot
                have hprev : bD 3 = true := hdep _ rfl 1 _ rfl rfl
                have hq2 : bD 2 = true := ch2 hprev
                have hq1 : bD 1 = true := ch1 hq2
                have hq0 : bD 0 = true := ch0 hq1
                refine ⟨_, rfl, fun K' hK => ?_⟩
                obtain ⟨hu3, _, _⟩ : ValIs _ _ _ _ := hm.spec 3 hprev
                rw [hu3]
                go_simp
                (go_at_call 8; refine (pWide D Hx.out Hy.out GD.out _).mono ?_; rintro e' X ⟨s12, d12, l12, c12, rfl, r12, f12, bX⟩)
                have hm' := hm.call (SpA0_good A D u v x y) 4 bX (.agg #[.int .i64 s12, .slice d12 l12 c12]) (fun w => RN w s12 d12 l12 c12 D) (fun k => NA k d12 l12) ⟨_, _, _, _, rfl, rfl, rfl⟩ r12 (fun i hi => f12 (pD i) (hm.lt i hi) trivial)
                refine hK.out _ _ ⟨cell_on hm'.bel x_a.c0, cell_on hm'.bel x_a.c1, cell_on hm'.bel x_b.c0, cell_on hm'.bel x_b.c1, cell_on hm'.bel x_c.c0, cell_on hm'.bel x_c.c1, also BB hm'.bel⟩ ?_
                rw [HINV.out]
                exact ⟨upd bD 4 true, eD, pD, upd RD 4 (fun w => RN w s12 d12 l12 c12 D), upd AD 4 (fun k => NA k d12 l12), upd uD 4 (.agg #[.int .i64 s12, .slice d12 l12 c12]), vD, fuel_SpA0_b4 hf hbj, rfl, (by rw [show upd uD 4 (.agg #[.int .i64 s12, .slice d12 l12 c12]) 3 = .agg #[.int .i64 x, .int .u64 y] from hu3] <;> rfl), ch0, ch1, ch2, fun _ => hprev, hm'⟩
              · skip
                have hei : eD 0 = false := hnot
                refine ⟨_, rfl, fun K' hK => ?_⟩
                go_simp
                have hm' := hm.alloc (SpA0_good A D u v x y) 0 27 hei
                refine hK.out _ _ ⟨cell_on hm'.bel x_a.c0, cell_on hm'.bel x_a.c1, cell_on hm'.bel x_b.c0, cell_on hm'.bel x_b.c1, cell_on hm'.bel x_c.c0, cell_on hm'.bel x_c.c1, also BB hm'.bel⟩ ?_
                rw [HINV.out]
                exact ⟨bD, upd eD 0 true, upd pD 0 wr.heap.size, RD, AD, uD, upd vD 0 (.pointer (some ⟨wr.heap.size, 0, none⟩)), fuel_SpA0_e0 hf hei, rfl, rfl, ch0, ch1, ch2, ch3, hm'⟩
              · skip
                have hei : eD 1 = false := hnot
                refine ⟨_, rfl, fun K' hK => ?_⟩
                go_simp
                have hm' := hm.alloc (SpA0_good A D u v x y) 1 27 hei
                refine hK.out _ _ ⟨cell_on hm'.bel x_a.c0, cell_on hm'.bel x_a.c1, cell_on hm'.bel x_b.c0, cell_on hm'.bel x_b.c1, cell_on hm'.bel x_c.c0, cell_on hm'.bel x_c.c1, also BB hm'.bel⟩ ?_
                rw [HINV.out]
                exact ⟨bD, upd eD 1 true, upd pD 1 wr.heap.size, RD, AD, uD, upd vD 1 (.pointer (some ⟨wr.heap.size, 0, none⟩)), fuel_SpA0_e1 hf hei, rfl, rfl, ch0, ch1, ch2, ch3, hm'⟩
              · skip
                exact absurd ⟨hdep _ rfl 2 _ rfl rfl, hdep _ rfl 0 _ rfl rfl, hdep _ rfl 17 _ rfl rfl⟩ hall
              · skip
                exact Bool.noConfusion (show false = true from hdep _ rfl 1 _ rfl rfl)
              · skip
                exact Bool.noConfusion (show false = true from hdep _ rfl 18 _ rfl rfl)
        rw [HQQ.out]
        rintro e act Y1 ⟨rfl, pmc0, pmc1, s11, d11, l11, c11, s12, d12, l12, c12, rfl, r11, r12, x_a, x_b, x_c, x_X, x_Y, BB, z_Y1, z_Y1_pmc0, z_Y1_pmc1⟩
        clear HQQ QQ
        try dsimp only
        have hs11 : s11 = 0 := by have := r11.sg; rw [HA0.out] at this; exact this
        have hs11 : s11 = 0 := by have := r11.sg; rw [HA0.out] at this; exact this
        subst hs11
        have ⟨x_a_0, x_a_1, x_a_2, x_a_3⟩ := x_a
        have ⟨x_b_0, x_b_1, x_b_2, x_b_3⟩ := x_b
        have ⟨x_c_0, x_c_1, x_c_2, x_c_3⟩ := x_c
        have ⟨x_X_0, x_X_1, x_X_2, x_X_3⟩ := x_X
        have ⟨x_Y_0, x_Y_1, x_Y_2, x_Y_3⟩ := x_Y
        go_wp2_with (go_at_call 12; fail)
        refine (rlCan a1 a2 Y1 (r64 Ra1.out) (r64 Ra2.out) ha.symm).mono ?_
        rintro e v0 ⟨rfl, bv0⟩
        clear x_a_0 x_a_1 x_a_2 x_a_3 x_b_0 x_b_1 x_b_2 x_b_3 x_c_0 x_c_1 x_c_2 x_c_3 x_X_0 x_X_1 x_X_2 x_X_3 x_Y_0 x_Y_1 x_Y_2 x_Y_3
        have zbv0 := bv0.size
        replace BB := also BB bv0
        replace x_a := x_a.on bv0
        replace x_b := x_b.on bv0
        replace x_c := x_c.on bv0
        replace r11 := r11.below bv0
        replace r12 := r12.below bv0
        replace x_X := x_X.on bv0
        replace x_Y := x_Y.on bv0
        have ⟨x_a_0, x_a_1, x_a_2, x_a_3⟩ := x_a
        have ⟨x_b_0, x_b_1, x_b_2, x_b_3⟩ := x_b
        have ⟨x_c_0, x_c_1, x_c_2, x_c_3⟩ := x_c
        have ⟨x_X_0, x_X_1, x_X_2, x_X_3⟩ := x_X
        have ⟨x_Y_0, x_Y_1, x_Y_2, x_Y_3⟩ := x_Y
        go_wp2_with (go_at_call 12; fail)
        refine (rlCan b1 b2 v0 (r64 Rb1.out) (r64 Rb2.out) hb.symm).mono ?_
        rintro e v1 ⟨rfl, bv1⟩
        clear x_a_0 x_a_1 x_a_2 x_a_3 x_b_0 x_b_1 x_b_2 x_b_3 x_c_0 x_c_1 x_c_2 x_c_3 x_X_0 x_X_1 x_X_2 x_X_3 x_Y_0 x_Y_1 x_Y_2 x_Y_3
        have zbv1 := bv1.size
        replace BB := also BB bv1
        replace x_a := x_a.on bv1
        replace x_b := x_b.on bv1
        replace x_c := x_c.on bv1
        replace r11 := r11.below bv1
        replace r12 := r12.below bv1
        replace x_X := x_X.on bv1
        replace x_Y := x_Y.on bv1
        have ⟨x_a_0, x_a_1, x_a_2, x_a_3⟩ := x_a
        have ⟨x_b_0, x_b_1, x_b_2, x_b_3⟩ := x_b
        have ⟨x_c_0, x_c_1, x_c_2, x_c_3⟩ := x_c
        have ⟨x_X_0, x_X_1, x_X_2, x_X_3⟩ := x_X
        have ⟨x_Y_0, x_Y_1, x_Y_2, x_Y_3⟩ := x_Y
        go_wp2
        clear x_a_0 x_a_1 x_a_2 x_a_3 x_b_0 x_b_1 x_b_2 x_b_3 x_c_0 x_c_1 x_c_2 x_c_3 x_X_0 x_X_1 x_X_2 x_X_3 x_Y_0 x_Y_1 x_Y_2 x_Y_3
        have dd1 : Below v1.heap.size v1 v1.drew := (Below.refl _ _).drew
        have zdd1 := dd1.size
        replace BB := also BB dd1
        replace x_a := x_a.on dd1
        replace x_b := x_b.on dd1
        replace x_c := x_c.on dd1
        replace r11 := r11.below dd1
        replace r12 := r12.below dd1
        replace x_X := x_X.on dd1
        replace x_Y := x_Y.on dd1
        refine wp_region_held_drew (S := (fun w' => w'.cell? ⟨w.heap.size, 0, none⟩ = some (.int .i64 a1) ∧ w'.cell? ⟨w.heap.size, 1, none⟩ = some (.int .i64 a2) ∧ w'.cell? ⟨w.heap.size + 1, 0, none⟩ = some (.int .i64 b1) ∧ w'.cell? ⟨w.heap.size + 1, 1, none⟩ = some (.int .i64 b2) ∧ w'.cell? ⟨pmc1, 0, none⟩ = some (.int .i64 s12) ∧ w'.cell? ⟨pmc1, 1, none⟩ = some (.slice d12 l12 c12) ∧ Below w.heap.size w w')) (by kernel_rfl) ?_ (fun hHeld => ?_)
        · first | exact ⟨x_a.c0, x_a.c1, x_b.c0, x_b.c1, x_Y.c0, x_Y.c1, BB⟩ | exact ⟨cell_on bv3 hHeld.1, cell_on bv3 hHeld.2.1, cell_on bv3 hHeld.2.2.1, cell_on bv3 hHeld.2.2.2.1, cell_on bv3 hHeld.2.2.2.2.1, cell_on bv3 hHeld.2.2.2.2.2.1, also hHeld.2.2.2.2.2.2 bv3⟩ | exact ⟨cell_on bv2 hHeld.1, cell_on bv2 hHeld.2.1, cell_on bv2 hHeld.2.2.1, cell_on bv2 hHeld.2.2.2.1, cell_on bv2 hHeld.2.2.2.2.1, cell_on bv2 hHeld.2.2.2.2.2.1, also hHeld.2.2.2.2.2.2 bv2⟩
        refine take_yes (i := 0) (v := ?vqc0) rfl (by kernel_rfl) (by kernel_rfl) (by kernel_rfl) (fun _ _ _ h => h) (by rfl) (by assumption) ?hyqc0 ?restqc0
        case hyqc0 => (intro w hSw; (try dsimp only at hSw); first | (go_simp; done) | (go_simp; with_reducible rfl))
        simp only [Act.put, List.setIfInBounds_toArray, List.set_cons_zero, List.set_cons_succ]
        refine take_yes (i := 1) (v := ?vqc1) rfl (by kernel_rfl) (by kernel_rfl) (by kernel_rfl) (fun _ _ _ h => h) (by rfl) (by assumption) ?hyqc1 ?restqc1
        case hyqc1 => (intro w hSw; (try dsimp only at hSw); first | (go_simp; done) | (go_simp; with_reducible rfl))
        simp only [Act.put, List.setIfInBounds_toArray, List.set_cons_zero, List.set_cons_succ]
        refine take_yes (i := 2) (v := ?vqc2) rfl (by kernel_rfl) (by kernel_rfl) (by kernel_rfl) (fun _ _ _ h => h) (by rfl) (by assumption) ?hyqc2 ?restqc2
        case hyqc2 => (intro w hSw; (try dsimp only at hSw); first | (go_simp; done) | (go_simp; with_reducible rfl))
        simp only [Act.put, List.setIfInBounds_toArray, List.set_cons_zero, List.set_cons_succ]
        refine take_call (i := 3) rfl (by kernel_rfl) (fun Kc hK => ?_)
        go_simp
        (go_at_call 15; refine (rpDist a1 a2 b1 b2 _ ha hb HD.out).mono ?_; rintro e v2 ⟨s13, d13, l13, c13, rfl, r13, f13, bv2⟩)
        refine hK.out _ _ ?_ (fun hHeld => ?_)
        · first | exact ⟨x_a.c0, x_a.c1, x_b.c0, x_b.c1, x_Y.c0, x_Y.c1, BB⟩ | exact ⟨cell_on bv3 hHeld.1, cell_on bv3 hHeld.2.1, cell_on bv3 hHeld.2.2.1, cell_on bv3 hHeld.2.2.2.1, cell_on bv3 hHeld.2.2.2.2.1, cell_on bv3 hHeld.2.2.2.2.2.1, also hHeld.2.2.2.2.2.2 bv3⟩ | exact ⟨cell_on bv2 hHeld.1, cell_on bv2 hHeld.2.1, cell_on bv2 hHeld.2.2.1, cell_on bv2 hHeld.2.2.2.1, cell_on bv2 hHeld.2.2.2.2.1, cell_on bv2 hHeld.2.2.2.2.2.1, also hHeld.2.2.2.2.2.2 bv2⟩
        clear hK Kc
        have zbv2 := bv2.size
        replace BB := also BB bv2
        replace x_a := x_a.on bv2
        replace x_b := x_b.on bv2
        replace x_c := x_c.on bv2
        replace r11 := r11.below bv2
        replace r12 := r12.below bv2
        replace x_X := x_X.on bv2
        replace x_Y := x_Y.on bv2
        refine take_call (i := 4) rfl (by kernel_rfl) (fun Kc hK => ?_)
        go_simp
        (go_at_call 14; refine (rwCmp s12 s13 d12 d13 l12 c12 l13 c13 D D _ r12 r13 FD.out FD.out Z1.out).mono ?_; rintro e v3 ⟨rfl, bv3⟩)
        refine hK.out _ _ ?_ (fun hHeld => ?_)
        · first | exact ⟨x_a.c0, x_a.c1, x_b.c0, x_b.c1, x_Y.c0, x_Y.c1, BB⟩ | exact ⟨cell_on bv3 hHeld.1, cell_on bv3 hHeld.2.1, cell_on bv3 hHeld.2.2.1, cell_on bv3 hHeld.2.2.2.1, cell_on bv3 hHeld.2.2.2.2.1, cell_on bv3 hHeld.2.2.2.2.2.1, also hHeld.2.2.2.2.2.2 bv3⟩ | exact ⟨cell_on bv2 hHeld.1, cell_on bv2 hHeld.2.1, cell_on bv2 hHeld.2.2.1, cell_on bv2 hHeld.2.2.2.1, cell_on bv2 hHeld.2.2.2.2.1, cell_on bv2 hHeld.2.2.2.2.2.1, also hHeld.2.2.2.2.2.2 bv2⟩
        clear hK Kc
        have zbv3 := bv3.size
        replace BB := also BB bv3
        replace x_a := x_a.on bv3
        replace x_b := x_b.on bv3
        replace x_c := x_c.on bv3
        replace r11 := r11.below bv3
        replace r12 := r12.below bv3
        replace x_X := x_X.on bv3
        replace x_Y := x_Y.on bv3
        replace r13 := r13.below bv3
        refine take_yes (i := 5) (v := ?vqc5) rfl (by kernel_rfl) (by kernel_rfl) (by kernel_rfl) (fun _ _ _ h => h) (by rfl) (by assumption) ?hyqc5 ?restqc5
        case hyqc5 => (intro w hSw; (try dsimp only at hSw); first | (go_simp; done) | (go_simp; with_reducible rfl))
        simp only [Act.put, List.setIfInBounds_toArray, List.set_cons_zero, List.set_cons_succ]
        refine wpAnyH_done (by kernel_rfl) ?_ _
        have ⟨x_a_0, x_a_1, x_a_2, x_a_3⟩ := x_a
        have ⟨x_b_0, x_b_1, x_b_2, x_b_3⟩ := x_b
        have ⟨x_c_0, x_c_1, x_c_2, x_c_3⟩ := x_c
        have ⟨x_X_0, x_X_1, x_X_2, x_X_3⟩ := x_X
        have ⟨x_Y_0, x_Y_1, x_Y_2, x_Y_3⟩ := x_Y
        go_wp2_with (go_at_call 12; fail)
        refine (rlCan c1 c2 v3 (r64 Rc1.out) (r64 Rc2.out) hc.symm).mono ?_
        rintro e v4 ⟨rfl, bv4⟩
        clear x_a_0 x_a_1 x_a_2 x_a_3 x_b_0 x_b_1 x_b_2 x_b_3 x_c_0 x_c_1 x_c_2 x_c_3 x_X_0 x_X_1 x_X_2 x_X_3 x_Y_0 x_Y_1 x_Y_2 x_Y_3
        have zbv4 := bv4.size
        replace BB := also BB bv4
        replace x_a := x_a.on bv4
        replace x_b := x_b.on bv4
        replace x_c := x_c.on bv4
        replace r11 := r11.below bv4
        replace r12 := r12.below bv4
        replace x_X := x_X.on bv4
        replace x_Y := x_Y.on bv4
        replace r13 := r13.below bv4
        have ⟨x_a_0, x_a_1, x_a_2, x_a_3⟩ := x_a
        have ⟨x_b_0, x_b_1, x_b_2, x_b_3⟩ := x_b
        have ⟨x_c_0, x_c_1, x_c_2, x_c_3⟩ := x_c
        have ⟨x_X_0, x_X_1, x_X_2, x_X_3⟩ := x_X
        have ⟨x_Y_0, x_Y_1, x_Y_2, x_Y_3⟩ := x_Y
        go_wp2_with (go_at_call 13; fail)
        refine (lives7_any v4).mono ?_
        rintro e v9 ⟨rfl, bv9⟩
        clear x_a_0 x_a_1 x_a_2 x_a_3 x_b_0 x_b_1 x_b_2 x_b_3 x_c_0 x_c_1 x_c_2 x_c_3 x_X_0 x_X_1 x_X_2 x_X_3 x_Y_0 x_Y_1 x_Y_2 x_Y_3
        have zbv9 := bv9.size
        replace BB := also BB bv9
        replace x_a := x_a.on bv9
        replace x_b := x_b.on bv9
        replace x_c := x_c.on bv9
        replace r11 := r11.below bv9
        replace r12 := r12.below bv9
        replace x_X := x_X.on bv9
        replace x_Y := x_Y.on bv9
        replace r13 := r13.below bv9
        go_wp2
        go_ret
        exact ⟨rfl, BB⟩
      · skip
        have HD : Hid (D = distP a1 a2 b1 b2) := by unfold Hid; rw [hD]; unfold diP; rw [if_pos (can2.2 ⟨ha, hb⟩)]
        have HA : Hid (A = areaP a1 a2 b1 b2 c1 c2) := by unfold Hid; rw [hA]; exact ar_all ha hb hc
        have HO : Hid (n = (areaP a1 a2 b1 b2 c1 c2).sign) := by unfold Hid; rw [← HA.out]; exact hn
        have Hn : Hid _ := hn
        clear hn
        clear hA hD
        have Z1 : Hid ((0 : Int) = (D - D).sign) := by unfold Hid; rw [Int.sub_self]; rfl
        have Z2 : Hid ((0 : Int) = (A - A).sign) := by unfold Hid; rw [Int.sub_self]; rfl
        obtain ⟨W, hW, bW, x_a, x_b, x_c, sW⟩ := bs_222 w (.int .i64 a1) (.int .i64 a2) (.int .i64 b1) (.int .i64 b2) (.int .i64 c1) (.int .i64 c2) 23 23 23
        have zbW := bW.size
        have BB := bW
        go_enter Try.func3, Try.ntmps3
        go_wp2
        rw [← hW]
        clear hW
        obtain ⟨QQ, hQQ⟩ : ∃ QQ : Exit → Act → World → Prop, QQ = fun e act wr => e = .normal ∧ ∃ (pmd0 : Nat) (pmd1 : Nat) (s11 : Int) (d11 : Option Addr) (l11 c11 : Nat) (s12 : Int) (d12 : Option Addr) (l12 c12 : Nat), act = ⟨#[.agg #[.int .i64 a1, .int .i64 a2], .agg #[.int .i64 b1, .int .i64 b2], .agg #[.int .i64 c1, .int .i64 c2], .pointer (some ⟨w.heap.size, 0, none⟩), .pointer (some ⟨w.heap.size + 1, 0, none⟩), .pointer (some ⟨w.heap.size + 1 + 1, 0, none⟩), .bool false, .pointer (some ⟨pmd0, 0, none⟩), .int .i64 n, .pointer (some ⟨pmd1, 0, none⟩), .agg #[.int .i64 a1, .int .i64 a2], .agg #[.int .i64 b1, .int .i64 b2], .agg #[.int .i64 c1, .int .i64 c2], .agg #[.int .i64 u, .int .u64 v], .agg #[.int .i64 s11, .slice d11 l11 c11], .agg #[.int .i64 a1, .int .i64 a2], .agg #[.int .i64 b1, .int .i64 b2], .agg #[.int .i64 c1, .int .i64 c2], .int .i64 n, .agg #[.int .i64 a1, .int .i64 a2], .agg #[.int .i64 b1, .int .i64 b2], .agg #[.int .i64 x, .int .u64 y], .agg #[.int .i64 s12, .slice d12 l12 c12], undef, undef, undef, undef, undef, undef, undef, undef, undef, undef, undef, undef, undef, undef, undef, undef, undef, undef, undef, undef, undef, undef, undef, undef, undef, undef, undef, undef, undef, undef, undef, undef, undef, undef, undef, undef, undef, undef, undef, undef, undef, undef, undef, undef, undef, undef, undef, undef, undef, undef, undef, undef, undef, undef, undef, undef, undef, undef, undef, undef, undef, undef, undef, undef, undef, undef], []⟩ ∧ RN wr s11 d11 l11 c11 A ∧ RN wr s12 d12 l12 c12 D ∧ Bx wr (w.heap.size) (.int .i64 a1) (.int .i64 a2) ∧ Bx wr (w.heap.size + 1) (.int .i64 b1) (.int .i64 b2) ∧ Bx wr (w.heap.size + 1 + 1) (.int .i64 c1) (.int .i64 c2) ∧ Bx wr pmd0 (.int .i64 s11) (.slice d11 l11 c11) ∧ Bx wr pmd1 (.int .i64 s12) (.slice d12 l12 c12) ∧ Below w.heap.size w wr ∧ W.heap.size ≤ wr.heap.size ∧ (W.heap.size ≤ pmd0 ∧ pmd0 < wr.heap.size) ∧ (W.heap.size ≤ pmd1 ∧ pmd1 < wr.heap.size) := ⟨_, rfl⟩
        have HQQ : Hid _ := hQQ
        clear hQQ
        refine wp_mono (Q := QQ) ?_ ?_
        · refine wp_region_held_drew (S := (fun w' => w'.cell? ⟨w.heap.size, 0, none⟩ = some (.int .i64 a1) ∧ w'.cell? ⟨w.heap.size, 1, none⟩ = some (.int .i64 a2) ∧ w'.cell? ⟨w.heap.size + 1, 0, none⟩ = some (.int .i64 b1) ∧ w'.cell? ⟨w.heap.size + 1, 1, none⟩ = some (.int .i64 b2) ∧ w'.cell? ⟨w.heap.size + 1 + 1, 0, none⟩ = some (.int .i64 c1) ∧ w'.cell? ⟨w.heap.size + 1 + 1, 1, none⟩ = some (.int .i64 c2) ∧ Below w.heap.size w w')) (by kernel_rfl) ?_ (fun hHeld => ?_)
          · exact ⟨x_a.c0, x_a.c1, x_b.c0, x_b.c1, x_c.c0, x_c.c1, BB.drew⟩
          refine take_yes (i := 0) (v := ?vmd0x1) rfl (by kernel_rfl) (by kernel_rfl) (by kernel_rfl) (fun _ _ _ h => by rw [HQQ.out] at h; exact Exit.noConfusion h.1) (by rfl) (by assumption) ?hymd0x1 ?restmd0x1
          case hymd0x1 => (intro w hSw; (try dsimp only at hSw); first | (go_simp; done) | (go_simp; with_reducible rfl))
          simp only [Act.put, List.setIfInBounds_toArray, List.set_cons_zero, List.set_cons_succ]
          refine take_yes (i := 1) (v := ?vmd1x2) rfl (by kernel_rfl) (by kernel_rfl) (by kernel_rfl) (fun _ _ _ h => by rw [HQQ.out] at h; exact Exit.noConfusion h.1) (by rfl) (by assumption) ?hymd1x2 ?restmd1x2
          case hymd1x2 => (intro w hSw; (try dsimp only at hSw); first | (go_simp; done) | (go_simp; with_reducible rfl))
          simp only [Act.put, List.setIfInBounds_toArray, List.set_cons_zero, List.set_cons_succ]
          refine take_yes (i := 2) (v := ?vmd2x3) rfl (by kernel_rfl) (by kernel_rfl) (by kernel_rfl) (fun _ _ _ h => by rw [HQQ.out] at h; exact Exit.noConfusion h.1) (by rfl) (by assumption) ?hymd2x3 ?restmd2x3
          case hymd2x3 => (intro w hSw; (try dsimp only at hSw); first | (go_simp; done) | (go_simp; with_reducible rfl))
          simp only [Act.put, List.setIfInBounds_toArray, List.set_cons_zero, List.set_cons_succ]
          refine take_yes (i := 5) (v := ?vmd5x4) rfl (by kernel_rfl) (by kernel_rfl) (by kernel_rfl) (fun _ _ _ h => by rw [HQQ.out] at h; exact Exit.noConfusion h.1) (by rfl) (by assumption) ?hymd5x4 ?restmd5x4
          case hymd5x4 => (intro w hSw; (try dsimp only at hSw); first | (go_simp; done) | (go_simp; with_reducible rfl))
          simp only [Act.put, List.setIfInBounds_toArray, List.set_cons_zero, List.set_cons_succ]
          refine take_yes (i := 6) (v := ?vmd6x5) rfl (by kernel_rfl) (by kernel_rfl) (by kernel_rfl) (fun _ _ _ h => by rw [HQQ.out] at h; exact Exit.noConfusion h.1) (by rfl) (by assumption) ?hymd6x5 ?restmd6x5
          case hymd6x5 => (intro w hSw; (try dsimp only at hSw); first | (go_simp; done) | (go_simp; with_reducible rfl))
          simp only [Act.put, List.setIfInBounds_toArray, List.set_cons_zero, List.set_cons_succ]
          refine take_yes (i := 7) (v := ?vmd7x6) rfl (by kernel_rfl) (by kernel_rfl) (by kernel_rfl) (fun _ _ _ h => by rw [HQQ.out] at h; exact Exit.noConfusion h.1) (by rfl) (by assumption) ?hymd7x6 ?restmd7x6
          case hymd7x6 => (intro w hSw; (try dsimp only at hSw); first | (go_simp; done) | (go_simp; with_reducible rfl))
          simp only [Act.put, List.setIfInBounds_toArray, List.set_cons_zero, List.set_cons_succ]
          refine take_yes (i := 9) (v := ?vmd9x7) rfl (by kernel_rfl) (by kernel_rfl) (by kernel_rfl) (fun _ _ _ h => by rw [HQQ.out] at h; exact Exit.noConfusion h.1) (by rfl) (by assumption) ?hymd9x7 ?restmd9x7
          case hymd9x7 => (intro w hSw; (try dsimp only at hSw); first | (go_simp; done) | (go_simp; with_reducible rfl))
          simp only [Act.put, List.setIfInBounds_toArray, List.set_cons_zero, List.set_cons_succ]
          refine take_yes (i := 10) (v := ?vmd10x8) rfl (by kernel_rfl) (by kernel_rfl) (by kernel_rfl) (fun _ _ _ h => by rw [HQQ.out] at h; exact Exit.noConfusion h.1) (by rfl) (by assumption) ?hymd10x8 ?restmd10x8
          case hymd10x8 => (intro w hSw; (try dsimp only at hSw); first | (go_simp; done) | (go_simp; with_reducible rfl))
          simp only [Act.put, List.setIfInBounds_toArray, List.set_cons_zero, List.set_cons_succ]
          clear hHeld
          obtain ⟨INV, hINV⟩ : ∃ INV : Nat → Array Bool → Act → World → Prop, INV = fun f L act wr => ∃ (bD eD : Nat → Bool) (pD : Nat → Nat) (RD : Nat → World → Prop) (AD : Nat → Nat → Prop) (uD vD : Nat → Value), f = 3 + (nb (bD 0) + nb (bD 1) + nb (bD 2) + nb (bD 3) + nb (bD 4) + nb (eD 0) + nb (eD 1)) ∧ L = #[true, true, true, bD 0, bD 1, true, true, true, bD 2, true, true, bD 3, bD 4, eD 0, eD 1, false, false, false] ∧ act = ⟨#[.agg #[.int .i64 a1, .int .i64 a2], .agg #[.int .i64 b1, .int .i64 b2], .agg #[.int .i64 c1, .int .i64 c2], .pointer (some ⟨w.heap.size, 0, none⟩), .pointer (some ⟨w.heap.size + 1, 0, none⟩), .pointer (some ⟨w.heap.size + 1 + 1, 0, none⟩), .bool false, vD 0, undef, vD 1, .agg #[.int .i64 a1, .int .i64 a2], .agg #[.int .i64 b1, .int .i64 b2], .agg #[.int .i64 c1, .int .i64 c2], uD 0, uD 1, .agg #[.int .i64 a1, .int .i64 a2], .agg #[.int .i64 b1, .int .i64 b2], .agg #[.int .i64 c1, .int .i64 c2], uD 2, .agg #[.int .i64 a1, .int .i64 a2], .agg #[.int .i64 b1, .int .i64 b2], uD 3, uD 4, undef, undef, undef, undef, undef, undef, undef, undef, undef, undef, undef, undef, undef, undef, undef, undef, undef, undef, undef, undef, undef, undef, undef, undef, undef, undef, undef, undef, undef, undef, undef, undef, undef, undef, undef, undef, undef, undef, undef, undef, undef, undef, undef, undef, undef, undef, undef, undef, undef, undef, undef, undef, undef, undef, undef, undef, undef, undef, undef, undef, undef, undef, undef, undef, undef, undef], []⟩ ∧ (bD 1 = true → bD 0 = true) ∧ (bD 2 = true → bD 1 = true) ∧ (bD 3 = true → bD 2 = true) ∧ (bD 4 = true → bD 3 = true) ∧ Mk W SpAZ (SpA A D n u v x y) bD eD pD RD AD uD vD wr := ⟨_, rfl⟩
          have HINV : Hid _ := hINV
          clear hINV
          refine phase INV ?stepmd _ _ _ _ ?initmd
          case initmd => rw [HINV.out]; exact ⟨fun _ => false, fun _ => false, fun _ => 0, fun _ _ => True, fun _ _ => True, fun _ => undef, fun _ => undef, rfl, rfl, rfl, fun h => Bool.noConfusion h, fun h => Bool.noConfusion h, fun h => Bool.noConfusion h, fun h => Bool.noConfusion h, Mk.start _ _ _ (Below.refl _ _).drew⟩
          intro f L act wr hinv
          rw [HINV.out] at hinv
          obtain ⟨bD, eD, pD, RD, AD, uD, vD, hf, rfl, rfl, ch0, ch1, ch2, ch3, hm⟩ := hinv
          by_cases hall : bD 4 = true ∧ eD 0 = true ∧ eD 1 = true
          · refine Or.inl ?_
            obtain ⟨hb4, he0, he1⟩ := hall
            have hb3 := ch3 hb4
            have hb2 := ch2 hb3
            have hb1 := ch1 hb2
            have hb0 := ch0 hb1
            simp only [hb0, hb1, hb2, hb3, hb4, he0, he1, nb] at hf
            subst hf
            rw [hb0, hb1, hb2, hb3, hb4, he0, he1, hm.ptr 0 he0, hm.ptr 1 he1]
            obtain ⟨hu0, _, _⟩ : ValIs _ _ _ _ := hm.spec 0 hb0
            rw [hu0]
            obtain ⟨s11, d11, l11, c11, hu1, hR1, hA1⟩ : RNIs _ _ _ _ := hm.spec 1 hb1
            rw [hu1]
            have r11 : RN wr s11 d11 l11 c11 A := by have := hm.res 1 hb1; rw [hR1] at this; exact this
            have n_r11_0_pmd0 : NA (pD 0) d11 l11 := by have := hm.ap 0 1 he0 hb1; rw [hA1] at this; exact this
            have n_r11_0_pmd1 : NA (pD 1) d11 l11 := by have := hm.ap 1 1 he1 hb1; rw [hA1] at this; exact this
            obtain ⟨hu2, _, _⟩ : ValIs _ _ _ _ := hm.spec 2 hb2
            rw [hu2]
            obtain ⟨hu3, _, _⟩ : ValIs _ _ _ _ := hm.spec 3 hb3
            rw [hu3]
            obtain ⟨s12, d12, l12, c12, hu4, hR4, hA4⟩ : RNIs _ _ _ _ := hm.spec 4 hb4
            rw [hu4]
            have r12 : RN wr s12 d12 l12 c12 D := by have := hm.res 4 hb4; rw [hR4] at this; exact this
            have n_r12_0_pmd0 : NA (pD 0) d12 l12 := by have := hm.ap 0 4 he0 hb4; rw [hA4] at this; exact this
            have n_r12_0_pmd1 : NA (pD 1) d12 l12 := by have := hm.ap 1 4 he1 hb4; rw [hA4] at this; exact this
            have y_pmd0 : Bx wr (pD 0) (.int .i64 0) (.slice none 0 0) := bx_row (hm.blk 0 he0)
            have gpmd0 := hm.old 0 he0
            have ltpmd0 := hm.lt 0 he0
            have y_pmd1 : Bx wr (pD 1) (.int .i64 0) (.slice none 0 0) := bx_row (hm.blk 1 he1)
            have gpmd1 := hm.old 1 he1
            have ltpmd1 := hm.lt 1 he1
            have ne_0_1 : pD 0 ≠ pD 1 := hm.ne 0 1 he0 he1 (by decide)
            have BU := hm.bel
            replace x_a := x_a.on BU
            replace x_b := x_b.on BU
            replace x_c := x_c.on BU
            replace BB := also BB BU
            have hHeld : ((fun w' => w'.cell? ⟨w.heap.size, 0, none⟩ = some (.int .i64 a1) ∧ w'.cell? ⟨w.heap.size, 1, none⟩ = some (.int .i64 a2) ∧ w'.cell? ⟨w.heap.size + 1, 0, none⟩ = some (.int .i64 b1) ∧ w'.cell? ⟨w.heap.size + 1, 1, none⟩ = some (.int .i64 b2) ∧ w'.cell? ⟨w.heap.size + 1 + 1, 0, none⟩ = some (.int .i64 c1) ∧ w'.cell? ⟨w.heap.size + 1 + 1, 1, none⟩ = some (.int .i64 c2) ∧ Below w.heap.size w w')) wr := ⟨x_a.c0, x_a.c1, x_b.c0, x_b.c1, x_c.c0, x_c.c1, BB⟩
            clear hm HINV INV ch0 ch1 ch2 ch3
            generalize pD 0 = pmd0 at *
            generalize pD 1 = pmd1 at *
            dsimp only at hHeld
            have ⟨c_pmd0_0, c_pmd0_1, c_pmd0_2, c_pmd0_3⟩ : Bx wr pmd0 (.int .i64 0) (.slice none 0 0) := y_pmd0
            refine take_call (i := 15) rfl (by kernel_rfl) (fun Kc hK => ?_)
            go_simp
            refine hK.out _ _ ⟨cell_put2 hHeld.1 (by omega) _ _, cell_put2 hHeld.2.1 (by omega) _ _, cell_put2 hHeld.2.2.1 (by omega) _ _, cell_put2 hHeld.2.2.2.1 (by omega) _ _, cell_put2 hHeld.2.2.2.2.1 (by omega) _ _, cell_put2 hHeld.2.2.2.2.2.1 (by omega) _ _, below_put2 hHeld.2.2.2.2.2.2 (by omega) _ _⟩ (fun hHeld => ?_)
            clear hK Kc
            refine take_yes (i := 16) (v := ?vmd16x9) rfl (by kernel_rfl) (by kernel_rfl) (by kernel_rfl) (fun _ _ _ h => by rw [HQQ.out] at h; exact Exit.noConfusion h.1) (by rfl) (by assumption) ?hymd16x9 ?restmd16x9
            case hymd16x9 => (intro w hSw; (try dsimp only at hSw); first | (go_simp; done) | (go_simp; with_reducible rfl))
            simp only [Act.put, List.setIfInBounds_toArray, List.set_cons_zero, List.set_cons_succ]
            have ⟨c_pmd1_0, c_pmd1_1, c_pmd1_2, c_pmd1_3⟩ : Bx ((wr.setCell ⟨pmd0, 0, none⟩ (.int .i64 s11)).setCell ⟨pmd0, 1, none⟩ (.slice d11 l11 c11)) pmd1 (.int .i64 0) (.slice none 0 0) := ((y_pmd1.put ne_0_1).put ne_0_1)
            refine take_call (i := 17) rfl (by kernel_rfl) (fun Kc hK => ?_)
            go_simp
            refine hK.out _ _ ⟨cell_put2 hHeld.1 (by omega) _ _, cell_put2 hHeld.2.1 (by omega) _ _, cell_put2 hHeld.2.2.1 (by omega) _ _, cell_put2 hHeld.2.2.2.1 (by omega) _ _, cell_put2 hHeld.2.2.2.2.1 (by omega) _ _, cell_put2 hHeld.2.2.2.2.2.1 (by omega) _ _, below_put2 hHeld.2.2.2.2.2.2 (by omega) _ _⟩ (fun hHeld => ?_)
            clear hK Kc
            refine wpAnyH_done (by kernel_rfl) ?_ _
            rw [HQQ.out]
            exact ⟨rfl, pmd0, pmd1, s11, d11, l11, c11, s12, d12, l12, c12, rfl, ((((r11.put n_r11_0_pmd0 0 _).put n_r11_0_pmd0 1 _).put n_r11_0_pmd1 0 _).put n_r11_0_pmd1 1 _), ((((r12.put n_r12_0_pmd0 0 _).put n_r12_0_pmd0 1 _).put n_r12_0_pmd1 0 _).put n_r12_0_pmd1 1 _), ((((x_a.put (by omega)).put (by omega)).put (by omega)).put (by omega)), ((((x_b.put (by omega)).put (by omega)).put (by omega)).put (by omega)), ((((x_c.put (by omega)).put (by omega)).put (by omega)).put (by omega)), ((y_pmd0.set.put (fun e => ne_0_1 e.symm)).put (fun e => ne_0_1 e.symm)), ((y_pmd1.put ne_0_1).put ne_0_1).set, (below_put2 (below_put2 BB (by omega) _ _) (by omega) _ _), by have := BU.size; simp only [World.size_setCell]; omega, ⟨gpmd0, by simp only [World.size_setCell]; omega⟩, ⟨gpmd1, by simp only [World.size_setCell]; omega⟩⟩
          · refine Or.inr ⟨f - 1, by omega, ?nemd, ?opsmd⟩
            case nemd =>
              cases he0 : eD 0
              · exact ready_ne (i := 13) (by decide) (by kernel_rfl)
              cases he1 : eD 1
              · exact ready_ne (i := 14) (by decide) (by kernel_rfl)
              cases hb0 : bD 0
              · exact ready_ne (i := 3) (by decide) (by kernel_rfl)
              cases hb1 : bD 1
              · exact ready_ne (i := 4) (by decide) (by kernel_rfl)
              cases hb2 : bD 2
              · exact ready_ne (i := 8) (by decide) (by kernel_rfl)
              cases hb3 : bD 3
              · exact ready_ne (i := 11) (by decide) (by kernel_rfl)
              cases hb4 : bD 4
              · exact ready_ne (i := 12) (by decide) (by kernel_rfl)
              exact absurd ⟨hb4, he0, he1⟩ hall
            case opsmd =>
              intro i hi
              obtain ⟨hlt, hnot, hdep⟩ := ready_at hi
              replace hlt : i < 18 := hlt
              obtain rfl | rfl | rfl | rfl | rfl | rfl | rfl | rfl | rfl | rfl | rfl | rfl | rfl | rfl | rfl | rfl | rfl | rfl : i = 0 ∨ i = 1 ∨ i = 2 ∨ i = 3 ∨ i = 4 ∨ i = 5 ∨ i = 6 ∨ i = 7 ∨ i = 8 ∨ i = 9 ∨ i = 10 ∨ i = 11 ∨ i = 12 ∨ i = 13 ∨ i = 14 ∨ i = 15 ∨ i = 16 ∨ i = 17 := by omega
              · skip
                exact Bool.noConfusion (show true = false from hnot)
              · skip
                exact Bool.noConfusion (show true = false from hnot)
              · skip
                exact Bool.noConfusion (show true = false from hnot)
              · skip
                have hbj : bD 0 = false := hnot
                refine ⟨_, rfl, fun K' hK => ?_⟩
                go_simp
                (go_at_call 9; refine (pArea a1 a2 b1 b2 c1 c2 _ Eu.out Ev.out).mono ?_; rintro e' X ⟨rfl, bX⟩)
                have hm' := hm.call (SpA_good A D n u v x y) 0 bX (.agg #[.int .i64 u, .int .u64 v]) (fun _ => True) (fun _ => True) ⟨rfl, rfl, rfl⟩ trivial (fun i hi => trivial)
                refine hK.out _ _ ⟨cell_on hm'.bel x_a.c0, cell_on hm'.bel x_a.c1, cell_on hm'.bel x_b.c0, cell_on hm'.bel x_b.c1, cell_on hm'.bel x_c.c0, cell_on hm'.bel x_c.c1, also BB hm'.bel⟩ ?_
                rw [HINV.out]
                exact ⟨upd bD 0 true, eD, pD, upd RD 0 (fun _ => True), upd AD 0 (fun _ => True), upd uD 0 (.agg #[.int .i64 u, .int .u64 v]), vD, fuel_SpA_b0 hf hbj, rfl, rfl, fun _ => rfl, ch1, ch2, ch3, hm'⟩
              · skip
                have hbj : bD 1 = false := hnot
                have hprev : bD 0 = true := hdep _ rfl 1 _ rfl rfl
                refine ⟨_, rfl, fun K' hK => ?_⟩
                obtain ⟨hu0, _, _⟩ : ValIs _ _ _ _ := hm.spec 0 hprev
                rw [hu0]
                go_simp
                (go_at_call 8; refine (pWide A Hu.out Hv.out GA.out _).mono ?_; rintro e' X ⟨s11, d11, l11, c11, rfl, r11, f11, bX⟩)
                have hm' := hm.call (SpA_good A D n u v x y) 1 bX (.agg #[.int .i64 s11, .slice d11 l11 c11]) (fun w => RN w s11 d11 l11 c11 A) (fun k => NA k d11 l11) ⟨_, _, _, _, rfl, rfl, rfl⟩ r11 (fun i hi => f11 (pD i) (hm.lt i hi) trivial)
                refine hK.out _ _ ⟨cell_on hm'.bel x_a.c0, cell_on hm'.bel x_a.c1, cell_on hm'.bel x_b.c0, cell_on hm'.bel x_b.c1, cell_on hm'.bel x_c.c0, cell_on hm'.bel x_c.c1, also BB hm'.bel⟩ ?_
                rw [HINV.out]
                exact ⟨upd bD 1 true, eD, pD, upd RD 1 (fun w => RN w s11 d11 l11 c11 A), upd AD 1 (fun k => NA k d11 l11), upd uD 1 (.agg #[.int .i64 s11, .slice d11 l11 c11]), vD, fuel_SpA_b1 hf hbj, rfl, (by rw [show upd uD 1 (.agg #[.int .i64 s11, .slice d11 l11 c11]) 0 = .agg #[.int .i64 u, .int .u64 v] from hu0] <;> rfl), fun _ => hprev, fun _ => rfl, ch2, ch3, hm'⟩
              · skip
                exact Bool.noConfusion (show true = false from hnot)
              · skip
                exact Bool.noConfusion (show true = false from hnot)
              · skip
                exact Bool.noConfusion (show true = false from hnot)
              · skip
                have hbj : bD 2 = false := hnot
                have hprev : bD 1 = true := hdep _ rfl 3 _ rfl rfl
                have hq0 : bD 0 = true := ch0 hprev
                refine ⟨_, rfl, fun K' hK => ?_⟩
                go_simp
                (go_at_call 10; refine (pOrient a1 a2 b1 b2 c1 c2 _ HN.out).mono ?_; rintro e' X ⟨rfl, bX⟩)
                have hm' := hm.call (SpA_good A D n u v x y) 2 bX (.int .i64 n) (fun _ => True) (fun _ => True) ⟨rfl, rfl, rfl⟩ trivial (fun i hi => trivial)
                refine hK.out _ _ ⟨cell_on hm'.bel x_a.c0, cell_on hm'.bel x_a.c1, cell_on hm'.bel x_b.c0, cell_on hm'.bel x_b.c1, cell_on hm'.bel x_c.c0, cell_on hm'.bel x_c.c1, also BB hm'.bel⟩ ?_
                rw [HINV.out]
                exact ⟨upd bD 2 true, eD, pD, upd RD 2 (fun _ => True), upd AD 2 (fun _ => True), upd uD 2 (.int .i64 n), vD, fuel_SpA_b2 hf hbj, rfl, rfl, ch0, fun _ => hprev, fun _ => rfl, ch3, hm'⟩
              · skip
                exact Bool.noConfusion (show true = false from hnot)
              · skip
                exact Bool.noConfusion (show true = false from hnot)
              · skip
                have hbj : bD 3 = false := hnot
                have hprev : bD 2 = true := hdep _ rfl 2 _ rfl rfl
                have hq1 : bD 1 = true := ch1 hprev
                have hq0 : bD 0 = true := ch0 hq1
                refine ⟨_, rfl, fun K' hK => ?_⟩
                go_simp
                (go_at_call 11; refine (pDist a1 a2 b1 b2 _ Ex.out Ey.out).mono ?_; rintro e' X ⟨rfl, bX⟩)
                have hm' := hm.call (SpA_good A D n u v x y) 3 bX (.agg #[.int .i64 x, .int .u64 y]) (fun _ => True) (fun _ => True) ⟨rfl, rfl, rfl⟩ trivial (fun i hi => trivial)
                refine hK.out _ _ ⟨cell_on hm'.bel x_a.c0, cell_on hm'.bel x_a.c1, cell_on hm'.bel x_b.c0, cell_on hm'.bel x_b.c1, cell_on hm'.bel x_c.c0, cell_on hm'.bel x_c.c1, also BB hm'.bel⟩ ?_
                rw [HINV.out]
                exact ⟨upd bD 3 true, eD, pD, upd RD 3 (fun _ => True), upd AD 3 (fun _ => True), upd uD 3 (.agg #[.int .i64 x, .int .u64 y]), vD, fuel_SpA_b3 hf hbj, rfl, rfl, ch0, ch1, fun _ => hprev, fun _ => rfl, hm'⟩
              · skip
                have hbj : bD 4 = false := hnot
                have hprev : bD 3 = true := hdep _ rfl 1 _ rfl rfl
                have hq2 : bD 2 = true := ch2 hprev
                have hq1 : bD 1 = true := ch1 hq2
                have hq0 : bD 0 = true := ch0 hq1
                refine ⟨_, rfl, fun K' hK => ?_⟩
                obtain ⟨hu3, _, _⟩ : ValIs _ _ _ _ := hm.spec 3 hprev
                rw [hu3]
                go_simp
                (go_at_call 8; refine (pWide D Hx.out Hy.out GD.out _).mono ?_; rintro e' X ⟨s12, d12, l12, c12, rfl, r12, f12, bX⟩)
                have hm' := hm.call (SpA_good A D n u v x y) 4 bX (.agg #[.int .i64 s12, .slice d12 l12 c12]) (fun w => RN w s12 d12 l12 c12 D) (fun k => NA k d12 l12) ⟨_, _, _, _, rfl, rfl, rfl⟩ r12 (fun i hi => f12 (pD i) (hm.lt i hi) trivial)
                refine hK.out _ _ ⟨cell_on hm'.bel x_a.c0, cell_on hm'.bel x_a.c1, cell_on hm'.bel x_b.c0, cell_on hm'.bel x_b.c1, cell_on hm'.bel x_c.c0, cell_on hm'.bel x_c.c1, also BB hm'.bel⟩ ?_
                rw [HINV.out]
                exact ⟨upd bD 4 true, eD, pD, upd RD 4 (fun w => RN w s12 d12 l12 c12 D), upd AD 4 (fun k => NA k d12 l12), upd uD 4 (.agg #[.int .i64 s12, .slice d12 l12 c12]), vD, fuel_SpA_b4 hf hbj, rfl, (by rw [show upd uD 4 (.agg #[.int .i64 s12, .slice d12 l12 c12]) 3 = .agg #[.int .i64 x, .int .u64 y] from hu3] <;> rfl), ch0, ch1, ch2, fun _ => hprev, hm'⟩
              · skip
                have hei : eD 0 = false := hnot
                refine ⟨_, rfl, fun K' hK => ?_⟩
                go_simp
                have hm' := hm.alloc (SpA_good A D n u v x y) 0 27 hei
                refine hK.out _ _ ⟨cell_on hm'.bel x_a.c0, cell_on hm'.bel x_a.c1, cell_on hm'.bel x_b.c0, cell_on hm'.bel x_b.c1, cell_on hm'.bel x_c.c0, cell_on hm'.bel x_c.c1, also BB hm'.bel⟩ ?_
                rw [HINV.out]
                exact ⟨bD, upd eD 0 true, upd pD 0 wr.heap.size, RD, AD, uD, upd vD 0 (.pointer (some ⟨wr.heap.size, 0, none⟩)), fuel_SpA_e0 hf hei, rfl, rfl, ch0, ch1, ch2, ch3, hm'⟩
              · skip
                have hei : eD 1 = false := hnot
                refine ⟨_, rfl, fun K' hK => ?_⟩
                go_simp
                have hm' := hm.alloc (SpA_good A D n u v x y) 1 27 hei
                refine hK.out _ _ ⟨cell_on hm'.bel x_a.c0, cell_on hm'.bel x_a.c1, cell_on hm'.bel x_b.c0, cell_on hm'.bel x_b.c1, cell_on hm'.bel x_c.c0, cell_on hm'.bel x_c.c1, also BB hm'.bel⟩ ?_
                rw [HINV.out]
                exact ⟨bD, upd eD 1 true, upd pD 1 wr.heap.size, RD, AD, uD, upd vD 1 (.pointer (some ⟨wr.heap.size, 0, none⟩)), fuel_SpA_e1 hf hei, rfl, rfl, ch0, ch1, ch2, ch3, hm'⟩
              · skip
                exact absurd ⟨hdep _ rfl 2 _ rfl rfl, hdep _ rfl 0 _ rfl rfl, hdep _ rfl 17 _ rfl rfl⟩ hall
              · skip
                exact Bool.noConfusion (show false = true from hdep _ rfl 1 _ rfl rfl)
              · skip
                exact Bool.noConfusion (show false = true from hdep _ rfl 18 _ rfl rfl)
        rw [HQQ.out]
        rintro e act Y1 ⟨rfl, pmd0, pmd1, s11, d11, l11, c11, s12, d12, l12, c12, rfl, r11, r12, x_a, x_b, x_c, x_X, x_Y, BB, z_Y1, z_Y1_pmd0, z_Y1_pmd1⟩
        clear HQQ QQ
        try dsimp only
        have hs11 : s11 = n := by rw [Hn.out]; exact r11.sg
        obtain rfl : s11 = n := hs11
        have ⟨x_a_0, x_a_1, x_a_2, x_a_3⟩ := x_a
        have ⟨x_b_0, x_b_1, x_b_2, x_b_3⟩ := x_b
        have ⟨x_c_0, x_c_1, x_c_2, x_c_3⟩ := x_c
        have ⟨x_X_0, x_X_1, x_X_2, x_X_3⟩ := x_X
        have ⟨x_Y_0, x_Y_1, x_Y_2, x_Y_3⟩ := x_Y
        go_wp2_with (go_at_call 12; fail)
        refine (rlCan a1 a2 Y1 (r64 Ra1.out) (r64 Ra2.out) ha.symm).mono ?_
        rintro e v0 ⟨rfl, bv0⟩
        clear x_a_0 x_a_1 x_a_2 x_a_3 x_b_0 x_b_1 x_b_2 x_b_3 x_c_0 x_c_1 x_c_2 x_c_3 x_X_0 x_X_1 x_X_2 x_X_3 x_Y_0 x_Y_1 x_Y_2 x_Y_3
        have zbv0 := bv0.size
        replace BB := also BB bv0
        replace x_a := x_a.on bv0
        replace x_b := x_b.on bv0
        replace x_c := x_c.on bv0
        replace r11 := r11.below bv0
        replace r12 := r12.below bv0
        replace x_X := x_X.on bv0
        replace x_Y := x_Y.on bv0
        have ⟨x_a_0, x_a_1, x_a_2, x_a_3⟩ := x_a
        have ⟨x_b_0, x_b_1, x_b_2, x_b_3⟩ := x_b
        have ⟨x_c_0, x_c_1, x_c_2, x_c_3⟩ := x_c
        have ⟨x_X_0, x_X_1, x_X_2, x_X_3⟩ := x_X
        have ⟨x_Y_0, x_Y_1, x_Y_2, x_Y_3⟩ := x_Y
        go_wp2_with (go_at_call 12; fail)
        refine (rlCan b1 b2 v0 (r64 Rb1.out) (r64 Rb2.out) hb.symm).mono ?_
        rintro e v1 ⟨rfl, bv1⟩
        clear x_a_0 x_a_1 x_a_2 x_a_3 x_b_0 x_b_1 x_b_2 x_b_3 x_c_0 x_c_1 x_c_2 x_c_3 x_X_0 x_X_1 x_X_2 x_X_3 x_Y_0 x_Y_1 x_Y_2 x_Y_3
        have zbv1 := bv1.size
        replace BB := also BB bv1
        replace x_a := x_a.on bv1
        replace x_b := x_b.on bv1
        replace x_c := x_c.on bv1
        replace r11 := r11.below bv1
        replace r12 := r12.below bv1
        replace x_X := x_X.on bv1
        replace x_Y := x_Y.on bv1
        have ⟨x_a_0, x_a_1, x_a_2, x_a_3⟩ := x_a
        have ⟨x_b_0, x_b_1, x_b_2, x_b_3⟩ := x_b
        have ⟨x_c_0, x_c_1, x_c_2, x_c_3⟩ := x_c
        have ⟨x_X_0, x_X_1, x_X_2, x_X_3⟩ := x_X
        have ⟨x_Y_0, x_Y_1, x_Y_2, x_Y_3⟩ := x_Y
        go_wp2
        clear x_a_0 x_a_1 x_a_2 x_a_3 x_b_0 x_b_1 x_b_2 x_b_3 x_c_0 x_c_1 x_c_2 x_c_3 x_X_0 x_X_1 x_X_2 x_X_3 x_Y_0 x_Y_1 x_Y_2 x_Y_3
        have dd1 : Below v1.heap.size v1 v1.drew := (Below.refl _ _).drew
        have zdd1 := dd1.size
        replace BB := also BB dd1
        replace x_a := x_a.on dd1
        replace x_b := x_b.on dd1
        replace x_c := x_c.on dd1
        replace r11 := r11.below dd1
        replace r12 := r12.below dd1
        replace x_X := x_X.on dd1
        replace x_Y := x_Y.on dd1
        refine wp_region_held_drew (S := (fun w' => w'.cell? ⟨w.heap.size, 0, none⟩ = some (.int .i64 a1) ∧ w'.cell? ⟨w.heap.size, 1, none⟩ = some (.int .i64 a2) ∧ w'.cell? ⟨w.heap.size + 1, 0, none⟩ = some (.int .i64 b1) ∧ w'.cell? ⟨w.heap.size + 1, 1, none⟩ = some (.int .i64 b2) ∧ w'.cell? ⟨pmd1, 0, none⟩ = some (.int .i64 s12) ∧ w'.cell? ⟨pmd1, 1, none⟩ = some (.slice d12 l12 c12) ∧ Below w.heap.size w w')) (by kernel_rfl) ?_ (fun hHeld => ?_)
        · first | exact ⟨x_a.c0, x_a.c1, x_b.c0, x_b.c1, x_Y.c0, x_Y.c1, BB⟩ | exact ⟨cell_on bv3 hHeld.1, cell_on bv3 hHeld.2.1, cell_on bv3 hHeld.2.2.1, cell_on bv3 hHeld.2.2.2.1, cell_on bv3 hHeld.2.2.2.2.1, cell_on bv3 hHeld.2.2.2.2.2.1, also hHeld.2.2.2.2.2.2 bv3⟩ | exact ⟨cell_on bv2 hHeld.1, cell_on bv2 hHeld.2.1, cell_on bv2 hHeld.2.2.1, cell_on bv2 hHeld.2.2.2.1, cell_on bv2 hHeld.2.2.2.2.1, cell_on bv2 hHeld.2.2.2.2.2.1, also hHeld.2.2.2.2.2.2 bv2⟩
        refine take_yes (i := 0) (v := ?vqd0) rfl (by kernel_rfl) (by kernel_rfl) (by kernel_rfl) (fun _ _ _ h => h) (by rfl) (by assumption) ?hyqd0 ?restqd0
        case hyqd0 => (intro w hSw; (try dsimp only at hSw); first | (go_simp; done) | (go_simp; with_reducible rfl))
        simp only [Act.put, List.setIfInBounds_toArray, List.set_cons_zero, List.set_cons_succ]
        refine take_yes (i := 1) (v := ?vqd1) rfl (by kernel_rfl) (by kernel_rfl) (by kernel_rfl) (fun _ _ _ h => h) (by rfl) (by assumption) ?hyqd1 ?restqd1
        case hyqd1 => (intro w hSw; (try dsimp only at hSw); first | (go_simp; done) | (go_simp; with_reducible rfl))
        simp only [Act.put, List.setIfInBounds_toArray, List.set_cons_zero, List.set_cons_succ]
        refine take_yes (i := 2) (v := ?vqd2) rfl (by kernel_rfl) (by kernel_rfl) (by kernel_rfl) (fun _ _ _ h => h) (by rfl) (by assumption) ?hyqd2 ?restqd2
        case hyqd2 => (intro w hSw; (try dsimp only at hSw); first | (go_simp; done) | (go_simp; with_reducible rfl))
        simp only [Act.put, List.setIfInBounds_toArray, List.set_cons_zero, List.set_cons_succ]
        refine take_call (i := 3) rfl (by kernel_rfl) (fun Kc hK => ?_)
        go_simp
        (go_at_call 15; refine (rpDist a1 a2 b1 b2 _ ha hb HD.out).mono ?_; rintro e v2 ⟨s13, d13, l13, c13, rfl, r13, f13, bv2⟩)
        refine hK.out _ _ ?_ (fun hHeld => ?_)
        · first | exact ⟨x_a.c0, x_a.c1, x_b.c0, x_b.c1, x_Y.c0, x_Y.c1, BB⟩ | exact ⟨cell_on bv3 hHeld.1, cell_on bv3 hHeld.2.1, cell_on bv3 hHeld.2.2.1, cell_on bv3 hHeld.2.2.2.1, cell_on bv3 hHeld.2.2.2.2.1, cell_on bv3 hHeld.2.2.2.2.2.1, also hHeld.2.2.2.2.2.2 bv3⟩ | exact ⟨cell_on bv2 hHeld.1, cell_on bv2 hHeld.2.1, cell_on bv2 hHeld.2.2.1, cell_on bv2 hHeld.2.2.2.1, cell_on bv2 hHeld.2.2.2.2.1, cell_on bv2 hHeld.2.2.2.2.2.1, also hHeld.2.2.2.2.2.2 bv2⟩
        clear hK Kc
        have zbv2 := bv2.size
        replace BB := also BB bv2
        replace x_a := x_a.on bv2
        replace x_b := x_b.on bv2
        replace x_c := x_c.on bv2
        replace r11 := r11.below bv2
        replace r12 := r12.below bv2
        replace x_X := x_X.on bv2
        replace x_Y := x_Y.on bv2
        refine take_call (i := 4) rfl (by kernel_rfl) (fun Kc hK => ?_)
        go_simp
        (go_at_call 14; refine (rwCmp s12 s13 d12 d13 l12 c12 l13 c13 D D _ r12 r13 FD.out FD.out Z1.out).mono ?_; rintro e v3 ⟨rfl, bv3⟩)
        refine hK.out _ _ ?_ (fun hHeld => ?_)
        · first | exact ⟨x_a.c0, x_a.c1, x_b.c0, x_b.c1, x_Y.c0, x_Y.c1, BB⟩ | exact ⟨cell_on bv3 hHeld.1, cell_on bv3 hHeld.2.1, cell_on bv3 hHeld.2.2.1, cell_on bv3 hHeld.2.2.2.1, cell_on bv3 hHeld.2.2.2.2.1, cell_on bv3 hHeld.2.2.2.2.2.1, also hHeld.2.2.2.2.2.2 bv3⟩ | exact ⟨cell_on bv2 hHeld.1, cell_on bv2 hHeld.2.1, cell_on bv2 hHeld.2.2.1, cell_on bv2 hHeld.2.2.2.1, cell_on bv2 hHeld.2.2.2.2.1, cell_on bv2 hHeld.2.2.2.2.2.1, also hHeld.2.2.2.2.2.2 bv2⟩
        clear hK Kc
        have zbv3 := bv3.size
        replace BB := also BB bv3
        replace x_a := x_a.on bv3
        replace x_b := x_b.on bv3
        replace x_c := x_c.on bv3
        replace r11 := r11.below bv3
        replace r12 := r12.below bv3
        replace x_X := x_X.on bv3
        replace x_Y := x_Y.on bv3
        replace r13 := r13.below bv3
        refine take_yes (i := 5) (v := ?vqd5) rfl (by kernel_rfl) (by kernel_rfl) (by kernel_rfl) (fun _ _ _ h => h) (by rfl) (by assumption) ?hyqd5 ?restqd5
        case hyqd5 => (intro w hSw; (try dsimp only at hSw); first | (go_simp; done) | (go_simp; with_reducible rfl))
        simp only [Act.put, List.setIfInBounds_toArray, List.set_cons_zero, List.set_cons_succ]
        refine wpAnyH_done (by kernel_rfl) ?_ _
        have ⟨x_a_0, x_a_1, x_a_2, x_a_3⟩ := x_a
        have ⟨x_b_0, x_b_1, x_b_2, x_b_3⟩ := x_b
        have ⟨x_c_0, x_c_1, x_c_2, x_c_3⟩ := x_c
        have ⟨x_X_0, x_X_1, x_X_2, x_X_3⟩ := x_X
        have ⟨x_Y_0, x_Y_1, x_Y_2, x_Y_3⟩ := x_Y
        go_wp2_with (go_at_call 12; fail)
        refine (rlCan c1 c2 v3 (r64 Rc1.out) (r64 Rc2.out) hc.symm).mono ?_
        rintro e v4 ⟨rfl, bv4⟩
        clear x_a_0 x_a_1 x_a_2 x_a_3 x_b_0 x_b_1 x_b_2 x_b_3 x_c_0 x_c_1 x_c_2 x_c_3 x_X_0 x_X_1 x_X_2 x_X_3 x_Y_0 x_Y_1 x_Y_2 x_Y_3
        have zbv4 := bv4.size
        replace BB := also BB bv4
        replace x_a := x_a.on bv4
        replace x_b := x_b.on bv4
        replace x_c := x_c.on bv4
        replace r11 := r11.below bv4
        replace r12 := r12.below bv4
        replace x_X := x_X.on bv4
        replace x_Y := x_Y.on bv4
        replace r13 := r13.below bv4
        have ⟨x_a_0, x_a_1, x_a_2, x_a_3⟩ := x_a
        have ⟨x_b_0, x_b_1, x_b_2, x_b_3⟩ := x_b
        have ⟨x_c_0, x_c_1, x_c_2, x_c_3⟩ := x_c
        have ⟨x_X_0, x_X_1, x_X_2, x_X_3⟩ := x_X
        have ⟨x_Y_0, x_Y_1, x_Y_2, x_Y_3⟩ := x_Y
        go_wp2
        clear x_a_0 x_a_1 x_a_2 x_a_3 x_b_0 x_b_1 x_b_2 x_b_3 x_c_0 x_c_1 x_c_2 x_c_3 x_X_0 x_X_1 x_X_2 x_X_3 x_Y_0 x_Y_1 x_Y_2 x_Y_3
        have dd2 : Below v4.heap.size v4 v4.drew := (Below.refl _ _).drew
        have zdd2 := dd2.size
        replace BB := also BB dd2
        replace x_a := x_a.on dd2
        replace x_b := x_b.on dd2
        replace x_c := x_c.on dd2
        replace r11 := r11.below dd2
        replace r12 := r12.below dd2
        replace x_X := x_X.on dd2
        replace x_Y := x_Y.on dd2
        replace r13 := r13.below dd2
        refine wp_region_held_drew (S := (fun w' => w'.cell? ⟨w.heap.size, 0, none⟩ = some (.int .i64 a1) ∧ w'.cell? ⟨w.heap.size, 1, none⟩ = some (.int .i64 a2) ∧ w'.cell? ⟨w.heap.size + 1, 0, none⟩ = some (.int .i64 b1) ∧ w'.cell? ⟨w.heap.size + 1, 1, none⟩ = some (.int .i64 b2) ∧ w'.cell? ⟨w.heap.size + 1 + 1, 0, none⟩ = some (.int .i64 c1) ∧ w'.cell? ⟨w.heap.size + 1 + 1, 1, none⟩ = some (.int .i64 c2) ∧ w'.cell? ⟨pmd0, 0, none⟩ = some (.int .i64 s11) ∧ w'.cell? ⟨pmd0, 1, none⟩ = some (.slice d11 l11 c11) ∧ Below w.heap.size w w')) (by kernel_rfl) ?_ (fun hHeld => ?_)
        · first | exact ⟨x_a.c0, x_a.c1, x_b.c0, x_b.c1, x_c.c0, x_c.c1, x_X.c0, x_X.c1, BB⟩ | exact ⟨cell_on bv9 hHeld.1, cell_on bv9 hHeld.2.1, cell_on bv9 hHeld.2.2.1, cell_on bv9 hHeld.2.2.2.1, cell_on bv9 hHeld.2.2.2.2.1, cell_on bv9 hHeld.2.2.2.2.2.1, cell_on bv9 hHeld.2.2.2.2.2.2.1, cell_on bv9 hHeld.2.2.2.2.2.2.2.1, also hHeld.2.2.2.2.2.2.2.2 bv9⟩ | exact ⟨cell_on bv7 hHeld.1, cell_on bv7 hHeld.2.1, cell_on bv7 hHeld.2.2.1, cell_on bv7 hHeld.2.2.2.1, cell_on bv7 hHeld.2.2.2.2.1, cell_on bv7 hHeld.2.2.2.2.2.1, cell_on bv7 hHeld.2.2.2.2.2.2.1, cell_on bv7 hHeld.2.2.2.2.2.2.2.1, also hHeld.2.2.2.2.2.2.2.2 bv7⟩ | exact ⟨cell_on bv6 hHeld.1, cell_on bv6 hHeld.2.1, cell_on bv6 hHeld.2.2.1, cell_on bv6 hHeld.2.2.2.1, cell_on bv6 hHeld.2.2.2.2.1, cell_on bv6 hHeld.2.2.2.2.2.1, cell_on bv6 hHeld.2.2.2.2.2.2.1, cell_on bv6 hHeld.2.2.2.2.2.2.2.1, also hHeld.2.2.2.2.2.2.2.2 bv6⟩ | exact ⟨cell_on bv5 hHeld.1, cell_on bv5 hHeld.2.1, cell_on bv5 hHeld.2.2.1, cell_on bv5 hHeld.2.2.2.1, cell_on bv5 hHeld.2.2.2.2.1, cell_on bv5 hHeld.2.2.2.2.2.1, cell_on bv5 hHeld.2.2.2.2.2.2.1, cell_on bv5 hHeld.2.2.2.2.2.2.2.1, also hHeld.2.2.2.2.2.2.2.2 bv5⟩
        refine take_yes (i := 0) (v := ?vt0) rfl (by kernel_rfl) (by kernel_rfl) (by kernel_rfl) (fun _ _ _ h => h) (by rfl) (by assumption) ?hyt0 ?restt0
        case hyt0 => (intro w hSw; (try dsimp only at hSw); first | (go_simp; done) | (go_simp; with_reducible rfl))
        simp only [Act.put, List.setIfInBounds_toArray, List.set_cons_zero, List.set_cons_succ]
        refine take_yes (i := 1) (v := ?vt1) rfl (by kernel_rfl) (by kernel_rfl) (by kernel_rfl) (fun _ _ _ h => h) (by rfl) (by assumption) ?hyt1 ?restt1
        case hyt1 => (intro w hSw; (try dsimp only at hSw); first | (go_simp; done) | (go_simp; with_reducible rfl))
        simp only [Act.put, List.setIfInBounds_toArray, List.set_cons_zero, List.set_cons_succ]
        refine take_yes (i := 2) (v := ?vt2) rfl (by kernel_rfl) (by kernel_rfl) (by kernel_rfl) (fun _ _ _ h => h) (by rfl) (by assumption) ?hyt2 ?restt2
        case hyt2 => (intro w hSw; (try dsimp only at hSw); first | (go_simp; done) | (go_simp; with_reducible rfl))
        simp only [Act.put, List.setIfInBounds_toArray, List.set_cons_zero, List.set_cons_succ]
        refine take_yes (i := 3) (v := ?vt3) rfl (by kernel_rfl) (by kernel_rfl) (by kernel_rfl) (fun _ _ _ h => h) (by rfl) (by assumption) ?hyt3 ?restt3
        case hyt3 => (intro w hSw; (try dsimp only at hSw); first | (go_simp; done) | (go_simp; with_reducible rfl))
        simp only [Act.put, List.setIfInBounds_toArray, List.set_cons_zero, List.set_cons_succ]
        refine take_call (i := 4) rfl (by kernel_rfl) (fun Kc hK => ?_)
        go_simp
        (go_at_call 16; refine (rpArea a1 a2 b1 b2 c1 c2 _ ha hb hc HA.out).mono ?_; rintro e v5 ⟨s14, d14, l14, c14, rfl, r14, f14, bv5⟩)
        refine hK.out _ _ ?_ (fun hHeld => ?_)
        · first | exact ⟨x_a.c0, x_a.c1, x_b.c0, x_b.c1, x_c.c0, x_c.c1, x_X.c0, x_X.c1, BB⟩ | exact ⟨cell_on bv9 hHeld.1, cell_on bv9 hHeld.2.1, cell_on bv9 hHeld.2.2.1, cell_on bv9 hHeld.2.2.2.1, cell_on bv9 hHeld.2.2.2.2.1, cell_on bv9 hHeld.2.2.2.2.2.1, cell_on bv9 hHeld.2.2.2.2.2.2.1, cell_on bv9 hHeld.2.2.2.2.2.2.2.1, also hHeld.2.2.2.2.2.2.2.2 bv9⟩ | exact ⟨cell_on bv7 hHeld.1, cell_on bv7 hHeld.2.1, cell_on bv7 hHeld.2.2.1, cell_on bv7 hHeld.2.2.2.1, cell_on bv7 hHeld.2.2.2.2.1, cell_on bv7 hHeld.2.2.2.2.2.1, cell_on bv7 hHeld.2.2.2.2.2.2.1, cell_on bv7 hHeld.2.2.2.2.2.2.2.1, also hHeld.2.2.2.2.2.2.2.2 bv7⟩ | exact ⟨cell_on bv6 hHeld.1, cell_on bv6 hHeld.2.1, cell_on bv6 hHeld.2.2.1, cell_on bv6 hHeld.2.2.2.1, cell_on bv6 hHeld.2.2.2.2.1, cell_on bv6 hHeld.2.2.2.2.2.1, cell_on bv6 hHeld.2.2.2.2.2.2.1, cell_on bv6 hHeld.2.2.2.2.2.2.2.1, also hHeld.2.2.2.2.2.2.2.2 bv6⟩ | exact ⟨cell_on bv5 hHeld.1, cell_on bv5 hHeld.2.1, cell_on bv5 hHeld.2.2.1, cell_on bv5 hHeld.2.2.2.1, cell_on bv5 hHeld.2.2.2.2.1, cell_on bv5 hHeld.2.2.2.2.2.1, cell_on bv5 hHeld.2.2.2.2.2.2.1, cell_on bv5 hHeld.2.2.2.2.2.2.2.1, also hHeld.2.2.2.2.2.2.2.2 bv5⟩
        clear hK Kc
        have zbv5 := bv5.size
        replace BB := also BB bv5
        replace x_a := x_a.on bv5
        replace x_b := x_b.on bv5
        replace x_c := x_c.on bv5
        replace r11 := r11.below bv5
        replace r12 := r12.below bv5
        replace x_X := x_X.on bv5
        replace x_Y := x_Y.on bv5
        replace r13 := r13.below bv5
        refine take_call (i := 5) rfl (by kernel_rfl) (fun Kc hK => ?_)
        go_simp
        (go_at_call 14; refine (rwCmp s11 s14 d11 d14 l11 c11 l14 c14 A A _ r11 r14 FA.out FA.out Z2.out).mono ?_; rintro e v6 ⟨rfl, bv6⟩)
        refine hK.out _ _ ?_ (fun hHeld => ?_)
        · first | exact ⟨x_a.c0, x_a.c1, x_b.c0, x_b.c1, x_c.c0, x_c.c1, x_X.c0, x_X.c1, BB⟩ | exact ⟨cell_on bv9 hHeld.1, cell_on bv9 hHeld.2.1, cell_on bv9 hHeld.2.2.1, cell_on bv9 hHeld.2.2.2.1, cell_on bv9 hHeld.2.2.2.2.1, cell_on bv9 hHeld.2.2.2.2.2.1, cell_on bv9 hHeld.2.2.2.2.2.2.1, cell_on bv9 hHeld.2.2.2.2.2.2.2.1, also hHeld.2.2.2.2.2.2.2.2 bv9⟩ | exact ⟨cell_on bv7 hHeld.1, cell_on bv7 hHeld.2.1, cell_on bv7 hHeld.2.2.1, cell_on bv7 hHeld.2.2.2.1, cell_on bv7 hHeld.2.2.2.2.1, cell_on bv7 hHeld.2.2.2.2.2.1, cell_on bv7 hHeld.2.2.2.2.2.2.1, cell_on bv7 hHeld.2.2.2.2.2.2.2.1, also hHeld.2.2.2.2.2.2.2.2 bv7⟩ | exact ⟨cell_on bv6 hHeld.1, cell_on bv6 hHeld.2.1, cell_on bv6 hHeld.2.2.1, cell_on bv6 hHeld.2.2.2.1, cell_on bv6 hHeld.2.2.2.2.1, cell_on bv6 hHeld.2.2.2.2.2.1, cell_on bv6 hHeld.2.2.2.2.2.2.1, cell_on bv6 hHeld.2.2.2.2.2.2.2.1, also hHeld.2.2.2.2.2.2.2.2 bv6⟩ | exact ⟨cell_on bv5 hHeld.1, cell_on bv5 hHeld.2.1, cell_on bv5 hHeld.2.2.1, cell_on bv5 hHeld.2.2.2.1, cell_on bv5 hHeld.2.2.2.2.1, cell_on bv5 hHeld.2.2.2.2.2.1, cell_on bv5 hHeld.2.2.2.2.2.2.1, cell_on bv5 hHeld.2.2.2.2.2.2.2.1, also hHeld.2.2.2.2.2.2.2.2 bv5⟩
        clear hK Kc
        have zbv6 := bv6.size
        replace BB := also BB bv6
        replace x_a := x_a.on bv6
        replace x_b := x_b.on bv6
        replace x_c := x_c.on bv6
        replace r11 := r11.below bv6
        replace r12 := r12.below bv6
        replace x_X := x_X.on bv6
        replace x_Y := x_Y.on bv6
        replace r13 := r13.below bv6
        replace r14 := r14.below bv6
        refine take_yes (i := 6) (v := ?vt6) rfl (by kernel_rfl) (by kernel_rfl) (by kernel_rfl) (fun _ _ _ h => h) (by rfl) (by assumption) ?hyt6 ?restt6
        case hyt6 => (intro w hSw; (try dsimp only at hSw); first | (go_simp; done) | (go_simp; with_reducible rfl))
        simp only [Act.put, List.setIfInBounds_toArray, List.set_cons_zero, List.set_cons_succ]
        refine take_yes (i := 7) (v := ?vt7) rfl (by kernel_rfl) (by kernel_rfl) (by kernel_rfl) (fun _ _ _ h => h) (by rfl) (by assumption) ?hyt7 ?restt7
        case hyt7 => (intro w hSw; (try dsimp only at hSw); first | (go_simp; done) | (go_simp; with_reducible rfl))
        simp only [Act.put, List.setIfInBounds_toArray, List.set_cons_zero, List.set_cons_succ]
        refine take_yes (i := 8) (v := ?vt8) rfl (by kernel_rfl) (by kernel_rfl) (by kernel_rfl) (fun _ _ _ h => h) (by rfl) (by assumption) ?hyt8 ?restt8
        case hyt8 => (intro w hSw; (try dsimp only at hSw); first | (go_simp; done) | (go_simp; with_reducible rfl))
        simp only [Act.put, List.setIfInBounds_toArray, List.set_cons_zero, List.set_cons_succ]
        refine take_yes (i := 9) (v := ?vt9) rfl (by kernel_rfl) (by kernel_rfl) (by kernel_rfl) (fun _ _ _ h => h) (by rfl) (by assumption) ?hyt9 ?restt9
        case hyt9 => (intro w hSw; (try dsimp only at hSw); first | (go_simp; done) | (go_simp; with_reducible rfl))
        simp only [Act.put, List.setIfInBounds_toArray, List.set_cons_zero, List.set_cons_succ]
        refine take_yes (i := 10) (v := ?vt10) rfl (by kernel_rfl) (by kernel_rfl) (by kernel_rfl) (fun _ _ _ h => h) (by rfl) (by assumption) ?hyt10 ?restt10
        case hyt10 => (intro w hSw; (try dsimp only at hSw); first | (go_simp; done) | (go_simp; with_reducible rfl))
        simp only [Act.put, List.setIfInBounds_toArray, List.set_cons_zero, List.set_cons_succ]
        refine take_yes (i := 11) (v := ?vt11) rfl (by kernel_rfl) (by kernel_rfl) (by kernel_rfl) (fun _ _ _ h => h) (by rfl) (by assumption) ?hyt11 ?restt11
        case hyt11 => (intro w hSw; (try dsimp only at hSw); first | (go_simp; done) | (go_simp; with_reducible rfl))
        simp only [Act.put, List.setIfInBounds_toArray, List.set_cons_zero, List.set_cons_succ]
        refine take_call (i := 12) rfl (by kernel_rfl) (fun Kc hK => ?_)
        go_simp
        (go_at_call 17; refine (rpOrient a1 a2 b1 b2 c1 c2 _ ha hb hc HO.out).mono ?_; rintro e v7 ⟨rfl, bv7⟩)
        refine hK.out _ _ ?_ (fun hHeld => ?_)
        · first | exact ⟨x_a.c0, x_a.c1, x_b.c0, x_b.c1, x_c.c0, x_c.c1, x_X.c0, x_X.c1, BB⟩ | exact ⟨cell_on bv9 hHeld.1, cell_on bv9 hHeld.2.1, cell_on bv9 hHeld.2.2.1, cell_on bv9 hHeld.2.2.2.1, cell_on bv9 hHeld.2.2.2.2.1, cell_on bv9 hHeld.2.2.2.2.2.1, cell_on bv9 hHeld.2.2.2.2.2.2.1, cell_on bv9 hHeld.2.2.2.2.2.2.2.1, also hHeld.2.2.2.2.2.2.2.2 bv9⟩ | exact ⟨cell_on bv7 hHeld.1, cell_on bv7 hHeld.2.1, cell_on bv7 hHeld.2.2.1, cell_on bv7 hHeld.2.2.2.1, cell_on bv7 hHeld.2.2.2.2.1, cell_on bv7 hHeld.2.2.2.2.2.1, cell_on bv7 hHeld.2.2.2.2.2.2.1, cell_on bv7 hHeld.2.2.2.2.2.2.2.1, also hHeld.2.2.2.2.2.2.2.2 bv7⟩ | exact ⟨cell_on bv6 hHeld.1, cell_on bv6 hHeld.2.1, cell_on bv6 hHeld.2.2.1, cell_on bv6 hHeld.2.2.2.1, cell_on bv6 hHeld.2.2.2.2.1, cell_on bv6 hHeld.2.2.2.2.2.1, cell_on bv6 hHeld.2.2.2.2.2.2.1, cell_on bv6 hHeld.2.2.2.2.2.2.2.1, also hHeld.2.2.2.2.2.2.2.2 bv6⟩ | exact ⟨cell_on bv5 hHeld.1, cell_on bv5 hHeld.2.1, cell_on bv5 hHeld.2.2.1, cell_on bv5 hHeld.2.2.2.1, cell_on bv5 hHeld.2.2.2.2.1, cell_on bv5 hHeld.2.2.2.2.2.1, cell_on bv5 hHeld.2.2.2.2.2.2.1, cell_on bv5 hHeld.2.2.2.2.2.2.2.1, also hHeld.2.2.2.2.2.2.2.2 bv5⟩
        clear hK Kc
        have zbv7 := bv7.size
        replace BB := also BB bv7
        replace x_a := x_a.on bv7
        replace x_b := x_b.on bv7
        replace x_c := x_c.on bv7
        replace r11 := r11.below bv7
        replace r12 := r12.below bv7
        replace x_X := x_X.on bv7
        replace x_Y := x_Y.on bv7
        replace r13 := r13.below bv7
        replace r14 := r14.below bv7
        refine take_yes (i := 13) (v := ?vt13) rfl (by kernel_rfl) (by kernel_rfl) (by kernel_rfl) (fun _ _ _ h => h) (by rfl) (by assumption) ?hyt13 ?restt13
        case hyt13 => (intro w hSw; (try dsimp only at hSw); first | (go_simp; done) | (go_simp; with_reducible rfl))
        simp only [Act.put, List.setIfInBounds_toArray, List.set_cons_zero, List.set_cons_succ]
        refine take_yes (i := 14) (v := ?vt14) rfl (by kernel_rfl) (by kernel_rfl) (by kernel_rfl) (fun _ _ _ h => h) (by rfl) (by assumption) ?hyt14 ?restt14
        case hyt14 => (intro w hSw; (try dsimp only at hSw); first | (go_simp; done) | (go_simp; with_reducible rfl))
        simp only [Act.put, List.setIfInBounds_toArray, List.set_cons_zero, List.set_cons_succ]
        refine take_yes (i := 15) (v := ?vt15) rfl (by kernel_rfl) (by kernel_rfl) (by kernel_rfl) (fun _ _ _ h => h) (by rfl) (by assumption) ?hyt15 ?restt15
        case hyt15 => (intro w hSw; (try dsimp only at hSw); first | (go_simp; done) | (go_simp; with_reducible rfl))
        simp only [Act.put, List.setIfInBounds_toArray, List.set_cons_zero, List.set_cons_succ]
        refine take_yes (i := 16) (v := ?vt16) rfl (by kernel_rfl) (by kernel_rfl) (by kernel_rfl) (fun _ _ _ h => h) (by rfl) (by assumption) ?hyt16 ?restt16
        case hyt16 => (intro w hSw; (try dsimp only at hSw); first | (go_simp; done) | (go_simp; with_reducible rfl))
        simp only [Act.put, List.setIfInBounds_toArray, List.set_cons_zero, List.set_cons_succ]
        refine take_yes (i := 17) (v := ?vt17) rfl (by kernel_rfl) (by kernel_rfl) (by kernel_rfl) (fun _ _ _ h => h) (by rfl) (by assumption) ?hyt17 ?restt17
        case hyt17 => (intro w hSw; (try dsimp only at hSw); first | (go_simp; done) | (go_simp; with_reducible rfl))
        simp only [Act.put, List.setIfInBounds_toArray, List.set_cons_zero, List.set_cons_succ]
        refine take_yes (i := 18) (v := ?vt18) rfl (by kernel_rfl) (by kernel_rfl) (by kernel_rfl) (fun _ _ _ h => h) (by rfl) (by assumption) ?hyt18 ?restt18
        case hyt18 => (intro w hSw; (try dsimp only at hSw); first | (go_simp; done) | (go_simp; with_reducible rfl))
        simp only [Act.put, List.setIfInBounds_toArray, List.set_cons_zero, List.set_cons_succ]
        refine take_yes (i := 19) (v := ?vt19) rfl (by kernel_rfl) (by kernel_rfl) (by kernel_rfl) (fun _ _ _ h => h) (by rfl) (by assumption) ?hyt19 ?restt19
        case hyt19 => (intro w hSw; (try dsimp only at hSw); first | (go_simp; done) | (go_simp; with_reducible rfl))
        simp only [Act.put, List.setIfInBounds_toArray, List.set_cons_zero, List.set_cons_succ]
        refine take_yes (i := 20) (v := ?vt20) rfl (by kernel_rfl) (by kernel_rfl) (by kernel_rfl) (fun _ _ _ h => h) (by rfl) (by assumption) ?hyt20 ?restt20
        case hyt20 => (intro w hSw; (try dsimp only at hSw); first | (go_simp; done) | (go_simp; with_reducible rfl))
        simp only [Act.put, List.setIfInBounds_toArray, List.set_cons_zero, List.set_cons_succ]
        refine take_yes (i := 21) (v := ?vt21) rfl (by kernel_rfl) (by kernel_rfl) (by kernel_rfl) (fun _ _ _ h => h) (by rfl) (by assumption) ?hyt21 ?restt21
        case hyt21 => (intro w hSw; (try dsimp only at hSw); first | (go_simp; done) | (go_simp; with_reducible rfl))
        simp only [Act.put, List.setIfInBounds_toArray, List.set_cons_zero, List.set_cons_succ]
        refine take_call (i := 22) rfl (by kernel_rfl) (fun Kc hK => ?_)
        go_simp
        (go_at_call 13; refine (lives7_any _).mono ?_; rintro e v9 ⟨rfl, bv9⟩)
        refine hK.out _ _ ?_ (fun hHeld => ?_)
        · first | exact ⟨x_a.c0, x_a.c1, x_b.c0, x_b.c1, x_c.c0, x_c.c1, x_X.c0, x_X.c1, BB⟩ | exact ⟨cell_on bv9 hHeld.1, cell_on bv9 hHeld.2.1, cell_on bv9 hHeld.2.2.1, cell_on bv9 hHeld.2.2.2.1, cell_on bv9 hHeld.2.2.2.2.1, cell_on bv9 hHeld.2.2.2.2.2.1, cell_on bv9 hHeld.2.2.2.2.2.2.1, cell_on bv9 hHeld.2.2.2.2.2.2.2.1, also hHeld.2.2.2.2.2.2.2.2 bv9⟩ | exact ⟨cell_on bv7 hHeld.1, cell_on bv7 hHeld.2.1, cell_on bv7 hHeld.2.2.1, cell_on bv7 hHeld.2.2.2.1, cell_on bv7 hHeld.2.2.2.2.1, cell_on bv7 hHeld.2.2.2.2.2.1, cell_on bv7 hHeld.2.2.2.2.2.2.1, cell_on bv7 hHeld.2.2.2.2.2.2.2.1, also hHeld.2.2.2.2.2.2.2.2 bv7⟩ | exact ⟨cell_on bv6 hHeld.1, cell_on bv6 hHeld.2.1, cell_on bv6 hHeld.2.2.1, cell_on bv6 hHeld.2.2.2.1, cell_on bv6 hHeld.2.2.2.2.1, cell_on bv6 hHeld.2.2.2.2.2.1, cell_on bv6 hHeld.2.2.2.2.2.2.1, cell_on bv6 hHeld.2.2.2.2.2.2.2.1, also hHeld.2.2.2.2.2.2.2.2 bv6⟩ | exact ⟨cell_on bv5 hHeld.1, cell_on bv5 hHeld.2.1, cell_on bv5 hHeld.2.2.1, cell_on bv5 hHeld.2.2.2.1, cell_on bv5 hHeld.2.2.2.2.1, cell_on bv5 hHeld.2.2.2.2.2.1, cell_on bv5 hHeld.2.2.2.2.2.2.1, cell_on bv5 hHeld.2.2.2.2.2.2.2.1, also hHeld.2.2.2.2.2.2.2.2 bv5⟩
        clear hK Kc
        have zbv9 := bv9.size
        replace BB := also BB bv9
        replace x_a := x_a.on bv9
        replace x_b := x_b.on bv9
        replace x_c := x_c.on bv9
        replace r11 := r11.below bv9
        replace r12 := r12.below bv9
        replace x_X := x_X.on bv9
        replace x_Y := x_Y.on bv9
        replace r13 := r13.below bv9
        replace r14 := r14.below bv9
        refine take_yes (i := 23) (v := ?vt23) rfl (by kernel_rfl) (by kernel_rfl) (by kernel_rfl) (fun _ _ _ h => h) (by rfl) (by assumption) ?hyt23 ?restt23
        case hyt23 => (intro w hSw; (try dsimp only at hSw); first | (go_simp; done) | (go_simp; with_reducible rfl))
        simp only [Act.put, List.setIfInBounds_toArray, List.set_cons_zero, List.set_cons_succ]
        refine take_yes (i := 24) (v := ?vt24) rfl (by kernel_rfl) (by kernel_rfl) (by kernel_rfl) (fun _ _ _ h => h) (by rfl) (by assumption) ?hyt24 ?restt24
        case hyt24 => (intro w hSw; (try dsimp only at hSw); first | (go_simp; done) | (go_simp; with_reducible rfl))
        simp only [Act.put, List.setIfInBounds_toArray, List.set_cons_zero, List.set_cons_succ]
        refine wpAnyH_done (by kernel_rfl) ?_ _
        go_wp2
        go_ret
        exact ⟨rfl, BB⟩
theorem own : ownKnob Try.prog.godebug = none := by kernel_rfl
theorem cells_pt : Try.prog.cellsOf 23 = 2 := by kernel_rfl
theorem reads_pt {H : Type} (enc : TypeId × Value → H) (W : World) (bs : Nat) (sp : Nat → Bool) (hd : Bool) {a b : Int} (wa : (Lit.int .i64 a).wf = true) (wb : (Lit.int .i64 b).wf = true) : DataW.Trod enc Try.prog W bs sp hd 23 (.agg #[.int .i64 a, .int .i64 b]) (.agg [.lit (.int .i64 a), .lit (.int .i64 b)]) [] :=
  shut_agg2 (y0 := (.lit (.int .i64 a), [])) (y1 := (.lit (.int .i64 b), [])) Try.underlying23 (by kernel_rfl) cells_pt ⟨1, by simp [DataW.trod, Try.underlying2, wa]⟩ ⟨1, by simp [DataW.trod, Try.underlying2, wb]⟩
set_option maxRecDepth 100000 in
theorem lifted (os : Os) (started : os.Started) (H : Type) (enc : TypeId × Value → H) :
    ReturnsInHanded {} Try.checked os 3 .any (Rows.predAreasSpec.pre6 enc Try.prog Try.f3 Rows.predAreasRow.domain false) (Rows.predAreasSpec.post enc Try.prog Try.f3 false true false false) := by
  refine returnsInHanded_of_change (C := Try.checked) own started (by kernel_rfl) Try.func3
    (ChangeSpec.witness6 (enc := enc) (C := Try.checked) false ⟨#[], #[.agg #[.int .i64 0, .int .i64 0], .agg #[.int .i64 0, .int .i64 0], .agg #[.int .i64 0, .int .i64 0]], []⟩ 8 (by kernel_rfl) (by kernel_rfl) (by kernel_rfl) (by kernel_rfl)) ?_
  intro W base args ds gs before hval0 hW hcnd _
  have hval : ∀ (j : Nat) t v, Try.f3.params[j]? = some t → args[j]? = some v → Value.okWide Try.prog W .any base t v := hval0
  have hW' := hW
  obtain ⟨p, q, hA0, hV, rfl, hfz, hnd⟩ := hW
  have hA : DataW.TrodAll enc Try.prog W 0 (fun _ => true) true Try.f3.params.toList args.toList ds p := hA0
  rw [Try.params3] at hA hval
  obtain ⟨v0, vs0, d0, ds0, p0, q0, hargs, rfl, rfl, h0, r0⟩ := trodAll_cons hA
  obtain ⟨v1, vs1, d1, ds1, p1, q1, rfl, rfl, rfl, h1, r1⟩ := trodAll_cons r0
  obtain ⟨v2, vs2, d2, ds2, p2, q2, rfl, rfl, rfl, h2, r2⟩ := trodAll_cons r1
  obtain ⟨rfl, rfl, rfl⟩ := trodAll_nil r2
  obtain rfl : args = #[v0, v1, v2] := by cases args; simp_all
  obtain ⟨rfl, rfl⟩ := trodVars_none hV
  obtain ⟨x0, y0, g0, k0, m0, rfl, rfl, rfl, hx0, hy0⟩ := open_agg2 Try.underlying23 (by kernel_rfl) cells_pt (hval 0 23 v0 rfl rfl) h0
  obtain ⟨a0, ex0, rfl, wa0⟩ := DataW.trod_int Try.underlying2 hx0
  obtain ⟨b0, ey0, rfl, wb0⟩ := DataW.trod_int Try.underlying2 hy0
  simp at ex0 ey0
  subst ex0 ey0
  obtain ⟨x1, y1, g1, k1, m1, rfl, rfl, rfl, hx1, hy1⟩ := open_agg2 Try.underlying23 (by kernel_rfl) cells_pt (hval 1 23 v1 rfl rfl) h1
  obtain ⟨a1, ex1, rfl, wa1⟩ := DataW.trod_int Try.underlying2 hx1
  obtain ⟨b1, ey1, rfl, wb1⟩ := DataW.trod_int Try.underlying2 hy1
  simp at ex1 ey1
  subst ex1 ey1
  obtain ⟨x2, y2, g2, k2, m2, rfl, rfl, rfl, hx2, hy2⟩ := open_agg2 Try.underlying23 (by kernel_rfl) cells_pt (hval 2 23 v2 rfl rfl) h2
  obtain ⟨a2, ex2, rfl, wa2⟩ := DataW.trod_int Try.underlying2 hx2
  obtain ⟨b2, ey2, rfl, wb2⟩ := DataW.trod_int Try.underlying2 hy2
  simp at ex2 ey2
  subst ex2 ey2
  clear hA0 hval0
  have hwalk := walk a0 b0 (bd_i64 wa0).1 (bd_i64 wa0).2 (bd_i64 wb0).1 (bd_i64 wb0).2 a1 b1 (bd_i64 wa1).1 (bd_i64 wa1).2 (bd_i64 wb1).1 (bd_i64 wb1).2 a2 b2 (bd_i64 wa2).1 (bd_i64 wa2).2 (bd_i64 wb2).1 (bd_i64 wb2).2 W
  refine hwalk.mono fun e W' ⟨he, bel⟩ => ?_
  subst he
  exact ⟨_, rfl, _, _, _, [], _, [], hW', trodAll_mk1 (shut_bool Try.underlying4 _), (trodAll_cons_mk (reads_pt enc _ _ _ _ wa0 wb0) (trodAll_cons_mk (reads_pt enc _ _ _ _ wa1 wb1) (trodAll_cons_mk (reads_pt enc _ _ _ _ wa2 wb2) trodAll_mk0))), rfl, bel.frame _, fun h => by cases h⟩

/-- The statement. -/
theorem proved : Rows.PredAreasSaid :=
  OpenClaim.holds_of_wide 3 Try.f3 rfl rfl rfl rfl rfl rfl rfl ⟨rfl, rfl, rfl, rfl, rfl⟩ rfl rfl rfl rfl rfl (by kernel_rfl) Try.func3 (by kernel_rfl)
    (of_decide_eq_true (by kernel_rfl)) (by unfold Func.isWrapper; first | (rw [if_pos (by decide +kernel)]; kernel_rfl) | (rw [if_neg (by decide +kernel)]; exact ⟨rfl, rfl⟩))
    (fun os started H enc _ => lifted os started H enc)
#print axioms proved
end pareas
end Go.Proofs.Ytlelbhiebmdnoaa
