/-
  Joined texts, part 12:
  What zelligeref07's InCircle answers, where a point is not near.
-/
import Derived.Test.YtkmgndaholglhaaP11
namespace Go.Proofs.Ytkmgndaholglhaa
open Go.RowKit
set_option linter.unusedVariables false

def SpR2 (e1 e2 e3 e4 e5 e6 : Int) : Nat → Value → (World → Prop) → (Nat → Prop) → Prop
 | 0 => RNIs e1
 | 1 => RNIs e2
 | 2 => RNIs e3
 | 3 => RNIs e4
 | 4 => RNIs e5
 | 5 => RNIs e6
 | _ => ValIs undef
theorem SpR2_good (e1 e2 e3 e4 e5 e6 : Int) : GoodSp (SpR2 e1 e2 e3 e4 e5 e6) := fun j x R A h => match j with
 | 0 => rnIs_good h
 | 1 => rnIs_good h
 | 2 => rnIs_good h
 | 3 => rnIs_good h
 | 4 => rnIs_good h
 | 5 => rnIs_good h
 | k + 6 => valIs_good h
def SpR2Z : Nat → List Value
 | 0 => [.int .i64 0, .slice none 0 0]
 | 1 => [.int .i64 0, .slice none 0 0]
 | 2 => [.int .i64 0, .slice none 0 0]
 | 3 => [.int .i64 0, .slice none 0 0]
 | 4 => [.int .i64 0, .slice none 0 0]
 | 5 => [.int .i64 0, .slice none 0 0]
 | _ => []
theorem fuel_SpR2_b0 {bD eD : Nat → Bool} {f : Nat} (hf : f = 6 + (nb (bD 0) + nb (bD 1) + nb (bD 2) + nb (bD 3) + nb (bD 4) + nb (bD 5) + nb (eD 0) + nb (eD 1) + nb (eD 2) + nb (eD 3) + nb (eD 4) + nb (eD 5))) (h : bD 0 = false) : f - 1 = 6 + (nb (upd bD 0 true 0) + nb (upd bD 0 true 1) + nb (upd bD 0 true 2) + nb (upd bD 0 true 3) + nb (upd bD 0 true 4) + nb (upd bD 0 true 5) + nb (eD 0) + nb (eD 1) + nb (eD 2) + nb (eD 3) + nb (eD 4) + nb (eD 5)) := by
 have h1 : nb (bD 0) = 1 := by rw [h]; rfl
 have h2 : nb (upd bD 0 true 0) = 0 := rfl
 have q1 : nb (upd bD 0 true 1) = nb (bD 1) := rfl
 have q2 : nb (upd bD 0 true 2) = nb (bD 2) := rfl
 have q3 : nb (upd bD 0 true 3) = nb (bD 3) := rfl
 have q4 : nb (upd bD 0 true 4) = nb (bD 4) := rfl
 have q5 : nb (upd bD 0 true 5) = nb (bD 5) := rfl
 omega
theorem fuel_SpR2_b1 {bD eD : Nat → Bool} {f : Nat} (hf : f = 6 + (nb (bD 0) + nb (bD 1) + nb (bD 2) + nb (bD 3) + nb (bD 4) + nb (bD 5) + nb (eD 0) + nb (eD 1) + nb (eD 2) + nb (eD 3) + nb (eD 4) + nb (eD 5))) (h : bD 1 = false) : f - 1 = 6 + (nb (upd bD 1 true 0) + nb (upd bD 1 true 1) + nb (upd bD 1 true 2) + nb (upd bD 1 true 3) + nb (upd bD 1 true 4) + nb (upd bD 1 true 5) + nb (eD 0) + nb (eD 1) + nb (eD 2) + nb (eD 3) + nb (eD 4) + nb (eD 5)) := by
 have h1 : nb (bD 1) = 1 := by rw [h]; rfl
 have h2 : nb (upd bD 1 true 1) = 0 := rfl
 have q0 : nb (upd bD 1 true 0) = nb (bD 0) := rfl
 have q2 : nb (upd bD 1 true 2) = nb (bD 2) := rfl
 have q3 : nb (upd bD 1 true 3) = nb (bD 3) := rfl
 have q4 : nb (upd bD 1 true 4) = nb (bD 4) := rfl
 have q5 : nb (upd bD 1 true 5) = nb (bD 5) := rfl
 omega
theorem fuel_SpR2_b2 {bD eD : Nat → Bool} {f : Nat} (hf : f = 6 + (nb (bD 0) + nb (bD 1) + nb (bD 2) + nb (bD 3) + nb (bD 4) + nb (bD 5) + nb (eD 0) + nb (eD 1) + nb (eD 2) + nb (eD 3) + nb (eD 4) + nb (eD 5))) (h : bD 2 = false) : f - 1 = 6 + (nb (upd bD 2 true 0) + nb (upd bD 2 true 1) + nb (upd bD 2 true 2) + nb (upd bD 2 true 3) + nb (upd bD 2 true 4) + nb (upd bD 2 true 5) + nb (eD 0) + nb (eD 1) + nb (eD 2) + nb (eD 3) + nb (eD 4) + nb (eD 5)) := by
 have h1 : nb (bD 2) = 1 := by rw [h]; rfl
 have h2 : nb (upd bD 2 true 2) = 0 := rfl
 have q0 : nb (upd bD 2 true 0) = nb (bD 0) := rfl
 have q1 : nb (upd bD 2 true 1) = nb (bD 1) := rfl
 have q3 : nb (upd bD 2 true 3) = nb (bD 3) := rfl
 have q4 : nb (upd bD 2 true 4) = nb (bD 4) := rfl
 have q5 : nb (upd bD 2 true 5) = nb (bD 5) := rfl
 omega
theorem fuel_SpR2_b3 {bD eD : Nat → Bool} {f : Nat} (hf : f = 6 + (nb (bD 0) + nb (bD 1) + nb (bD 2) + nb (bD 3) + nb (bD 4) + nb (bD 5) + nb (eD 0) + nb (eD 1) + nb (eD 2) + nb (eD 3) + nb (eD 4) + nb (eD 5))) (h : bD 3 = false) : f - 1 = 6 + (nb (upd bD 3 true 0) + nb (upd bD 3 true 1) + nb (upd bD 3 true 2) + nb (upd bD 3 true 3) + nb (upd bD 3 true 4) + nb (upd bD 3 true 5) + nb (eD 0) + nb (eD 1) + nb (eD 2) + nb (eD 3) + nb (eD 4) + nb (eD 5)) := by
 have h1 : nb (bD 3) = 1 := by rw [h]; rfl
 have h2 : nb (upd bD 3 true 3) = 0 := rfl
 have q0 : nb (upd bD 3 true 0) = nb (bD 0) := rfl
 have q1 : nb (upd bD 3 true 1) = nb (bD 1) := rfl
 have q2 : nb (upd bD 3 true 2) = nb (bD 2) := rfl
 have q4 : nb (upd bD 3 true 4) = nb (bD 4) := rfl
 have q5 : nb (upd bD 3 true 5) = nb (bD 5) := rfl
 omega
theorem fuel_SpR2_b4 {bD eD : Nat → Bool} {f : Nat} (hf : f = 6 + (nb (bD 0) + nb (bD 1) + nb (bD 2) + nb (bD 3) + nb (bD 4) + nb (bD 5) + nb (eD 0) + nb (eD 1) + nb (eD 2) + nb (eD 3) + nb (eD 4) + nb (eD 5))) (h : bD 4 = false) : f - 1 = 6 + (nb (upd bD 4 true 0) + nb (upd bD 4 true 1) + nb (upd bD 4 true 2) + nb (upd bD 4 true 3) + nb (upd bD 4 true 4) + nb (upd bD 4 true 5) + nb (eD 0) + nb (eD 1) + nb (eD 2) + nb (eD 3) + nb (eD 4) + nb (eD 5)) := by
 have h1 : nb (bD 4) = 1 := by rw [h]; rfl
 have h2 : nb (upd bD 4 true 4) = 0 := rfl
 have q0 : nb (upd bD 4 true 0) = nb (bD 0) := rfl
 have q1 : nb (upd bD 4 true 1) = nb (bD 1) := rfl
 have q2 : nb (upd bD 4 true 2) = nb (bD 2) := rfl
 have q3 : nb (upd bD 4 true 3) = nb (bD 3) := rfl
 have q5 : nb (upd bD 4 true 5) = nb (bD 5) := rfl
 omega
theorem fuel_SpR2_b5 {bD eD : Nat → Bool} {f : Nat} (hf : f = 6 + (nb (bD 0) + nb (bD 1) + nb (bD 2) + nb (bD 3) + nb (bD 4) + nb (bD 5) + nb (eD 0) + nb (eD 1) + nb (eD 2) + nb (eD 3) + nb (eD 4) + nb (eD 5))) (h : bD 5 = false) : f - 1 = 6 + (nb (upd bD 5 true 0) + nb (upd bD 5 true 1) + nb (upd bD 5 true 2) + nb (upd bD 5 true 3) + nb (upd bD 5 true 4) + nb (upd bD 5 true 5) + nb (eD 0) + nb (eD 1) + nb (eD 2) + nb (eD 3) + nb (eD 4) + nb (eD 5)) := by
 have h1 : nb (bD 5) = 1 := by rw [h]; rfl
 have h2 : nb (upd bD 5 true 5) = 0 := rfl
 have q0 : nb (upd bD 5 true 0) = nb (bD 0) := rfl
 have q1 : nb (upd bD 5 true 1) = nb (bD 1) := rfl
 have q2 : nb (upd bD 5 true 2) = nb (bD 2) := rfl
 have q3 : nb (upd bD 5 true 3) = nb (bD 3) := rfl
 have q4 : nb (upd bD 5 true 4) = nb (bD 4) := rfl
 omega
theorem fuel_SpR2_e0 {bD eD : Nat → Bool} {f : Nat} (hf : f = 6 + (nb (bD 0) + nb (bD 1) + nb (bD 2) + nb (bD 3) + nb (bD 4) + nb (bD 5) + nb (eD 0) + nb (eD 1) + nb (eD 2) + nb (eD 3) + nb (eD 4) + nb (eD 5))) (h : eD 0 = false) : f - 1 = 6 + (nb (bD 0) + nb (bD 1) + nb (bD 2) + nb (bD 3) + nb (bD 4) + nb (bD 5) + nb (upd eD 0 true 0) + nb (upd eD 0 true 1) + nb (upd eD 0 true 2) + nb (upd eD 0 true 3) + nb (upd eD 0 true 4) + nb (upd eD 0 true 5)) := by
 have h1 : nb (eD 0) = 1 := by rw [h]; rfl
 have h2 : nb (upd eD 0 true 0) = 0 := rfl
 have q1 : nb (upd eD 0 true 1) = nb (eD 1) := rfl
 have q2 : nb (upd eD 0 true 2) = nb (eD 2) := rfl
 have q3 : nb (upd eD 0 true 3) = nb (eD 3) := rfl
 have q4 : nb (upd eD 0 true 4) = nb (eD 4) := rfl
 have q5 : nb (upd eD 0 true 5) = nb (eD 5) := rfl
 omega
theorem fuel_SpR2_e1 {bD eD : Nat → Bool} {f : Nat} (hf : f = 6 + (nb (bD 0) + nb (bD 1) + nb (bD 2) + nb (bD 3) + nb (bD 4) + nb (bD 5) + nb (eD 0) + nb (eD 1) + nb (eD 2) + nb (eD 3) + nb (eD 4) + nb (eD 5))) (h : eD 1 = false) : f - 1 = 6 + (nb (bD 0) + nb (bD 1) + nb (bD 2) + nb (bD 3) + nb (bD 4) + nb (bD 5) + nb (upd eD 1 true 0) + nb (upd eD 1 true 1) + nb (upd eD 1 true 2) + nb (upd eD 1 true 3) + nb (upd eD 1 true 4) + nb (upd eD 1 true 5)) := by
 have h1 : nb (eD 1) = 1 := by rw [h]; rfl
 have h2 : nb (upd eD 1 true 1) = 0 := rfl
 have q0 : nb (upd eD 1 true 0) = nb (eD 0) := rfl
 have q2 : nb (upd eD 1 true 2) = nb (eD 2) := rfl
 have q3 : nb (upd eD 1 true 3) = nb (eD 3) := rfl
 have q4 : nb (upd eD 1 true 4) = nb (eD 4) := rfl
 have q5 : nb (upd eD 1 true 5) = nb (eD 5) := rfl
 omega
theorem fuel_SpR2_e2 {bD eD : Nat → Bool} {f : Nat} (hf : f = 6 + (nb (bD 0) + nb (bD 1) + nb (bD 2) + nb (bD 3) + nb (bD 4) + nb (bD 5) + nb (eD 0) + nb (eD 1) + nb (eD 2) + nb (eD 3) + nb (eD 4) + nb (eD 5))) (h : eD 2 = false) : f - 1 = 6 + (nb (bD 0) + nb (bD 1) + nb (bD 2) + nb (bD 3) + nb (bD 4) + nb (bD 5) + nb (upd eD 2 true 0) + nb (upd eD 2 true 1) + nb (upd eD 2 true 2) + nb (upd eD 2 true 3) + nb (upd eD 2 true 4) + nb (upd eD 2 true 5)) := by
 have h1 : nb (eD 2) = 1 := by rw [h]; rfl
 have h2 : nb (upd eD 2 true 2) = 0 := rfl
 have q0 : nb (upd eD 2 true 0) = nb (eD 0) := rfl
 have q1 : nb (upd eD 2 true 1) = nb (eD 1) := rfl
 have q3 : nb (upd eD 2 true 3) = nb (eD 3) := rfl
 have q4 : nb (upd eD 2 true 4) = nb (eD 4) := rfl
 have q5 : nb (upd eD 2 true 5) = nb (eD 5) := rfl
 omega
theorem fuel_SpR2_e3 {bD eD : Nat → Bool} {f : Nat} (hf : f = 6 + (nb (bD 0) + nb (bD 1) + nb (bD 2) + nb (bD 3) + nb (bD 4) + nb (bD 5) + nb (eD 0) + nb (eD 1) + nb (eD 2) + nb (eD 3) + nb (eD 4) + nb (eD 5))) (h : eD 3 = false) : f - 1 = 6 + (nb (bD 0) + nb (bD 1) + nb (bD 2) + nb (bD 3) + nb (bD 4) + nb (bD 5) + nb (upd eD 3 true 0) + nb (upd eD 3 true 1) + nb (upd eD 3 true 2) + nb (upd eD 3 true 3) + nb (upd eD 3 true 4) + nb (upd eD 3 true 5)) := by
 have h1 : nb (eD 3) = 1 := by rw [h]; rfl
 have h2 : nb (upd eD 3 true 3) = 0 := rfl
 have q0 : nb (upd eD 3 true 0) = nb (eD 0) := rfl
 have q1 : nb (upd eD 3 true 1) = nb (eD 1) := rfl
 have q2 : nb (upd eD 3 true 2) = nb (eD 2) := rfl
 have q4 : nb (upd eD 3 true 4) = nb (eD 4) := rfl
 have q5 : nb (upd eD 3 true 5) = nb (eD 5) := rfl
 omega
theorem fuel_SpR2_e4 {bD eD : Nat → Bool} {f : Nat} (hf : f = 6 + (nb (bD 0) + nb (bD 1) + nb (bD 2) + nb (bD 3) + nb (bD 4) + nb (bD 5) + nb (eD 0) + nb (eD 1) + nb (eD 2) + nb (eD 3) + nb (eD 4) + nb (eD 5))) (h : eD 4 = false) : f - 1 = 6 + (nb (bD 0) + nb (bD 1) + nb (bD 2) + nb (bD 3) + nb (bD 4) + nb (bD 5) + nb (upd eD 4 true 0) + nb (upd eD 4 true 1) + nb (upd eD 4 true 2) + nb (upd eD 4 true 3) + nb (upd eD 4 true 4) + nb (upd eD 4 true 5)) := by
 have h1 : nb (eD 4) = 1 := by rw [h]; rfl
 have h2 : nb (upd eD 4 true 4) = 0 := rfl
 have q0 : nb (upd eD 4 true 0) = nb (eD 0) := rfl
 have q1 : nb (upd eD 4 true 1) = nb (eD 1) := rfl
 have q2 : nb (upd eD 4 true 2) = nb (eD 2) := rfl
 have q3 : nb (upd eD 4 true 3) = nb (eD 3) := rfl
 have q5 : nb (upd eD 4 true 5) = nb (eD 5) := rfl
 omega
theorem fuel_SpR2_e5 {bD eD : Nat → Bool} {f : Nat} (hf : f = 6 + (nb (bD 0) + nb (bD 1) + nb (bD 2) + nb (bD 3) + nb (bD 4) + nb (bD 5) + nb (eD 0) + nb (eD 1) + nb (eD 2) + nb (eD 3) + nb (eD 4) + nb (eD 5))) (h : eD 5 = false) : f - 1 = 6 + (nb (bD 0) + nb (bD 1) + nb (bD 2) + nb (bD 3) + nb (bD 4) + nb (bD 5) + nb (upd eD 5 true 0) + nb (upd eD 5 true 1) + nb (upd eD 5 true 2) + nb (upd eD 5 true 3) + nb (upd eD 5 true 4) + nb (upd eD 5 true 5)) := by
 have h1 : nb (eD 5) = 1 := by rw [h]; rfl
 have h2 : nb (upd eD 5 true 5) = 0 := rfl
 have q0 : nb (upd eD 5 true 0) = nb (eD 0) := rfl
 have q1 : nb (upd eD 5 true 1) = nb (eD 1) := rfl
 have q2 : nb (upd eD 5 true 2) = nb (eD 2) := rfl
 have q3 : nb (upd eD 5 true 3) = nb (eD 3) := rfl
 have q4 : nb (upd eD 5 true 4) = nb (eD 4) := rfl
 omega
def SpS2 (C1 D1 M1 X1 Y1 : Int) : Nat → Value → (World → Prop) → (Nat → Prop) → Prop
 | 0 => RNIs D1
 | 1 => RNIs X1
 | 2 => RNIs Y1
 | 3 => RNIs C1
 | 4 => RNIs M1
 | _ => ValIs undef
theorem SpS2_good (C1 D1 M1 X1 Y1 : Int) : GoodSp (SpS2 C1 D1 M1 X1 Y1) := fun j x R A h => match j with
 | 0 => rnIs_good h
 | 1 => rnIs_good h
 | 2 => rnIs_good h
 | 3 => rnIs_good h
 | 4 => rnIs_good h
 | k + 5 => valIs_good h
def SpS2Z : Nat → List Value
 | 0 => [.int .i64 0, .slice none 0 0]
 | _ => []
theorem fuel_SpS2_b0 {bD eD : Nat → Bool} {f : Nat} (hf : f = 1 + (nb (bD 0) + nb (bD 1) + nb (bD 2) + nb (bD 3) + nb (bD 4) + nb (eD 0))) (h : bD 0 = false) : f - 1 = 1 + (nb (upd bD 0 true 0) + nb (upd bD 0 true 1) + nb (upd bD 0 true 2) + nb (upd bD 0 true 3) + nb (upd bD 0 true 4) + nb (eD 0)) := by
 have h1 : nb (bD 0) = 1 := by rw [h]; rfl
 have h2 : nb (upd bD 0 true 0) = 0 := rfl
 have q1 : nb (upd bD 0 true 1) = nb (bD 1) := rfl
 have q2 : nb (upd bD 0 true 2) = nb (bD 2) := rfl
 have q3 : nb (upd bD 0 true 3) = nb (bD 3) := rfl
 have q4 : nb (upd bD 0 true 4) = nb (bD 4) := rfl
 omega
theorem fuel_SpS2_b1 {bD eD : Nat → Bool} {f : Nat} (hf : f = 1 + (nb (bD 0) + nb (bD 1) + nb (bD 2) + nb (bD 3) + nb (bD 4) + nb (eD 0))) (h : bD 1 = false) : f - 1 = 1 + (nb (upd bD 1 true 0) + nb (upd bD 1 true 1) + nb (upd bD 1 true 2) + nb (upd bD 1 true 3) + nb (upd bD 1 true 4) + nb (eD 0)) := by
 have h1 : nb (bD 1) = 1 := by rw [h]; rfl
 have h2 : nb (upd bD 1 true 1) = 0 := rfl
 have q0 : nb (upd bD 1 true 0) = nb (bD 0) := rfl
 have q2 : nb (upd bD 1 true 2) = nb (bD 2) := rfl
 have q3 : nb (upd bD 1 true 3) = nb (bD 3) := rfl
 have q4 : nb (upd bD 1 true 4) = nb (bD 4) := rfl
 omega
theorem fuel_SpS2_b2 {bD eD : Nat → Bool} {f : Nat} (hf : f = 1 + (nb (bD 0) + nb (bD 1) + nb (bD 2) + nb (bD 3) + nb (bD 4) + nb (eD 0))) (h : bD 2 = false) : f - 1 = 1 + (nb (upd bD 2 true 0) + nb (upd bD 2 true 1) + nb (upd bD 2 true 2) + nb (upd bD 2 true 3) + nb (upd bD 2 true 4) + nb (eD 0)) := by
 have h1 : nb (bD 2) = 1 := by rw [h]; rfl
 have h2 : nb (upd bD 2 true 2) = 0 := rfl
 have q0 : nb (upd bD 2 true 0) = nb (bD 0) := rfl
 have q1 : nb (upd bD 2 true 1) = nb (bD 1) := rfl
 have q3 : nb (upd bD 2 true 3) = nb (bD 3) := rfl
 have q4 : nb (upd bD 2 true 4) = nb (bD 4) := rfl
 omega
theorem fuel_SpS2_b3 {bD eD : Nat → Bool} {f : Nat} (hf : f = 1 + (nb (bD 0) + nb (bD 1) + nb (bD 2) + nb (bD 3) + nb (bD 4) + nb (eD 0))) (h : bD 3 = false) : f - 1 = 1 + (nb (upd bD 3 true 0) + nb (upd bD 3 true 1) + nb (upd bD 3 true 2) + nb (upd bD 3 true 3) + nb (upd bD 3 true 4) + nb (eD 0)) := by
 have h1 : nb (bD 3) = 1 := by rw [h]; rfl
 have h2 : nb (upd bD 3 true 3) = 0 := rfl
 have q0 : nb (upd bD 3 true 0) = nb (bD 0) := rfl
 have q1 : nb (upd bD 3 true 1) = nb (bD 1) := rfl
 have q2 : nb (upd bD 3 true 2) = nb (bD 2) := rfl
 have q4 : nb (upd bD 3 true 4) = nb (bD 4) := rfl
 omega
theorem fuel_SpS2_b4 {bD eD : Nat → Bool} {f : Nat} (hf : f = 1 + (nb (bD 0) + nb (bD 1) + nb (bD 2) + nb (bD 3) + nb (bD 4) + nb (eD 0))) (h : bD 4 = false) : f - 1 = 1 + (nb (upd bD 4 true 0) + nb (upd bD 4 true 1) + nb (upd bD 4 true 2) + nb (upd bD 4 true 3) + nb (upd bD 4 true 4) + nb (eD 0)) := by
 have h1 : nb (bD 4) = 1 := by rw [h]; rfl
 have h2 : nb (upd bD 4 true 4) = 0 := rfl
 have q0 : nb (upd bD 4 true 0) = nb (bD 0) := rfl
 have q1 : nb (upd bD 4 true 1) = nb (bD 1) := rfl
 have q2 : nb (upd bD 4 true 2) = nb (bD 2) := rfl
 have q3 : nb (upd bD 4 true 3) = nb (bD 3) := rfl
 omega
theorem fuel_SpS2_e0 {bD eD : Nat → Bool} {f : Nat} (hf : f = 1 + (nb (bD 0) + nb (bD 1) + nb (bD 2) + nb (bD 3) + nb (bD 4) + nb (eD 0))) (h : eD 0 = false) : f - 1 = 1 + (nb (bD 0) + nb (bD 1) + nb (bD 2) + nb (bD 3) + nb (bD 4) + nb (upd eD 0 true 0)) := by
 have h1 : nb (eD 0) = 1 := by rw [h]; rfl
 have h2 : nb (upd eD 0 true 0) = 0 := rfl
 omega
set_option maxRecDepth 100000 in
set_option maxHeartbeats 20000000 in
theorem rpCircle2 (a1 a2 b1 b2 c1 c2 d1 d2 : Int) (w : World) (ha : canC a1 a2 = true) (hb : canC b1 b2 = true) (hc : canC c1 c2 = true) (hd : canC d1 d2 = true) (ka : nearP a1 a2 d1 d2 = true) (kb : nearP b1 b2 d1 d2 = true) (kc : nearP c1 c2 d1 d2 = false) {g : Int} (hg : g = (detP a1 a2 b1 b2 c1 c2 d1 d2).sign) :
  Calls Try.prog 22 #[.agg #[.int .i64 a1, .int .i64 a2], .agg #[.int .i64 b1, .int .i64 b2], .agg #[.int .i64 c1, .int .i64 c2], .agg #[.int .i64 d1, .int .i64 d2]] w fun e w' => e = .returned (.int .i64 g) ∧ Below w.heap.size w w' := by
 have Ra1 : Hid _ := in_64 (canC_true.1 ha).1
 have Ra2 : Hid _ := in_64 (canC_true.1 ha).2
 have Rb1 : Hid _ := in_64 (canC_true.1 hb).1
 have Rb2 : Hid _ := in_64 (canC_true.1 hb).2
 have Rc1 : Hid _ := in_64 (canC_true.1 hc).1
 have Rc2 : Hid _ := in_64 (canC_true.1 hc).2
 have Rd1 : Hid _ := in_64 (canC_true.1 hd).1
 have Rd2 : Hid _ := in_64 (canC_true.1 hd).2
 have qe1 := can_diff (canC_true.1 ha).1 (canC_true.1 hd).1
 have qe2 := can_diff (canC_true.1 ha).2 (canC_true.1 hd).2
 have qe3 := can_diff (canC_true.1 hb).1 (canC_true.1 hd).1
 have qe4 := can_diff (canC_true.1 hb).2 (canC_true.1 hd).2
 have qe5 := can_diff (canC_true.1 hc).1 (canC_true.1 hd).1
 have qe6 := can_diff (canC_true.1 hc).2 (canC_true.1 hd).2
 have qD1 := dist_abs (can_diff (canC_true.1 hd).1 (canC_true.1 ha).1) (can_diff (canC_true.1 hd).2 (canC_true.1 ha).2)
 have qD2 := dist_abs (can_diff (canC_true.1 hd).1 (canC_true.1 hb).1) (can_diff (canC_true.1 hd).2 (canC_true.1 hb).2)
 have qD3 := dist_abs (can_diff (canC_true.1 hd).1 (canC_true.1 hc).1) (can_diff (canC_true.1 hd).2 (canC_true.1 hc).2)
 obtain ⟨e1, he1⟩ : ∃ z : Int, z = a1 - d1 := ⟨_, rfl⟩
 have Ee1 : Hid _ := he1
 obtain ⟨e2, he2⟩ : ∃ z : Int, z = a2 - d2 := ⟨_, rfl⟩
 have Ee2 : Hid _ := he2
 obtain ⟨e3, he3⟩ : ∃ z : Int, z = b1 - d1 := ⟨_, rfl⟩
 have Ee3 : Hid _ := he3
 obtain ⟨e4, he4⟩ : ∃ z : Int, z = b2 - d2 := ⟨_, rfl⟩
 have Ee4 : Hid _ := he4
 obtain ⟨e5, he5⟩ : ∃ z : Int, z = c1 - d1 := ⟨_, rfl⟩
 have Ee5 : Hid _ := he5
 obtain ⟨e6, he6⟩ : ∃ z : Int, z = c2 - d2 := ⟨_, rfl⟩
 have Ee6 : Hid _ := he6
 obtain ⟨D1, hD1⟩ : ∃ z : Int, z = distP a1 a2 d1 d2 := ⟨_, rfl⟩
 have ED1 : Hid _ := hD1
 obtain ⟨D2, hD2⟩ : ∃ z : Int, z = distP b1 b2 d1 d2 := ⟨_, rfl⟩
 have ED2 : Hid _ := hD2
 obtain ⟨D3, hD3⟩ : ∃ z : Int, z = distP c1 c2 d1 d2 := ⟨_, rfl⟩
 have ED3 : Hid _ := hD3
 rw [← he1] at qe1
 have Fe1 : Hid _ := few_num (z := e1) (by omega)
 rw [← he2] at qe2
 have Fe2 : Hid _ := few_num (z := e2) (by omega)
 rw [← he3] at qe3
 have Fe3 : Hid _ := few_num (z := e3) (by omega)
 rw [← he4] at qe4
 have Fe4 : Hid _ := few_num (z := e4) (by omega)
 rw [← he5] at qe5
 have Fe5 : Hid _ := few_num (z := e5) (by omega)
 rw [← he6] at qe6
 have Fe6 : Hid _ := few_num (z := e6) (by omega)
 rw [← hD1] at qD1
 have FD1 : Hid _ := few_num (z := D1) (by omega)
 rw [← hD2] at qD2
 have FD2 : Hid _ := few_num (z := D2) (by omega)
 rw [← hD3] at qD3
 have FD3 : Hid _ := few_num (z := D3) (by omega)
 obtain ⟨X1, hX1⟩ : ∃ z : Int, z = e3 * e6 := ⟨_, rfl⟩
 have EX1 : Hid _ := hX1
 obtain ⟨Y1, hY1⟩ : ∃ z : Int, z = e4 * e5 := ⟨_, rfl⟩
 have EY1 : Hid _ := hY1
 obtain ⟨C1, hC1⟩ : ∃ z : Int, z = X1 - Y1 := ⟨_, rfl⟩
 have EC1 : Hid _ := hC1
 obtain ⟨M1, hM1⟩ : ∃ z : Int, z = D1 * C1 := ⟨_, rfl⟩
 have EM1 : Hid _ := hM1
 have qX1 : X1.natAbs ≤ 4835703278458516698824704 := by rw [hX1]; exact prod_abs qe3 qe6
 have qY1 : Y1.natAbs ≤ 4835703278458516698824704 := by rw [hY1]; exact prod_abs qe4 qe5
 have qC1 : C1.natAbs ≤ 9671406556917033397649408 := by rw [hC1]; omega
 have qM1 : M1.natAbs ≤ 93536104789177786765035829293842113257979682750464 := by rw [hM1]; exact prod_abs qD1 qC1
 have FX1 : Hid _ := few_num (z := X1) (by omega)
 have FY1 : Hid _ := few_num (z := Y1) (by omega)
 have FC1 : Hid _ := few_num (z := C1) (by omega)
 have FM1 : Hid _ := few_num (z := M1) (by omega)
 obtain ⟨X2, hX2⟩ : ∃ z : Int, z = e1 * e6 := ⟨_, rfl⟩
 have EX2 : Hid _ := hX2
 obtain ⟨Y2, hY2⟩ : ∃ z : Int, z = e2 * e5 := ⟨_, rfl⟩
 have EY2 : Hid _ := hY2
 obtain ⟨C2, hC2⟩ : ∃ z : Int, z = X2 - Y2 := ⟨_, rfl⟩
 have EC2 : Hid _ := hC2
 obtain ⟨M2, hM2⟩ : ∃ z : Int, z = D2 * C2 := ⟨_, rfl⟩
 have EM2 : Hid _ := hM2
 have qX2 : X2.natAbs ≤ 4835703278458516698824704 := by rw [hX2]; exact prod_abs qe1 qe6
 have qY2 : Y2.natAbs ≤ 4835703278458516698824704 := by rw [hY2]; exact prod_abs qe2 qe5
 have qC2 : C2.natAbs ≤ 9671406556917033397649408 := by rw [hC2]; omega
 have qM2 : M2.natAbs ≤ 93536104789177786765035829293842113257979682750464 := by rw [hM2]; exact prod_abs qD2 qC2
 have FX2 : Hid _ := few_num (z := X2) (by omega)
 have FY2 : Hid _ := few_num (z := Y2) (by omega)
 have FC2 : Hid _ := few_num (z := C2) (by omega)
 have FM2 : Hid _ := few_num (z := M2) (by omega)
 obtain ⟨X3, hX3⟩ : ∃ z : Int, z = e1 * e4 := ⟨_, rfl⟩
 have EX3 : Hid _ := hX3
 obtain ⟨Y3, hY3⟩ : ∃ z : Int, z = e2 * e3 := ⟨_, rfl⟩
 have EY3 : Hid _ := hY3
 obtain ⟨C3, hC3⟩ : ∃ z : Int, z = X3 - Y3 := ⟨_, rfl⟩
 have EC3 : Hid _ := hC3
 obtain ⟨M3, hM3⟩ : ∃ z : Int, z = D3 * C3 := ⟨_, rfl⟩
 have EM3 : Hid _ := hM3
 have qX3 : X3.natAbs ≤ 4835703278458516698824704 := by rw [hX3]; exact prod_abs qe1 qe4
 have qY3 : Y3.natAbs ≤ 4835703278458516698824704 := by rw [hY3]; exact prod_abs qe2 qe3
 have qC3 : C3.natAbs ≤ 9671406556917033397649408 := by rw [hC3]; omega
 have qM3 : M3.natAbs ≤ 93536104789177786765035829293842113257979682750464 := by rw [hM3]; exact prod_abs qD3 qC3
 have FX3 : Hid _ := few_num (z := X3) (by omega)
 have FY3 : Hid _ := few_num (z := Y3) (by omega)
 have FC3 : Hid _ := few_num (z := C3) (by omega)
 have FM3 : Hid _ := few_num (z := M3) (by omega)
 obtain ⟨S1, hS1⟩ : ∃ z : Int, z = M1 - M2 := ⟨_, rfl⟩
 have ES1 : Hid _ := hS1
 obtain ⟨S2, hS2⟩ : ∃ z : Int, z = S1 + M3 := ⟨_, rfl⟩
 have ES2 : Hid _ := hS2
 have FS1 : Hid _ := few_num (z := S1) (by omega)
 have HG : Hid (g = S2.sign) := by unfold Hid; rw [hg]; unfold detP; rw [hS2, hS1, hM1, hM2, hM3, hC1, hC2, hC3, hX1, hX2, hX3, hY1, hY2, hY3, hD1, hD2, hD3, he1, he2, he3, he4, he5, he6]
 clear hg he1 he2 he3 he4 he5 he6 hD1 hX1 hY1 hC1 hM1 hD2 hX2 hY2 hC2 hM2 hD3 hX3 hY3 hC3 hM3 hS1 hS2
 clear qe1 qe2 qe3 qe4 qe5 qe6 qD1 qX1 qY1 qC1 qM1 qD2 qX2 qY2 qC2 qM2 qD3 qX3 qY3 qC3 qM3
 obtain ⟨W, hW, bW, x_a, x_b, x_c, x_d, sW⟩ := bs_2222 w (.int .i64 a1) (.int .i64 a2) (.int .i64 b1) (.int .i64 b2) (.int .i64 c1) (.int .i64 c2) (.int .i64 d1) (.int .i64 d2) 31 31 31 31
 have zbW := bW.size
 have BB := bW
 go_enter Try.func22, Try.ntmps22
 go_wp2_with (go_at_call 31; fail)
 rw [← hW]
 clear hW
 refine (rpNear a1 a2 d1 d2 W ha hd ka.symm).mono ?_
 rintro e v0 ⟨rfl, bv0⟩
 have zbv0 := bv0.size
 replace BB := also BB bv0
 replace x_a := x_a.on bv0
 replace x_b := x_b.on bv0
 replace x_c := x_c.on bv0
 replace x_d := x_d.on bv0
 have ⟨x_a_0, x_a_1, x_a_2, x_a_3⟩ := x_a
 have ⟨x_b_0, x_b_1, x_b_2, x_b_3⟩ := x_b
 have ⟨x_c_0, x_c_1, x_c_2, x_c_3⟩ := x_c
 have ⟨x_d_0, x_d_1, x_d_2, x_d_3⟩ := x_d
 go_wp2_with (go_at_call 31; fail)
 refine (rpNear b1 b2 d1 d2 v0 hb hd kb.symm).mono ?_
 rintro e v1 ⟨rfl, bv1⟩
 clear x_a_0 x_a_1 x_a_2 x_a_3 x_b_0 x_b_1 x_b_2 x_b_3 x_c_0 x_c_1 x_c_2 x_c_3 x_d_0 x_d_1 x_d_2 x_d_3
 have zbv1 := bv1.size
 replace BB := also BB bv1
 replace x_a := x_a.on bv1
 replace x_b := x_b.on bv1
 replace x_c := x_c.on bv1
 replace x_d := x_d.on bv1
 have ⟨x_a_0, x_a_1, x_a_2, x_a_3⟩ := x_a
 have ⟨x_b_0, x_b_1, x_b_2, x_b_3⟩ := x_b
 have ⟨x_c_0, x_c_1, x_c_2, x_c_3⟩ := x_c
 have ⟨x_d_0, x_d_1, x_d_2, x_d_3⟩ := x_d
 go_wp2_with (go_at_call 31; fail)
 refine (rpNear c1 c2 d1 d2 v1 hc hd kc.symm).mono ?_
 rintro e v2 ⟨rfl, bv2⟩
 clear x_a_0 x_a_1 x_a_2 x_a_3 x_b_0 x_b_1 x_b_2 x_b_3 x_c_0 x_c_1 x_c_2 x_c_3 x_d_0 x_d_1 x_d_2 x_d_3
 have zbv2 := bv2.size
 replace BB := also BB bv2
 replace x_a := x_a.on bv2
 replace x_b := x_b.on bv2
 replace x_c := x_c.on bv2
 replace x_d := x_d.on bv2
 have ⟨x_a_0, x_a_1, x_a_2, x_a_3⟩ := x_a
 have ⟨x_b_0, x_b_1, x_b_2, x_b_3⟩ := x_b
 have ⟨x_c_0, x_c_1, x_c_2, x_c_3⟩ := x_c
 have ⟨x_d_0, x_d_1, x_d_2, x_d_3⟩ := x_d
 go_wp2
 clear x_a_0 x_a_1 x_a_2 x_a_3 x_b_0 x_b_1 x_b_2 x_b_3 x_c_0 x_c_1 x_c_2 x_c_3 x_d_0 x_d_1 x_d_2 x_d_3
 obtain ⟨QQ, hQQ⟩ : ∃ QQ : Exit → Act → World → Prop, QQ = fun e act wr => e = .normal ∧ ∃ (pma0 : Nat) (pma1 : Nat) (pma2 : Nat) (pma3 : Nat) (pma4 : Nat) (pma5 : Nat) (s11 : Int) (d11 : Option Addr) (l11 c11 : Nat) (s12 : Int) (d12 : Option Addr) (l12 c12 : Nat) (s13 : Int) (d13 : Option Addr) (l13 c13 : Nat) (s14 : Int) (d14 : Option Addr) (l14 c14 : Nat) (s15 : Int) (d15 : Option Addr) (l15 c15 : Nat) (s16 : Int) (d16 : Option Addr) (l16 c16 : Nat), act = ⟨#[.agg #[.int .i64 a1, .int .i64 a2], .agg #[.int .i64 b1, .int .i64 b2], .agg #[.int .i64 c1, .int .i64 c2], .agg #[.int .i64 d1, .int .i64 d2], .pointer (some ⟨w.heap.size, 0, none⟩), .pointer (some ⟨w.heap.size + 1, 0, none⟩), .pointer (some ⟨w.heap.size + 1 + 1, 0, none⟩), .pointer (some ⟨w.heap.size + 1 + 1 + 1, 0, none⟩), .int .i64 0, .pointer (some ⟨pma0, 0, none⟩), .pointer (some ⟨pma1, 0, none⟩), .pointer (some ⟨pma2, 0, none⟩), .pointer (some ⟨pma3, 0, none⟩), .pointer (some ⟨pma4, 0, none⟩), .pointer (some ⟨pma5, 0, none⟩), undef, .agg #[.int .i64 a1, .int .i64 a2], .agg #[.int .i64 d1, .int .i64 d2], .bool true, .bool true, .agg #[.int .i64 b1, .int .i64 b2], .agg #[.int .i64 d1, .int .i64 d2], .bool true, .bool true, .bool true, .agg #[.int .i64 c1, .int .i64 c2], .agg #[.int .i64 d1, .int .i64 d2], .bool false, .bool false, undef, undef, undef, undef, undef, .pointer (some ⟨w.heap.size + 1 + 1 + 1, 0, none⟩), .int .i64 d1, .pointer (some ⟨w.heap.size, 0, none⟩), .int .i64 a1, .agg #[.int .i64 s11, .slice d11 l11 c11], .pointer (some ⟨w.heap.size + 1 + 1 + 1, 1, none⟩), .int .i64 d2, .pointer (some ⟨w.heap.size, 1, none⟩), .int .i64 a2, .agg #[.int .i64 s12, .slice d12 l12 c12], .pointer (some ⟨w.heap.size + 1 + 1 + 1, 0, none⟩), .int .i64 d1, .pointer (some ⟨w.heap.size + 1, 0, none⟩), .int .i64 b1, .agg #[.int .i64 s13, .slice d13 l13 c13], .pointer (some ⟨w.heap.size + 1 + 1 + 1, 1, none⟩), .int .i64 d2, .pointer (some ⟨w.heap.size + 1, 1, none⟩), .int .i64 b2, .agg #[.int .i64 s14, .slice d14 l14 c14], .pointer (some ⟨w.heap.size + 1 + 1 + 1, 0, none⟩), .int .i64 d1, .pointer (some ⟨w.heap.size + 1 + 1, 0, none⟩), .int .i64 c1, .agg #[.int .i64 s15, .slice d15 l15 c15], .pointer (some ⟨w.heap.size + 1 + 1 + 1, 1, none⟩), .int .i64 d2, .pointer (some ⟨w.heap.size + 1 + 1, 1, none⟩), .int .i64 c2, .agg #[.int .i64 s16, .slice d16 l16 c16], undef, undef, undef, undef, undef, undef, undef, undef, undef, undef, undef, undef, undef, undef, undef, undef, undef, undef, undef, undef, undef, undef, undef, undef, undef, undef, undef, undef, undef, undef, undef, undef, undef, undef, undef, undef, undef, undef, undef], []⟩ ∧ RN wr s11 d11 l11 c11 e1 ∧ RN wr s12 d12 l12 c12 e2 ∧ RN wr s13 d13 l13 c13 e3 ∧ RN wr s14 d14 l14 c14 e4 ∧ RN wr s15 d15 l15 c15 e5 ∧ RN wr s16 d16 l16 c16 e6 ∧ Bx wr (w.heap.size) (.int .i64 a1) (.int .i64 a2) ∧ Bx wr (w.heap.size + 1) (.int .i64 b1) (.int .i64 b2) ∧ Bx wr (w.heap.size + 1 + 1) (.int .i64 c1) (.int .i64 c2) ∧ Bx wr (w.heap.size + 1 + 1 + 1) (.int .i64 d1) (.int .i64 d2) ∧ Bx wr pma0 (.int .i64 s11) (.slice d11 l11 c11) ∧ Bx wr pma1 (.int .i64 s12) (.slice d12 l12 c12) ∧ Bx wr pma2 (.int .i64 s13) (.slice d13 l13 c13) ∧ Bx wr pma3 (.int .i64 s14) (.slice d14 l14 c14) ∧ Bx wr pma4 (.int .i64 s15) (.slice d15 l15 c15) ∧ Bx wr pma5 (.int .i64 s16) (.slice d16 l16 c16) ∧ Below w.heap.size w wr ∧ v2.heap.size ≤ wr.heap.size ∧ (v2.heap.size ≤ pma0 ∧ pma0 < wr.heap.size) ∧ (v2.heap.size ≤ pma1 ∧ pma1 < wr.heap.size) ∧ (v2.heap.size ≤ pma2 ∧ pma2 < wr.heap.size) ∧ (v2.heap.size ≤ pma3 ∧ pma3 < wr.heap.size) ∧ (v2.heap.size ≤ pma4 ∧ pma4 < wr.heap.size) ∧ (v2.heap.size ≤ pma5 ∧ pma5 < wr.heap.size) := ⟨_, rfl⟩
 have HQQ : Hid _ := hQQ
 clear hQQ
 refine wp_mono (Q := QQ) ?_ ?_
 ·refine wp_region_held_drew (S := (fun w' => w'.cell? ⟨w.heap.size, 0, none⟩ = some (.int .i64 a1) ∧ w'.cell? ⟨w.heap.size, 1, none⟩ = some (.int .i64 a2) ∧ w'.cell? ⟨w.heap.size + 1, 0, none⟩ = some (.int .i64 b1) ∧ w'.cell? ⟨w.heap.size + 1, 1, none⟩ = some (.int .i64 b2) ∧ w'.cell? ⟨w.heap.size + 1 + 1, 0, none⟩ = some (.int .i64 c1) ∧ w'.cell? ⟨w.heap.size + 1 + 1, 1, none⟩ = some (.int .i64 c2) ∧ w'.cell? ⟨w.heap.size + 1 + 1 + 1, 0, none⟩ = some (.int .i64 d1) ∧ w'.cell? ⟨w.heap.size + 1 + 1 + 1, 1, none⟩ = some (.int .i64 d2) ∧ Below w.heap.size w w')) (by kernel_rfl) ?_ (fun hHeld => ?_)
  ·exact ⟨x_a.c0, x_a.c1, x_b.c0, x_b.c1, x_c.c0, x_c.c1, x_d.c0, x_d.c1, BB.drew⟩
  refine tzq (i := 0) rfl (fun _ _ _ h => by rw [HQQ.out] at h; exact Exit.noConfusion h.1) ?_
  simp only [Act.put, ps1, ps2, ps3]
  refine tzq (i := 1) rfl (fun _ _ _ h => by rw [HQQ.out] at h; exact Exit.noConfusion h.1) ?_
  simp only [Act.put, ps1, ps2, ps3]
  refine tzq (i := 2) rfl (fun _ _ _ h => by rw [HQQ.out] at h; exact Exit.noConfusion h.1) ?_
  simp only [Act.put, ps1, ps2, ps3]
  refine tzq (i := 3) rfl (fun _ _ _ h => by rw [HQQ.out] at h; exact Exit.noConfusion h.1) ?_
  simp only [Act.put, ps1, ps2, ps3]
  refine tzq (i := 5) rfl (fun _ _ _ h => by rw [HQQ.out] at h; exact Exit.noConfusion h.1) ?_
  simp only [Act.put, ps1, ps2, ps3]
  refine tzq (i := 6) rfl (fun _ _ _ h => by rw [HQQ.out] at h; exact Exit.noConfusion h.1) ?_
  simp only [Act.put, ps1, ps2, ps3]
  refine tzq (i := 7) rfl (fun _ _ _ h => by rw [HQQ.out] at h; exact Exit.noConfusion h.1) ?_
  simp only [Act.put, ps1, ps2, ps3]
  refine tzq (i := 8) rfl (fun _ _ _ h => by rw [HQQ.out] at h; exact Exit.noConfusion h.1) ?_
  simp only [Act.put, ps1, ps2, ps3]
  refine tzq (i := 10) rfl (fun _ _ _ h => by rw [HQQ.out] at h; exact Exit.noConfusion h.1) ?_
  simp only [Act.put, ps1, ps2, ps3]
  refine tzq (i := 11) rfl (fun _ _ _ h => by rw [HQQ.out] at h; exact Exit.noConfusion h.1) ?_
  simp only [Act.put, ps1, ps2, ps3]
  refine tzq (i := 12) rfl (fun _ _ _ h => by rw [HQQ.out] at h; exact Exit.noConfusion h.1) ?_
  simp only [Act.put, ps1, ps2, ps3]
  refine tzq (i := 13) rfl (fun _ _ _ h => by rw [HQQ.out] at h; exact Exit.noConfusion h.1) ?_
  simp only [Act.put, ps1, ps2, ps3]
  refine tzq (i := 15) rfl (fun _ _ _ h => by rw [HQQ.out] at h; exact Exit.noConfusion h.1) ?_
  simp only [Act.put, ps1, ps2, ps3]
  refine tzq (i := 16) rfl (fun _ _ _ h => by rw [HQQ.out] at h; exact Exit.noConfusion h.1) ?_
  simp only [Act.put, ps1, ps2, ps3]
  refine tzq (i := 17) rfl (fun _ _ _ h => by rw [HQQ.out] at h; exact Exit.noConfusion h.1) ?_
  simp only [Act.put, ps1, ps2, ps3]
  refine tzq (i := 18) rfl (fun _ _ _ h => by rw [HQQ.out] at h; exact Exit.noConfusion h.1) ?_
  simp only [Act.put, ps1, ps2, ps3]
  refine tzq (i := 20) rfl (fun _ _ _ h => by rw [HQQ.out] at h; exact Exit.noConfusion h.1) ?_
  simp only [Act.put, ps1, ps2, ps3]
  refine tzq (i := 21) rfl (fun _ _ _ h => by rw [HQQ.out] at h; exact Exit.noConfusion h.1) ?_
  simp only [Act.put, ps1, ps2, ps3]
  refine tzq (i := 22) rfl (fun _ _ _ h => by rw [HQQ.out] at h; exact Exit.noConfusion h.1) ?_
  simp only [Act.put, ps1, ps2, ps3]
  refine tzq (i := 23) rfl (fun _ _ _ h => by rw [HQQ.out] at h; exact Exit.noConfusion h.1) ?_
  simp only [Act.put, ps1, ps2, ps3]
  refine tzq (i := 25) rfl (fun _ _ _ h => by rw [HQQ.out] at h; exact Exit.noConfusion h.1) ?_
  simp only [Act.put, ps1, ps2, ps3]
  refine tzq (i := 26) rfl (fun _ _ _ h => by rw [HQQ.out] at h; exact Exit.noConfusion h.1) ?_
  simp only [Act.put, ps1, ps2, ps3]
  refine tzq (i := 27) rfl (fun _ _ _ h => by rw [HQQ.out] at h; exact Exit.noConfusion h.1) ?_
  simp only [Act.put, ps1, ps2, ps3]
  refine tzq (i := 28) rfl (fun _ _ _ h => by rw [HQQ.out] at h; exact Exit.noConfusion h.1) ?_
  simp only [Act.put, ps1, ps2, ps3]
  clear hHeld
  obtain ⟨INV, hINV⟩ : ∃ INV : Nat → Array Bool → Act → World → Prop, INV = fun f L act wr => ∃ (bD eD : Nat → Bool) (pD : Nat → Nat) (RD : Nat → World → Prop) (AD : Nat → Nat → Prop) (uD vD : Nat → Value), f = 6 + (nb (bD 0) + nb (bD 1) + nb (bD 2) + nb (bD 3) + nb (bD 4) + nb (bD 5) + nb (eD 0) + nb (eD 1) + nb (eD 2) + nb (eD 3) + nb (eD 4) + nb (eD 5)) ∧ L = #[true, true, true, true, bD 0, true, true, true, true, bD 1, true, true, true, true, bD 2, true, true, true, true, bD 3, true, true, true, true, bD 4, true, true, true, true, bD 5, eD 0, eD 1, eD 2, eD 3, eD 4, eD 5, false, false, false, false, false, false] ∧ act = ⟨#[.agg #[.int .i64 a1, .int .i64 a2], .agg #[.int .i64 b1, .int .i64 b2], .agg #[.int .i64 c1, .int .i64 c2], .agg #[.int .i64 d1, .int .i64 d2], .pointer (some ⟨w.heap.size, 0, none⟩), .pointer (some ⟨w.heap.size + 1, 0, none⟩), .pointer (some ⟨w.heap.size + 1 + 1, 0, none⟩), .pointer (some ⟨w.heap.size + 1 + 1 + 1, 0, none⟩), .int .i64 0, vD 0, vD 1, vD 2, vD 3, vD 4, vD 5, undef, .agg #[.int .i64 a1, .int .i64 a2], .agg #[.int .i64 d1, .int .i64 d2], .bool true, .bool true, .agg #[.int .i64 b1, .int .i64 b2], .agg #[.int .i64 d1, .int .i64 d2], .bool true, .bool true, .bool true, .agg #[.int .i64 c1, .int .i64 c2], .agg #[.int .i64 d1, .int .i64 d2], .bool false, .bool false, undef, undef, undef, undef, undef, .pointer (some ⟨w.heap.size + 1 + 1 + 1, 0, none⟩), .int .i64 d1, .pointer (some ⟨w.heap.size, 0, none⟩), .int .i64 a1, uD 0, .pointer (some ⟨w.heap.size + 1 + 1 + 1, 1, none⟩), .int .i64 d2, .pointer (some ⟨w.heap.size, 1, none⟩), .int .i64 a2, uD 1, .pointer (some ⟨w.heap.size + 1 + 1 + 1, 0, none⟩), .int .i64 d1, .pointer (some ⟨w.heap.size + 1, 0, none⟩), .int .i64 b1, uD 2, .pointer (some ⟨w.heap.size + 1 + 1 + 1, 1, none⟩), .int .i64 d2, .pointer (some ⟨w.heap.size + 1, 1, none⟩), .int .i64 b2, uD 3, .pointer (some ⟨w.heap.size + 1 + 1 + 1, 0, none⟩), .int .i64 d1, .pointer (some ⟨w.heap.size + 1 + 1, 0, none⟩), .int .i64 c1, uD 4, .pointer (some ⟨w.heap.size + 1 + 1 + 1, 1, none⟩), .int .i64 d2, .pointer (some ⟨w.heap.size + 1 + 1, 1, none⟩), .int .i64 c2, uD 5, undef, undef, undef, undef, undef, undef, undef, undef, undef, undef, undef, undef, undef, undef, undef, undef, undef, undef, undef, undef, undef, undef, undef, undef, undef, undef, undef, undef, undef, undef, undef, undef, undef, undef, undef, undef, undef, undef, undef], []⟩ ∧ (bD 1 = true → bD 0 = true) ∧ (bD 2 = true → bD 1 = true) ∧ (bD 3 = true → bD 2 = true) ∧ (bD 4 = true → bD 3 = true) ∧ (bD 5 = true → bD 4 = true) ∧ Mk v2 SpR2Z (SpR2 e1 e2 e3 e4 e5 e6) bD eD pD RD AD uD vD wr := ⟨_, rfl⟩
  have HINV : Hid _ := hINV
  clear hINV
  refine phase INV ?stepma _ _ _ _ ?initma
  case initma => rw [HINV.out]; exact ⟨fun _ => false, fun _ => false, fun _ => 0, fun _ _ => True, fun _ _ => True, fun _ => undef, fun _ => undef, rfl, rfl, rfl, fun h => Bool.noConfusion h, fun h => Bool.noConfusion h, fun h => Bool.noConfusion h, fun h => Bool.noConfusion h, fun h => Bool.noConfusion h, Mk.start _ _ _ (Below.refl _ _).drew⟩
  intro f L act wr hinv
  rw [HINV.out] at hinv
  obtain ⟨bD, eD, pD, RD, AD, uD, vD, hf, rfl, rfl, ch0, ch1, ch2, ch3, ch4, hm⟩ := hinv
  by_cases hall : bD 5 = true ∧ eD 0 = true ∧ eD 1 = true ∧ eD 2 = true ∧ eD 3 = true ∧ eD 4 = true ∧ eD 5 = true
  ·refine Or.inl ?_
   obtain ⟨hb5, he0, he1, he2, he3, he4, he5⟩ := hall
   have hb4 := ch4 hb5
   have hb3 := ch3 hb4
   have hb2 := ch2 hb3
   have hb1 := ch1 hb2
   have hb0 := ch0 hb1
   simp only [hb0, hb1, hb2, hb3, hb4, hb5, he0, he1, he2, he3, he4, he5, nb] at hf
   subst hf
   rw [hb0, hb1, hb2, hb3, hb4, hb5, he0, he1, he2, he3, he4, he5, hm.ptr 0 he0, hm.ptr 1 he1, hm.ptr 2 he2, hm.ptr 3 he3, hm.ptr 4 he4, hm.ptr 5 he5]
   obtain ⟨s11, d11, l11, c11, hu0, hR0, hA0⟩ : RNIs _ _ _ _ := hm.spec 0 hb0
   rw [hu0]
   have r11 : RN wr s11 d11 l11 c11 e1 := by have := hm.res 0 hb0; rw [hR0] at this; exact this
   have n_r11_0_pma0 : NA (pD 0) d11 l11 := by have := hm.ap 0 0 he0 hb0; rw [hA0] at this; exact this
   have n_r11_0_pma1 : NA (pD 1) d11 l11 := by have := hm.ap 1 0 he1 hb0; rw [hA0] at this; exact this
   have n_r11_0_pma2 : NA (pD 2) d11 l11 := by have := hm.ap 2 0 he2 hb0; rw [hA0] at this; exact this
   have n_r11_0_pma3 : NA (pD 3) d11 l11 := by have := hm.ap 3 0 he3 hb0; rw [hA0] at this; exact this
   have n_r11_0_pma4 : NA (pD 4) d11 l11 := by have := hm.ap 4 0 he4 hb0; rw [hA0] at this; exact this
   have n_r11_0_pma5 : NA (pD 5) d11 l11 := by have := hm.ap 5 0 he5 hb0; rw [hA0] at this; exact this
   obtain ⟨s12, d12, l12, c12, hu1, hR1, hA1⟩ : RNIs _ _ _ _ := hm.spec 1 hb1
   rw [hu1]
   have r12 : RN wr s12 d12 l12 c12 e2 := by have := hm.res 1 hb1; rw [hR1] at this; exact this
   have n_r12_0_pma0 : NA (pD 0) d12 l12 := by have := hm.ap 0 1 he0 hb1; rw [hA1] at this; exact this
   have n_r12_0_pma1 : NA (pD 1) d12 l12 := by have := hm.ap 1 1 he1 hb1; rw [hA1] at this; exact this
   have n_r12_0_pma2 : NA (pD 2) d12 l12 := by have := hm.ap 2 1 he2 hb1; rw [hA1] at this; exact this
   have n_r12_0_pma3 : NA (pD 3) d12 l12 := by have := hm.ap 3 1 he3 hb1; rw [hA1] at this; exact this
   have n_r12_0_pma4 : NA (pD 4) d12 l12 := by have := hm.ap 4 1 he4 hb1; rw [hA1] at this; exact this
   have n_r12_0_pma5 : NA (pD 5) d12 l12 := by have := hm.ap 5 1 he5 hb1; rw [hA1] at this; exact this
   obtain ⟨s13, d13, l13, c13, hu2, hR2, hA2⟩ : RNIs _ _ _ _ := hm.spec 2 hb2
   rw [hu2]
   have r13 : RN wr s13 d13 l13 c13 e3 := by have := hm.res 2 hb2; rw [hR2] at this; exact this
   have n_r13_0_pma0 : NA (pD 0) d13 l13 := by have := hm.ap 0 2 he0 hb2; rw [hA2] at this; exact this
   have n_r13_0_pma1 : NA (pD 1) d13 l13 := by have := hm.ap 1 2 he1 hb2; rw [hA2] at this; exact this
   have n_r13_0_pma2 : NA (pD 2) d13 l13 := by have := hm.ap 2 2 he2 hb2; rw [hA2] at this; exact this
   have n_r13_0_pma3 : NA (pD 3) d13 l13 := by have := hm.ap 3 2 he3 hb2; rw [hA2] at this; exact this
   have n_r13_0_pma4 : NA (pD 4) d13 l13 := by have := hm.ap 4 2 he4 hb2; rw [hA2] at this; exact this
   have n_r13_0_pma5 : NA (pD 5) d13 l13 := by have := hm.ap 5 2 he5 hb2; rw [hA2] at this; exact this
   obtain ⟨s14, d14, l14, c14, hu3, hR3, hA3⟩ : RNIs _ _ _ _ := hm.spec 3 hb3
   rw [hu3]
   have r14 : RN wr s14 d14 l14 c14 e4 := by have := hm.res 3 hb3; rw [hR3] at this; exact this
   have n_r14_0_pma0 : NA (pD 0) d14 l14 := by have := hm.ap 0 3 he0 hb3; rw [hA3] at this; exact this
   have n_r14_0_pma1 : NA (pD 1) d14 l14 := by have := hm.ap 1 3 he1 hb3; rw [hA3] at this; exact this
   have n_r14_0_pma2 : NA (pD 2) d14 l14 := by have := hm.ap 2 3 he2 hb3; rw [hA3] at this; exact this
   have n_r14_0_pma3 : NA (pD 3) d14 l14 := by have := hm.ap 3 3 he3 hb3; rw [hA3] at this; exact this
   have n_r14_0_pma4 : NA (pD 4) d14 l14 := by have := hm.ap 4 3 he4 hb3; rw [hA3] at this; exact this
   have n_r14_0_pma5 : NA (pD 5) d14 l14 := by have := hm.ap 5 3 he5 hb3; rw [hA3] at this; exact this
   obtain ⟨s15, d15, l15, c15, hu4, hR4, hA4⟩ : RNIs _ _ _ _ := hm.spec 4 hb4
   rw [hu4]
   have r15 : RN wr s15 d15 l15 c15 e5 := by have := hm.res 4 hb4; rw [hR4] at this; exact this
   have n_r15_0_pma0 : NA (pD 0) d15 l15 := by have := hm.ap 0 4 he0 hb4; rw [hA4] at this; exact this
   have n_r15_0_pma1 : NA (pD 1) d15 l15 := by have := hm.ap 1 4 he1 hb4; rw [hA4] at this; exact this
   have n_r15_0_pma2 : NA (pD 2) d15 l15 := by have := hm.ap 2 4 he2 hb4; rw [hA4] at this; exact this
   have n_r15_0_pma3 : NA (pD 3) d15 l15 := by have := hm.ap 3 4 he3 hb4; rw [hA4] at this; exact this
   have n_r15_0_pma4 : NA (pD 4) d15 l15 := by have := hm.ap 4 4 he4 hb4; rw [hA4] at this; exact this
   have n_r15_0_pma5 : NA (pD 5) d15 l15 := by have := hm.ap 5 4 he5 hb4; rw [hA4] at this; exact this
   obtain ⟨s16, d16, l16, c16, hu5, hR5, hA5⟩ : RNIs _ _ _ _ := hm.spec 5 hb5
   rw [hu5]
   have r16 : RN wr s16 d16 l16 c16 e6 := by have := hm.res 5 hb5; rw [hR5] at this; exact this
   have n_r16_0_pma0 : NA (pD 0) d16 l16 := by have := hm.ap 0 5 he0 hb5; rw [hA5] at this; exact this
   have n_r16_0_pma1 : NA (pD 1) d16 l16 := by have := hm.ap 1 5 he1 hb5; rw [hA5] at this; exact this
   have n_r16_0_pma2 : NA (pD 2) d16 l16 := by have := hm.ap 2 5 he2 hb5; rw [hA5] at this; exact this
   have n_r16_0_pma3 : NA (pD 3) d16 l16 := by have := hm.ap 3 5 he3 hb5; rw [hA5] at this; exact this
   have n_r16_0_pma4 : NA (pD 4) d16 l16 := by have := hm.ap 4 5 he4 hb5; rw [hA5] at this; exact this
   have n_r16_0_pma5 : NA (pD 5) d16 l16 := by have := hm.ap 5 5 he5 hb5; rw [hA5] at this; exact this
   have y_pma0 : Bx wr (pD 0) (.int .i64 0) (.slice none 0 0) := bx_row (hm.blk 0 he0)
   have gpma0 := hm.old 0 he0
   have ltpma0 := hm.lt 0 he0
   have y_pma1 : Bx wr (pD 1) (.int .i64 0) (.slice none 0 0) := bx_row (hm.blk 1 he1)
   have gpma1 := hm.old 1 he1
   have ltpma1 := hm.lt 1 he1
   have y_pma2 : Bx wr (pD 2) (.int .i64 0) (.slice none 0 0) := bx_row (hm.blk 2 he2)
   have gpma2 := hm.old 2 he2
   have ltpma2 := hm.lt 2 he2
   have y_pma3 : Bx wr (pD 3) (.int .i64 0) (.slice none 0 0) := bx_row (hm.blk 3 he3)
   have gpma3 := hm.old 3 he3
   have ltpma3 := hm.lt 3 he3
   have y_pma4 : Bx wr (pD 4) (.int .i64 0) (.slice none 0 0) := bx_row (hm.blk 4 he4)
   have gpma4 := hm.old 4 he4
   have ltpma4 := hm.lt 4 he4
   have y_pma5 : Bx wr (pD 5) (.int .i64 0) (.slice none 0 0) := bx_row (hm.blk 5 he5)
   have gpma5 := hm.old 5 he5
   have ltpma5 := hm.lt 5 he5
   have ne_0_1 : pD 0 ≠ pD 1 := hm.ne 0 1 he0 he1 (by decide)
   have ne_0_2 : pD 0 ≠ pD 2 := hm.ne 0 2 he0 he2 (by decide)
   have ne_1_2 : pD 1 ≠ pD 2 := hm.ne 1 2 he1 he2 (by decide)
   have ne_0_3 : pD 0 ≠ pD 3 := hm.ne 0 3 he0 he3 (by decide)
   have ne_1_3 : pD 1 ≠ pD 3 := hm.ne 1 3 he1 he3 (by decide)
   have ne_2_3 : pD 2 ≠ pD 3 := hm.ne 2 3 he2 he3 (by decide)
   have ne_0_4 : pD 0 ≠ pD 4 := hm.ne 0 4 he0 he4 (by decide)
   have ne_1_4 : pD 1 ≠ pD 4 := hm.ne 1 4 he1 he4 (by decide)
   have ne_2_4 : pD 2 ≠ pD 4 := hm.ne 2 4 he2 he4 (by decide)
   have ne_3_4 : pD 3 ≠ pD 4 := hm.ne 3 4 he3 he4 (by decide)
   have ne_0_5 : pD 0 ≠ pD 5 := hm.ne 0 5 he0 he5 (by decide)
   have ne_1_5 : pD 1 ≠ pD 5 := hm.ne 1 5 he1 he5 (by decide)
   have ne_2_5 : pD 2 ≠ pD 5 := hm.ne 2 5 he2 he5 (by decide)
   have ne_3_5 : pD 3 ≠ pD 5 := hm.ne 3 5 he3 he5 (by decide)
   have ne_4_5 : pD 4 ≠ pD 5 := hm.ne 4 5 he4 he5 (by decide)
   have BU := hm.bel
   replace x_a := x_a.on BU
   replace x_b := x_b.on BU
   replace x_c := x_c.on BU
   replace x_d := x_d.on BU
   replace BB := also BB BU
   have hHeld : ((fun w' => w'.cell? ⟨w.heap.size, 0, none⟩ = some (.int .i64 a1) ∧ w'.cell? ⟨w.heap.size, 1, none⟩ = some (.int .i64 a2) ∧ w'.cell? ⟨w.heap.size + 1, 0, none⟩ = some (.int .i64 b1) ∧ w'.cell? ⟨w.heap.size + 1, 1, none⟩ = some (.int .i64 b2) ∧ w'.cell? ⟨w.heap.size + 1 + 1, 0, none⟩ = some (.int .i64 c1) ∧ w'.cell? ⟨w.heap.size + 1 + 1, 1, none⟩ = some (.int .i64 c2) ∧ w'.cell? ⟨w.heap.size + 1 + 1 + 1, 0, none⟩ = some (.int .i64 d1) ∧ w'.cell? ⟨w.heap.size + 1 + 1 + 1, 1, none⟩ = some (.int .i64 d2) ∧ Below w.heap.size w w')) wr := ⟨x_a.c0, x_a.c1, x_b.c0, x_b.c1, x_c.c0, x_c.c1, x_d.c0, x_d.c1, BB⟩
   clear hm HINV INV ch0 ch1 ch2 ch3 ch4
   generalize pD 0 = pma0 at *
   generalize pD 1 = pma1 at *
   generalize pD 2 = pma2 at *
   generalize pD 3 = pma3 at *
   generalize pD 4 = pma4 at *
   generalize pD 5 = pma5 at *
   dsimp only at hHeld
   have ⟨c_pma0_0, c_pma0_1, c_pma0_2, c_pma0_3⟩ : Bx wr pma0 (.int .i64 0) (.slice none 0 0) := y_pma0
   refine take_call (i := 36) rfl (by kernel_rfl) (fun Kc hK => ?_)
   go_simp
   refine hK.out _ _ ⟨cell_put2 hHeld.1 (by omega) _ _, cell_put2 hHeld.2.1 (by omega) _ _, cell_put2 hHeld.2.2.1 (by omega) _ _, cell_put2 hHeld.2.2.2.1 (by omega) _ _, cell_put2 hHeld.2.2.2.2.1 (by omega) _ _, cell_put2 hHeld.2.2.2.2.2.1 (by omega) _ _, cell_put2 hHeld.2.2.2.2.2.2.1 (by omega) _ _, cell_put2 hHeld.2.2.2.2.2.2.2.1 (by omega) _ _, below_put2 hHeld.2.2.2.2.2.2.2.2 (by omega) _ _⟩ (fun hHeld => ?_)
   clear hK Kc
   have ⟨c_pma1_0, c_pma1_1, c_pma1_2, c_pma1_3⟩ : Bx ((wr.setCell ⟨pma0, 0, none⟩ (.int .i64 s11)).setCell ⟨pma0, 1, none⟩ (.slice d11 l11 c11)) pma1 (.int .i64 0) (.slice none 0 0) := ((y_pma1.put ne_0_1).put ne_0_1)
   refine take_call (i := 37) rfl (by kernel_rfl) (fun Kc hK => ?_)
   go_simp
   refine hK.out _ _ ⟨cell_put2 hHeld.1 (by omega) _ _, cell_put2 hHeld.2.1 (by omega) _ _, cell_put2 hHeld.2.2.1 (by omega) _ _, cell_put2 hHeld.2.2.2.1 (by omega) _ _, cell_put2 hHeld.2.2.2.2.1 (by omega) _ _, cell_put2 hHeld.2.2.2.2.2.1 (by omega) _ _, cell_put2 hHeld.2.2.2.2.2.2.1 (by omega) _ _, cell_put2 hHeld.2.2.2.2.2.2.2.1 (by omega) _ _, below_put2 hHeld.2.2.2.2.2.2.2.2 (by omega) _ _⟩ (fun hHeld => ?_)
   clear hK Kc
   have ⟨c_pma2_0, c_pma2_1, c_pma2_2, c_pma2_3⟩ : Bx ((((wr.setCell ⟨pma0, 0, none⟩ (.int .i64 s11)).setCell ⟨pma0, 1, none⟩ (.slice d11 l11 c11)).setCell ⟨pma1, 0, none⟩ (.int .i64 s12)).setCell ⟨pma1, 1, none⟩ (.slice d12 l12 c12)) pma2 (.int .i64 0) (.slice none 0 0) := ((((y_pma2.put ne_0_2).put ne_0_2).put ne_1_2).put ne_1_2)
   refine take_call (i := 38) rfl (by kernel_rfl) (fun Kc hK => ?_)
   go_simp
   refine hK.out _ _ ⟨cell_put2 hHeld.1 (by omega) _ _, cell_put2 hHeld.2.1 (by omega) _ _, cell_put2 hHeld.2.2.1 (by omega) _ _, cell_put2 hHeld.2.2.2.1 (by omega) _ _, cell_put2 hHeld.2.2.2.2.1 (by omega) _ _, cell_put2 hHeld.2.2.2.2.2.1 (by omega) _ _, cell_put2 hHeld.2.2.2.2.2.2.1 (by omega) _ _, cell_put2 hHeld.2.2.2.2.2.2.2.1 (by omega) _ _, below_put2 hHeld.2.2.2.2.2.2.2.2 (by omega) _ _⟩ (fun hHeld => ?_)
   clear hK Kc
   have ⟨c_pma3_0, c_pma3_1, c_pma3_2, c_pma3_3⟩ : Bx ((((((wr.setCell ⟨pma0, 0, none⟩ (.int .i64 s11)).setCell ⟨pma0, 1, none⟩ (.slice d11 l11 c11)).setCell ⟨pma1, 0, none⟩ (.int .i64 s12)).setCell ⟨pma1, 1, none⟩ (.slice d12 l12 c12)).setCell ⟨pma2, 0, none⟩ (.int .i64 s13)).setCell ⟨pma2, 1, none⟩ (.slice d13 l13 c13)) pma3 (.int .i64 0) (.slice none 0 0) := ((((((y_pma3.put ne_0_3).put ne_0_3).put ne_1_3).put ne_1_3).put ne_2_3).put ne_2_3)
   refine take_call (i := 39) rfl (by kernel_rfl) (fun Kc hK => ?_)
   go_simp
   refine hK.out _ _ ⟨cell_put2 hHeld.1 (by omega) _ _, cell_put2 hHeld.2.1 (by omega) _ _, cell_put2 hHeld.2.2.1 (by omega) _ _, cell_put2 hHeld.2.2.2.1 (by omega) _ _, cell_put2 hHeld.2.2.2.2.1 (by omega) _ _, cell_put2 hHeld.2.2.2.2.2.1 (by omega) _ _, cell_put2 hHeld.2.2.2.2.2.2.1 (by omega) _ _, cell_put2 hHeld.2.2.2.2.2.2.2.1 (by omega) _ _, below_put2 hHeld.2.2.2.2.2.2.2.2 (by omega) _ _⟩ (fun hHeld => ?_)
   clear hK Kc
   have ⟨c_pma4_0, c_pma4_1, c_pma4_2, c_pma4_3⟩ : Bx ((((((((wr.setCell ⟨pma0, 0, none⟩ (.int .i64 s11)).setCell ⟨pma0, 1, none⟩ (.slice d11 l11 c11)).setCell ⟨pma1, 0, none⟩ (.int .i64 s12)).setCell ⟨pma1, 1, none⟩ (.slice d12 l12 c12)).setCell ⟨pma2, 0, none⟩ (.int .i64 s13)).setCell ⟨pma2, 1, none⟩ (.slice d13 l13 c13)).setCell ⟨pma3, 0, none⟩ (.int .i64 s14)).setCell ⟨pma3, 1, none⟩ (.slice d14 l14 c14)) pma4 (.int .i64 0) (.slice none 0 0) := ((((((((y_pma4.put ne_0_4).put ne_0_4).put ne_1_4).put ne_1_4).put ne_2_4).put ne_2_4).put ne_3_4).put ne_3_4)
   refine take_call (i := 40) rfl (by kernel_rfl) (fun Kc hK => ?_)
   go_simp
   refine hK.out _ _ ⟨cell_put2 hHeld.1 (by omega) _ _, cell_put2 hHeld.2.1 (by omega) _ _, cell_put2 hHeld.2.2.1 (by omega) _ _, cell_put2 hHeld.2.2.2.1 (by omega) _ _, cell_put2 hHeld.2.2.2.2.1 (by omega) _ _, cell_put2 hHeld.2.2.2.2.2.1 (by omega) _ _, cell_put2 hHeld.2.2.2.2.2.2.1 (by omega) _ _, cell_put2 hHeld.2.2.2.2.2.2.2.1 (by omega) _ _, below_put2 hHeld.2.2.2.2.2.2.2.2 (by omega) _ _⟩ (fun hHeld => ?_)
   clear hK Kc
   have ⟨c_pma5_0, c_pma5_1, c_pma5_2, c_pma5_3⟩ : Bx ((((((((((wr.setCell ⟨pma0, 0, none⟩ (.int .i64 s11)).setCell ⟨pma0, 1, none⟩ (.slice d11 l11 c11)).setCell ⟨pma1, 0, none⟩ (.int .i64 s12)).setCell ⟨pma1, 1, none⟩ (.slice d12 l12 c12)).setCell ⟨pma2, 0, none⟩ (.int .i64 s13)).setCell ⟨pma2, 1, none⟩ (.slice d13 l13 c13)).setCell ⟨pma3, 0, none⟩ (.int .i64 s14)).setCell ⟨pma3, 1, none⟩ (.slice d14 l14 c14)).setCell ⟨pma4, 0, none⟩ (.int .i64 s15)).setCell ⟨pma4, 1, none⟩ (.slice d15 l15 c15)) pma5 (.int .i64 0) (.slice none 0 0) := ((((((((((y_pma5.put ne_0_5).put ne_0_5).put ne_1_5).put ne_1_5).put ne_2_5).put ne_2_5).put ne_3_5).put ne_3_5).put ne_4_5).put ne_4_5)
   refine take_call (i := 41) rfl (by kernel_rfl) (fun Kc hK => ?_)
   go_simp
   refine hK.out _ _ ⟨cell_put2 hHeld.1 (by omega) _ _, cell_put2 hHeld.2.1 (by omega) _ _, cell_put2 hHeld.2.2.1 (by omega) _ _, cell_put2 hHeld.2.2.2.1 (by omega) _ _, cell_put2 hHeld.2.2.2.2.1 (by omega) _ _, cell_put2 hHeld.2.2.2.2.2.1 (by omega) _ _, cell_put2 hHeld.2.2.2.2.2.2.1 (by omega) _ _, cell_put2 hHeld.2.2.2.2.2.2.2.1 (by omega) _ _, below_put2 hHeld.2.2.2.2.2.2.2.2 (by omega) _ _⟩ (fun hHeld => ?_)
   clear hK Kc
   refine wpAnyH_done (by kernel_rfl) ?_ _
   rw [HQQ.out]
   exact ⟨rfl, pma0, pma1, pma2, pma3, pma4, pma5, s11, d11, l11, c11, s12, d12, l12, c12, s13, d13, l13, c13, s14, d14, l14, c14, s15, d15, l15, c15, s16, d16, l16, c16, rfl, ((((((((((((r11.put n_r11_0_pma0 0 _).put n_r11_0_pma0 1 _).put n_r11_0_pma1 0 _).put n_r11_0_pma1 1 _).put n_r11_0_pma2 0 _).put n_r11_0_pma2 1 _).put n_r11_0_pma3 0 _).put n_r11_0_pma3 1 _).put n_r11_0_pma4 0 _).put n_r11_0_pma4 1 _).put n_r11_0_pma5 0 _).put n_r11_0_pma5 1 _), ((((((((((((r12.put n_r12_0_pma0 0 _).put n_r12_0_pma0 1 _).put n_r12_0_pma1 0 _).put n_r12_0_pma1 1 _).put n_r12_0_pma2 0 _).put n_r12_0_pma2 1 _).put n_r12_0_pma3 0 _).put n_r12_0_pma3 1 _).put n_r12_0_pma4 0 _).put n_r12_0_pma4 1 _).put n_r12_0_pma5 0 _).put n_r12_0_pma5 1 _), ((((((((((((r13.put n_r13_0_pma0 0 _).put n_r13_0_pma0 1 _).put n_r13_0_pma1 0 _).put n_r13_0_pma1 1 _).put n_r13_0_pma2 0 _).put n_r13_0_pma2 1 _).put n_r13_0_pma3 0 _).put n_r13_0_pma3 1 _).put n_r13_0_pma4 0 _).put n_r13_0_pma4 1 _).put n_r13_0_pma5 0 _).put n_r13_0_pma5 1 _), ((((((((((((r14.put n_r14_0_pma0 0 _).put n_r14_0_pma0 1 _).put n_r14_0_pma1 0 _).put n_r14_0_pma1 1 _).put n_r14_0_pma2 0 _).put n_r14_0_pma2 1 _).put n_r14_0_pma3 0 _).put n_r14_0_pma3 1 _).put n_r14_0_pma4 0 _).put n_r14_0_pma4 1 _).put n_r14_0_pma5 0 _).put n_r14_0_pma5 1 _), ((((((((((((r15.put n_r15_0_pma0 0 _).put n_r15_0_pma0 1 _).put n_r15_0_pma1 0 _).put n_r15_0_pma1 1 _).put n_r15_0_pma2 0 _).put n_r15_0_pma2 1 _).put n_r15_0_pma3 0 _).put n_r15_0_pma3 1 _).put n_r15_0_pma4 0 _).put n_r15_0_pma4 1 _).put n_r15_0_pma5 0 _).put n_r15_0_pma5 1 _), ((((((((((((r16.put n_r16_0_pma0 0 _).put n_r16_0_pma0 1 _).put n_r16_0_pma1 0 _).put n_r16_0_pma1 1 _).put n_r16_0_pma2 0 _).put n_r16_0_pma2 1 _).put n_r16_0_pma3 0 _).put n_r16_0_pma3 1 _).put n_r16_0_pma4 0 _).put n_r16_0_pma4 1 _).put n_r16_0_pma5 0 _).put n_r16_0_pma5 1 _), ((((((((((((x_a.put (by omega)).put (by omega)).put (by omega)).put (by omega)).put (by omega)).put (by omega)).put (by omega)).put (by omega)).put (by omega)).put (by omega)).put (by omega)).put (by omega)), ((((((((((((x_b.put (by omega)).put (by omega)).put (by omega)).put (by omega)).put (by omega)).put (by omega)).put (by omega)).put (by omega)).put (by omega)).put (by omega)).put (by omega)).put (by omega)), ((((((((((((x_c.put (by omega)).put (by omega)).put (by omega)).put (by omega)).put (by omega)).put (by omega)).put (by omega)).put (by omega)).put (by omega)).put (by omega)).put (by omega)).put (by omega)), ((((((((((((x_d.put (by omega)).put (by omega)).put (by omega)).put (by omega)).put (by omega)).put (by omega)).put (by omega)).put (by omega)).put (by omega)).put (by omega)).put (by omega)).put (by omega)), ((((((((((y_pma0.set.put (fun e => ne_0_1 e.symm)).put (fun e => ne_0_1 e.symm)).put (fun e => ne_0_2 e.symm)).put (fun e => ne_0_2 e.symm)).put (fun e => ne_0_3 e.symm)).put (fun e => ne_0_3 e.symm)).put (fun e => ne_0_4 e.symm)).put (fun e => ne_0_4 e.symm)).put (fun e => ne_0_5 e.symm)).put (fun e => ne_0_5 e.symm)), ((((((((((y_pma1.put ne_0_1).put ne_0_1).set.put (fun e => ne_1_2 e.symm)).put (fun e => ne_1_2 e.symm)).put (fun e => ne_1_3 e.symm)).put (fun e => ne_1_3 e.symm)).put (fun e => ne_1_4 e.symm)).put (fun e => ne_1_4 e.symm)).put (fun e => ne_1_5 e.symm)).put (fun e => ne_1_5 e.symm)), ((((((((((y_pma2.put ne_0_2).put ne_0_2).put ne_1_2).put ne_1_2).set.put (fun e => ne_2_3 e.symm)).put (fun e => ne_2_3 e.symm)).put (fun e => ne_2_4 e.symm)).put (fun e => ne_2_4 e.symm)).put (fun e => ne_2_5 e.symm)).put (fun e => ne_2_5 e.symm)), ((((((((((y_pma3.put ne_0_3).put ne_0_3).put ne_1_3).put ne_1_3).put ne_2_3).put ne_2_3).set.put (fun e => ne_3_4 e.symm)).put (fun e => ne_3_4 e.symm)).put (fun e => ne_3_5 e.symm)).put (fun e => ne_3_5 e.symm)), ((((((((((y_pma4.put ne_0_4).put ne_0_4).put ne_1_4).put ne_1_4).put ne_2_4).put ne_2_4).put ne_3_4).put ne_3_4).set.put (fun e => ne_4_5 e.symm)).put (fun e => ne_4_5 e.symm)), ((((((((((y_pma5.put ne_0_5).put ne_0_5).put ne_1_5).put ne_1_5).put ne_2_5).put ne_2_5).put ne_3_5).put ne_3_5).put ne_4_5).put ne_4_5).set, (below_put2 (below_put2 (below_put2 (below_put2 (below_put2 (below_put2 BB (by omega) _ _) (by omega) _ _) (by omega) _ _) (by omega) _ _) (by omega) _ _) (by omega) _ _), by have := BU.size; simp only [World.size_setCell]; omega, ⟨gpma0, by simp only [World.size_setCell]; omega⟩, ⟨gpma1, by simp only [World.size_setCell]; omega⟩, ⟨gpma2, by simp only [World.size_setCell]; omega⟩, ⟨gpma3, by simp only [World.size_setCell]; omega⟩, ⟨gpma4, by simp only [World.size_setCell]; omega⟩, ⟨gpma5, by simp only [World.size_setCell]; omega⟩⟩
  ·refine Or.inr ⟨f - 1, by omega, ?nema, ?opsma⟩
   case nema =>
    cases he0 : eD 0
    ·exact ready_ne (i := 30) (by decide) (by kernel_rfl)
    cases he1 : eD 1
    ·exact ready_ne (i := 31) (by decide) (by kernel_rfl)
    cases he2 : eD 2
    ·exact ready_ne (i := 32) (by decide) (by kernel_rfl)
    cases he3 : eD 3
    ·exact ready_ne (i := 33) (by decide) (by kernel_rfl)
    cases he4 : eD 4
    ·exact ready_ne (i := 34) (by decide) (by kernel_rfl)
    cases he5 : eD 5
    ·exact ready_ne (i := 35) (by decide) (by kernel_rfl)
    cases hb0 : bD 0
    ·exact ready_ne (i := 4) (by decide) (by kernel_rfl)
    cases hb1 : bD 1
    ·exact ready_ne (i := 9) (by decide) (by kernel_rfl)
    cases hb2 : bD 2
    ·exact ready_ne (i := 14) (by decide) (by kernel_rfl)
    cases hb3 : bD 3
    ·exact ready_ne (i := 19) (by decide) (by kernel_rfl)
    cases hb4 : bD 4
    ·exact ready_ne (i := 24) (by decide) (by kernel_rfl)
    cases hb5 : bD 5
    ·exact ready_ne (i := 29) (by decide) (by kernel_rfl)
    exact absurd ⟨hb5, he0, he1, he2, he3, he4, he5⟩ hall
   case opsma =>
    intro i hi
    obtain ⟨hlt, hnot, hdep⟩ := ready_at hi
    replace hlt : i < 42 := hlt
    obtain rfl | rfl | rfl | rfl | rfl | rfl | rfl | rfl | rfl | rfl | rfl | rfl | rfl | rfl | rfl | rfl | rfl | rfl | rfl | rfl | rfl | rfl | rfl | rfl | rfl | rfl | rfl | rfl | rfl | rfl | rfl | rfl | rfl | rfl | rfl | rfl | rfl | rfl | rfl | rfl | rfl | rfl : i = 0 ∨ i = 1 ∨ i = 2 ∨ i = 3 ∨ i = 4 ∨ i = 5 ∨ i = 6 ∨ i = 7 ∨ i = 8 ∨ i = 9 ∨ i = 10 ∨ i = 11 ∨ i = 12 ∨ i = 13 ∨ i = 14 ∨ i = 15 ∨ i = 16 ∨ i = 17 ∨ i = 18 ∨ i = 19 ∨ i = 20 ∨ i = 21 ∨ i = 22 ∨ i = 23 ∨ i = 24 ∨ i = 25 ∨ i = 26 ∨ i = 27 ∨ i = 28 ∨ i = 29 ∨ i = 30 ∨ i = 31 ∨ i = 32 ∨ i = 33 ∨ i = 34 ∨ i = 35 ∨ i = 36 ∨ i = 37 ∨ i = 38 ∨ i = 39 ∨ i = 40 ∨ i = 41 := by omega
    ·skip
     exact Bool.noConfusion (show true = false from hnot)
    ·skip
     exact Bool.noConfusion (show true = false from hnot)
    ·skip
     exact Bool.noConfusion (show true = false from hnot)
    ·skip
     exact Bool.noConfusion (show true = false from hnot)
    ·skip
     have hbj : bD 0 = false := hnot
     refine ⟨_, rfl, fun K' hK => ?_⟩
     go_simp
     (go_at_call 35; refine (rpDiff d1 a1 _ Rd1.out Ra1.out Ee1.out).mono ?_; rintro e' X ⟨s11, d11, l11, c11, rfl, r11, f11, bX⟩)
     have hm' := hm.call (SpR2_good e1 e2 e3 e4 e5 e6) 0 bX (.agg #[.int .i64 s11, .slice d11 l11 c11]) (fun w => RN w s11 d11 l11 c11 e1) (fun k => NA k d11 l11) ⟨_, _, _, _, rfl, rfl, rfl⟩ r11 (fun i hi => f11 (pD i) (hm.lt i hi) trivial)
     refine hK.out _ _ ⟨cell_on hm'.bel x_a.c0, cell_on hm'.bel x_a.c1, cell_on hm'.bel x_b.c0, cell_on hm'.bel x_b.c1, cell_on hm'.bel x_c.c0, cell_on hm'.bel x_c.c1, cell_on hm'.bel x_d.c0, cell_on hm'.bel x_d.c1, also BB hm'.bel⟩ ?_
     rw [HINV.out]
     exact ⟨upd bD 0 true, eD, pD, upd RD 0 (fun w => RN w s11 d11 l11 c11 e1), upd AD 0 (fun k => NA k d11 l11), upd uD 0 (.agg #[.int .i64 s11, .slice d11 l11 c11]), vD, fuel_SpR2_b0 hf hbj, rfl, rfl, fun _ => rfl, ch1, ch2, ch3, ch4, hm'⟩
    ·skip
     exact Bool.noConfusion (show true = false from hnot)
    ·skip
     exact Bool.noConfusion (show true = false from hnot)
    ·skip
     exact Bool.noConfusion (show true = false from hnot)
    ·skip
     exact Bool.noConfusion (show true = false from hnot)
    ·skip
     have hbj : bD 1 = false := hnot
     have hprev : bD 0 = true := hdep _ rfl 2 _ rfl rfl
     refine ⟨_, rfl, fun K' hK => ?_⟩
     go_simp
     (go_at_call 35; refine (rpDiff d2 a2 _ Rd2.out Ra2.out Ee2.out).mono ?_; rintro e' X ⟨s12, d12, l12, c12, rfl, r12, f12, bX⟩)
     have hm' := hm.call (SpR2_good e1 e2 e3 e4 e5 e6) 1 bX (.agg #[.int .i64 s12, .slice d12 l12 c12]) (fun w => RN w s12 d12 l12 c12 e2) (fun k => NA k d12 l12) ⟨_, _, _, _, rfl, rfl, rfl⟩ r12 (fun i hi => f12 (pD i) (hm.lt i hi) trivial)
     refine hK.out _ _ ⟨cell_on hm'.bel x_a.c0, cell_on hm'.bel x_a.c1, cell_on hm'.bel x_b.c0, cell_on hm'.bel x_b.c1, cell_on hm'.bel x_c.c0, cell_on hm'.bel x_c.c1, cell_on hm'.bel x_d.c0, cell_on hm'.bel x_d.c1, also BB hm'.bel⟩ ?_
     rw [HINV.out]
     exact ⟨upd bD 1 true, eD, pD, upd RD 1 (fun w => RN w s12 d12 l12 c12 e2), upd AD 1 (fun k => NA k d12 l12), upd uD 1 (.agg #[.int .i64 s12, .slice d12 l12 c12]), vD, fuel_SpR2_b1 hf hbj, rfl, rfl, fun _ => hprev, fun _ => rfl, ch2, ch3, ch4, hm'⟩
    ·skip
     exact Bool.noConfusion (show true = false from hnot)
    ·skip
     exact Bool.noConfusion (show true = false from hnot)
    ·skip
     exact Bool.noConfusion (show true = false from hnot)
    ·skip
     exact Bool.noConfusion (show true = false from hnot)
    ·skip
     have hbj : bD 2 = false := hnot
     have hprev : bD 1 = true := hdep _ rfl 2 _ rfl rfl
     have hq0 : bD 0 = true := ch0 hprev
     refine ⟨_, rfl, fun K' hK => ?_⟩
     go_simp
     (go_at_call 35; refine (rpDiff d1 b1 _ Rd1.out Rb1.out Ee3.out).mono ?_; rintro e' X ⟨s13, d13, l13, c13, rfl, r13, f13, bX⟩)
     have hm' := hm.call (SpR2_good e1 e2 e3 e4 e5 e6) 2 bX (.agg #[.int .i64 s13, .slice d13 l13 c13]) (fun w => RN w s13 d13 l13 c13 e3) (fun k => NA k d13 l13) ⟨_, _, _, _, rfl, rfl, rfl⟩ r13 (fun i hi => f13 (pD i) (hm.lt i hi) trivial)
     refine hK.out _ _ ⟨cell_on hm'.bel x_a.c0, cell_on hm'.bel x_a.c1, cell_on hm'.bel x_b.c0, cell_on hm'.bel x_b.c1, cell_on hm'.bel x_c.c0, cell_on hm'.bel x_c.c1, cell_on hm'.bel x_d.c0, cell_on hm'.bel x_d.c1, also BB hm'.bel⟩ ?_
     rw [HINV.out]
     exact ⟨upd bD 2 true, eD, pD, upd RD 2 (fun w => RN w s13 d13 l13 c13 e3), upd AD 2 (fun k => NA k d13 l13), upd uD 2 (.agg #[.int .i64 s13, .slice d13 l13 c13]), vD, fuel_SpR2_b2 hf hbj, rfl, rfl, ch0, fun _ => hprev, fun _ => rfl, ch3, ch4, hm'⟩
    ·skip
     exact Bool.noConfusion (show true = false from hnot)
    ·skip
     exact Bool.noConfusion (show true = false from hnot)
    ·skip
     exact Bool.noConfusion (show true = false from hnot)
    ·skip
     exact Bool.noConfusion (show true = false from hnot)
    ·skip
     have hbj : bD 3 = false := hnot
     have hprev : bD 2 = true := hdep _ rfl 2 _ rfl rfl
     have hq1 : bD 1 = true := ch1 hprev
     have hq0 : bD 0 = true := ch0 hq1
     refine ⟨_, rfl, fun K' hK => ?_⟩
     go_simp
     (go_at_call 35; refine (rpDiff d2 b2 _ Rd2.out Rb2.out Ee4.out).mono ?_; rintro e' X ⟨s14, d14, l14, c14, rfl, r14, f14, bX⟩)
     have hm' := hm.call (SpR2_good e1 e2 e3 e4 e5 e6) 3 bX (.agg #[.int .i64 s14, .slice d14 l14 c14]) (fun w => RN w s14 d14 l14 c14 e4) (fun k => NA k d14 l14) ⟨_, _, _, _, rfl, rfl, rfl⟩ r14 (fun i hi => f14 (pD i) (hm.lt i hi) trivial)
     refine hK.out _ _ ⟨cell_on hm'.bel x_a.c0, cell_on hm'.bel x_a.c1, cell_on hm'.bel x_b.c0, cell_on hm'.bel x_b.c1, cell_on hm'.bel x_c.c0, cell_on hm'.bel x_c.c1, cell_on hm'.bel x_d.c0, cell_on hm'.bel x_d.c1, also BB hm'.bel⟩ ?_
     rw [HINV.out]
     exact ⟨upd bD 3 true, eD, pD, upd RD 3 (fun w => RN w s14 d14 l14 c14 e4), upd AD 3 (fun k => NA k d14 l14), upd uD 3 (.agg #[.int .i64 s14, .slice d14 l14 c14]), vD, fuel_SpR2_b3 hf hbj, rfl, rfl, ch0, ch1, fun _ => hprev, fun _ => rfl, ch4, hm'⟩
    ·skip
     exact Bool.noConfusion (show true = false from hnot)
    ·skip
     exact Bool.noConfusion (show true = false from hnot)
    ·skip
     exact Bool.noConfusion (show true = false from hnot)
    ·skip
     exact Bool.noConfusion (show true = false from hnot)
    ·skip
     have hbj : bD 4 = false := hnot
     have hprev : bD 3 = true := hdep _ rfl 2 _ rfl rfl
     have hq2 : bD 2 = true := ch2 hprev
     have hq1 : bD 1 = true := ch1 hq2
     have hq0 : bD 0 = true := ch0 hq1
     refine ⟨_, rfl, fun K' hK => ?_⟩
     go_simp
     (go_at_call 35; refine (rpDiff d1 c1 _ Rd1.out Rc1.out Ee5.out).mono ?_; rintro e' X ⟨s15, d15, l15, c15, rfl, r15, f15, bX⟩)
     have hm' := hm.call (SpR2_good e1 e2 e3 e4 e5 e6) 4 bX (.agg #[.int .i64 s15, .slice d15 l15 c15]) (fun w => RN w s15 d15 l15 c15 e5) (fun k => NA k d15 l15) ⟨_, _, _, _, rfl, rfl, rfl⟩ r15 (fun i hi => f15 (pD i) (hm.lt i hi) trivial)
     refine hK.out _ _ ⟨cell_on hm'.bel x_a.c0, cell_on hm'.bel x_a.c1, cell_on hm'.bel x_b.c0, cell_on hm'.bel x_b.c1, cell_on hm'.bel x_c.c0, cell_on hm'.bel x_c.c1, cell_on hm'.bel x_d.c0, cell_on hm'.bel x_d.c1, also BB hm'.bel⟩ ?_
     rw [HINV.out]
     exact ⟨upd bD 4 true, eD, pD, upd RD 4 (fun w => RN w s15 d15 l15 c15 e5), upd AD 4 (fun k => NA k d15 l15), upd uD 4 (.agg #[.int .i64 s15, .slice d15 l15 c15]), vD, fuel_SpR2_b4 hf hbj, rfl, rfl, ch0, ch1, ch2, fun _ => hprev, fun _ => rfl, hm'⟩
    ·skip
     exact Bool.noConfusion (show true = false from hnot)
    ·skip
     exact Bool.noConfusion (show true = false from hnot)
    ·skip
     exact Bool.noConfusion (show true = false from hnot)
    ·skip
     exact Bool.noConfusion (show true = false from hnot)
    ·skip
     have hbj : bD 5 = false := hnot
     have hprev : bD 4 = true := hdep _ rfl 2 _ rfl rfl
     have hq3 : bD 3 = true := ch3 hprev
     have hq2 : bD 2 = true := ch2 hq3
     have hq1 : bD 1 = true := ch1 hq2
     have hq0 : bD 0 = true := ch0 hq1
     refine ⟨_, rfl, fun K' hK => ?_⟩
     go_simp
     (go_at_call 35; refine (rpDiff d2 c2 _ Rd2.out Rc2.out Ee6.out).mono ?_; rintro e' X ⟨s16, d16, l16, c16, rfl, r16, f16, bX⟩)
     have hm' := hm.call (SpR2_good e1 e2 e3 e4 e5 e6) 5 bX (.agg #[.int .i64 s16, .slice d16 l16 c16]) (fun w => RN w s16 d16 l16 c16 e6) (fun k => NA k d16 l16) ⟨_, _, _, _, rfl, rfl, rfl⟩ r16 (fun i hi => f16 (pD i) (hm.lt i hi) trivial)
     refine hK.out _ _ ⟨cell_on hm'.bel x_a.c0, cell_on hm'.bel x_a.c1, cell_on hm'.bel x_b.c0, cell_on hm'.bel x_b.c1, cell_on hm'.bel x_c.c0, cell_on hm'.bel x_c.c1, cell_on hm'.bel x_d.c0, cell_on hm'.bel x_d.c1, also BB hm'.bel⟩ ?_
     rw [HINV.out]
     exact ⟨upd bD 5 true, eD, pD, upd RD 5 (fun w => RN w s16 d16 l16 c16 e6), upd AD 5 (fun k => NA k d16 l16), upd uD 5 (.agg #[.int .i64 s16, .slice d16 l16 c16]), vD, fuel_SpR2_b5 hf hbj, rfl, rfl, ch0, ch1, ch2, ch3, fun _ => hprev, hm'⟩
    ·skip
     have hei : eD 0 = false := hnot
     refine ⟨_, rfl, fun K' hK => ?_⟩
     go_simp
     have hm' := hm.alloc (SpR2_good e1 e2 e3 e4 e5 e6) 0 56 hei
     refine hK.out _ _ ⟨cell_on hm'.bel x_a.c0, cell_on hm'.bel x_a.c1, cell_on hm'.bel x_b.c0, cell_on hm'.bel x_b.c1, cell_on hm'.bel x_c.c0, cell_on hm'.bel x_c.c1, cell_on hm'.bel x_d.c0, cell_on hm'.bel x_d.c1, also BB hm'.bel⟩ ?_
     rw [HINV.out]
     exact ⟨bD, upd eD 0 true, upd pD 0 wr.heap.size, RD, AD, uD, upd vD 0 (.pointer (some ⟨wr.heap.size, 0, none⟩)), fuel_SpR2_e0 hf hei, rfl, rfl, ch0, ch1, ch2, ch3, ch4, hm'⟩
    ·skip
     have hei : eD 1 = false := hnot
     refine ⟨_, rfl, fun K' hK => ?_⟩
     go_simp
     have hm' := hm.alloc (SpR2_good e1 e2 e3 e4 e5 e6) 1 56 hei
     refine hK.out _ _ ⟨cell_on hm'.bel x_a.c0, cell_on hm'.bel x_a.c1, cell_on hm'.bel x_b.c0, cell_on hm'.bel x_b.c1, cell_on hm'.bel x_c.c0, cell_on hm'.bel x_c.c1, cell_on hm'.bel x_d.c0, cell_on hm'.bel x_d.c1, also BB hm'.bel⟩ ?_
     rw [HINV.out]
     exact ⟨bD, upd eD 1 true, upd pD 1 wr.heap.size, RD, AD, uD, upd vD 1 (.pointer (some ⟨wr.heap.size, 0, none⟩)), fuel_SpR2_e1 hf hei, rfl, rfl, ch0, ch1, ch2, ch3, ch4, hm'⟩
    ·skip
     have hei : eD 2 = false := hnot
     refine ⟨_, rfl, fun K' hK => ?_⟩
     go_simp
     have hm' := hm.alloc (SpR2_good e1 e2 e3 e4 e5 e6) 2 56 hei
     refine hK.out _ _ ⟨cell_on hm'.bel x_a.c0, cell_on hm'.bel x_a.c1, cell_on hm'.bel x_b.c0, cell_on hm'.bel x_b.c1, cell_on hm'.bel x_c.c0, cell_on hm'.bel x_c.c1, cell_on hm'.bel x_d.c0, cell_on hm'.bel x_d.c1, also BB hm'.bel⟩ ?_
     rw [HINV.out]
     exact ⟨bD, upd eD 2 true, upd pD 2 wr.heap.size, RD, AD, uD, upd vD 2 (.pointer (some ⟨wr.heap.size, 0, none⟩)), fuel_SpR2_e2 hf hei, rfl, rfl, ch0, ch1, ch2, ch3, ch4, hm'⟩
    ·skip
     have hei : eD 3 = false := hnot
     refine ⟨_, rfl, fun K' hK => ?_⟩
     go_simp
     have hm' := hm.alloc (SpR2_good e1 e2 e3 e4 e5 e6) 3 56 hei
     refine hK.out _ _ ⟨cell_on hm'.bel x_a.c0, cell_on hm'.bel x_a.c1, cell_on hm'.bel x_b.c0, cell_on hm'.bel x_b.c1, cell_on hm'.bel x_c.c0, cell_on hm'.bel x_c.c1, cell_on hm'.bel x_d.c0, cell_on hm'.bel x_d.c1, also BB hm'.bel⟩ ?_
     rw [HINV.out]
     exact ⟨bD, upd eD 3 true, upd pD 3 wr.heap.size, RD, AD, uD, upd vD 3 (.pointer (some ⟨wr.heap.size, 0, none⟩)), fuel_SpR2_e3 hf hei, rfl, rfl, ch0, ch1, ch2, ch3, ch4, hm'⟩
    ·skip
     have hei : eD 4 = false := hnot
     refine ⟨_, rfl, fun K' hK => ?_⟩
     go_simp
     have hm' := hm.alloc (SpR2_good e1 e2 e3 e4 e5 e6) 4 56 hei
     refine hK.out _ _ ⟨cell_on hm'.bel x_a.c0, cell_on hm'.bel x_a.c1, cell_on hm'.bel x_b.c0, cell_on hm'.bel x_b.c1, cell_on hm'.bel x_c.c0, cell_on hm'.bel x_c.c1, cell_on hm'.bel x_d.c0, cell_on hm'.bel x_d.c1, also BB hm'.bel⟩ ?_
     rw [HINV.out]
     exact ⟨bD, upd eD 4 true, upd pD 4 wr.heap.size, RD, AD, uD, upd vD 4 (.pointer (some ⟨wr.heap.size, 0, none⟩)), fuel_SpR2_e4 hf hei, rfl, rfl, ch0, ch1, ch2, ch3, ch4, hm'⟩
    ·skip
     have hei : eD 5 = false := hnot
     refine ⟨_, rfl, fun K' hK => ?_⟩
     go_simp
     have hm' := hm.alloc (SpR2_good e1 e2 e3 e4 e5 e6) 5 56 hei
     refine hK.out _ _ ⟨cell_on hm'.bel x_a.c0, cell_on hm'.bel x_a.c1, cell_on hm'.bel x_b.c0, cell_on hm'.bel x_b.c1, cell_on hm'.bel x_c.c0, cell_on hm'.bel x_c.c1, cell_on hm'.bel x_d.c0, cell_on hm'.bel x_d.c1, also BB hm'.bel⟩ ?_
     rw [HINV.out]
     exact ⟨bD, upd eD 5 true, upd pD 5 wr.heap.size, RD, AD, uD, upd vD 5 (.pointer (some ⟨wr.heap.size, 0, none⟩)), fuel_SpR2_e5 hf hei, rfl, rfl, ch0, ch1, ch2, ch3, ch4, hm'⟩
    ·skip
     exact absurd ⟨hdep _ rfl 2 _ rfl rfl, hdep _ rfl 0 _ rfl rfl, hdep _ rfl 34 _ rfl rfl, hdep _ rfl 35 _ rfl rfl, hdep _ rfl 36 _ rfl rfl, hdep _ rfl 37 _ rfl rfl, hdep _ rfl 38 _ rfl rfl⟩ hall
    ·skip
     exact Bool.noConfusion (show false = true from hdep _ rfl 2 _ rfl rfl)
    ·skip
     exact Bool.noConfusion (show false = true from hdep _ rfl 2 _ rfl rfl)
    ·skip
     exact Bool.noConfusion (show false = true from hdep _ rfl 2 _ rfl rfl)
    ·skip
     exact Bool.noConfusion (show false = true from hdep _ rfl 2 _ rfl rfl)
    ·skip
     exact Bool.noConfusion (show false = true from hdep _ rfl 2 _ rfl rfl)
 rw [HQQ.out]
 rintro e act Zw3 ⟨rfl, pma0, pma1, pma2, pma3, pma4, pma5, s11, d11, l11, c11, s12, d12, l12, c12, s13, d13, l13, c13, s14, d14, l14, c14, s15, d15, l15, c15, s16, d16, l16, c16, rfl, r11, r12, r13, r14, r15, r16, x_a, x_b, x_c, x_d, x_e1, x_e2, x_e3, x_e4, x_e5, x_e6, BB, z_Zw3, z_Zw3_pma0, z_Zw3_pma1, z_Zw3_pma2, z_Zw3_pma3, z_Zw3_pma4, z_Zw3_pma5⟩
 clear HQQ QQ
 try dsimp only
 go_wp2
 obtain ⟨QQ, hQQ⟩ : ∃ QQ : Exit → Act → World → Prop, QQ = fun e act wr => e = .normal ∧ ∃ (pmb0 : Nat) (s21 : Int) (d21 : Option Addr) (l21 c21 : Nat) (s22 : Int) (d22 : Option Addr) (l22 c22 : Nat) (s23 : Int) (d23 : Option Addr) (l23 c23 : Nat) (s24 : Int) (d24 : Option Addr) (l24 c24 : Nat) (s25 : Int) (d25 : Option Addr) (l25 c25 : Nat), act = ⟨#[.agg #[.int .i64 a1, .int .i64 a2], .agg #[.int .i64 b1, .int .i64 b2], .agg #[.int .i64 c1, .int .i64 c2], .agg #[.int .i64 d1, .int .i64 d2], .pointer (some ⟨w.heap.size, 0, none⟩), .pointer (some ⟨w.heap.size + 1, 0, none⟩), .pointer (some ⟨w.heap.size + 1 + 1, 0, none⟩), .pointer (some ⟨w.heap.size + 1 + 1 + 1, 0, none⟩), .int .i64 0, .pointer (some ⟨pma0, 0, none⟩), .pointer (some ⟨pma1, 0, none⟩), .pointer (some ⟨pma2, 0, none⟩), .pointer (some ⟨pma3, 0, none⟩), .pointer (some ⟨pma4, 0, none⟩), .pointer (some ⟨pma5, 0, none⟩), .pointer (some ⟨pmb0, 0, none⟩), .agg #[.int .i64 a1, .int .i64 a2], .agg #[.int .i64 d1, .int .i64 d2], .bool true, .bool true, .agg #[.int .i64 b1, .int .i64 b2], .agg #[.int .i64 d1, .int .i64 d2], .bool true, .bool true, .bool true, .agg #[.int .i64 c1, .int .i64 c2], .agg #[.int .i64 d1, .int .i64 d2], .bool false, .bool false, undef, undef, undef, undef, undef, .pointer (some ⟨w.heap.size + 1 + 1 + 1, 0, none⟩), .int .i64 d1, .pointer (some ⟨w.heap.size, 0, none⟩), .int .i64 a1, .agg #[.int .i64 s11, .slice d11 l11 c11], .pointer (some ⟨w.heap.size + 1 + 1 + 1, 1, none⟩), .int .i64 d2, .pointer (some ⟨w.heap.size, 1, none⟩), .int .i64 a2, .agg #[.int .i64 s12, .slice d12 l12 c12], .pointer (some ⟨w.heap.size + 1 + 1 + 1, 0, none⟩), .int .i64 d1, .pointer (some ⟨w.heap.size + 1, 0, none⟩), .int .i64 b1, .agg #[.int .i64 s13, .slice d13 l13 c13], .pointer (some ⟨w.heap.size + 1 + 1 + 1, 1, none⟩), .int .i64 d2, .pointer (some ⟨w.heap.size + 1, 1, none⟩), .int .i64 b2, .agg #[.int .i64 s14, .slice d14 l14 c14], .pointer (some ⟨w.heap.size + 1 + 1 + 1, 0, none⟩), .int .i64 d1, .pointer (some ⟨w.heap.size + 1 + 1, 0, none⟩), .int .i64 c1, .agg #[.int .i64 s15, .slice d15 l15 c15], .pointer (some ⟨w.heap.size + 1 + 1 + 1, 1, none⟩), .int .i64 d2, .pointer (some ⟨w.heap.size + 1 + 1, 1, none⟩), .int .i64 c2, .agg #[.int .i64 s16, .slice d16 l16 c16], .agg #[.int .i64 a1, .int .i64 a2], .agg #[.int .i64 d1, .int .i64 d2], .agg #[.int .i64 s21, .slice d21 l21 c21], .agg #[.int .i64 s13, .slice d13 l13 c13], .agg #[.int .i64 s16, .slice d16 l16 c16], .agg #[.int .i64 s22, .slice d22 l22 c22], .agg #[.int .i64 s14, .slice d14 l14 c14], .agg #[.int .i64 s15, .slice d15 l15 c15], .agg #[.int .i64 s23, .slice d23 l23 c23], .agg #[.int .i64 s24, .slice d24 l24 c24], .agg #[.int .i64 s25, .slice d25 l25 c25], undef, undef, undef, undef, undef, undef, undef, undef, undef, undef, undef, undef, undef, undef, undef, undef, undef, undef, undef, undef, undef, undef, undef, undef, undef, undef, undef, undef], []⟩ ∧ RN wr s11 d11 l11 c11 e1 ∧ RN wr s12 d12 l12 c12 e2 ∧ RN wr s13 d13 l13 c13 e3 ∧ RN wr s14 d14 l14 c14 e4 ∧ RN wr s15 d15 l15 c15 e5 ∧ RN wr s16 d16 l16 c16 e6 ∧ RN wr s21 d21 l21 c21 D1 ∧ RN wr s22 d22 l22 c22 X1 ∧ RN wr s23 d23 l23 c23 Y1 ∧ RN wr s24 d24 l24 c24 C1 ∧ RN wr s25 d25 l25 c25 M1 ∧ Bx wr (w.heap.size) (.int .i64 a1) (.int .i64 a2) ∧ Bx wr (w.heap.size + 1) (.int .i64 b1) (.int .i64 b2) ∧ Bx wr (w.heap.size + 1 + 1) (.int .i64 c1) (.int .i64 c2) ∧ Bx wr (w.heap.size + 1 + 1 + 1) (.int .i64 d1) (.int .i64 d2) ∧ Bx wr (pma0) (.int .i64 s11) (.slice d11 l11 c11) ∧ Bx wr (pma1) (.int .i64 s12) (.slice d12 l12 c12) ∧ Bx wr (pma2) (.int .i64 s13) (.slice d13 l13 c13) ∧ Bx wr (pma3) (.int .i64 s14) (.slice d14 l14 c14) ∧ Bx wr (pma4) (.int .i64 s15) (.slice d15 l15 c15) ∧ Bx wr (pma5) (.int .i64 s16) (.slice d16 l16 c16) ∧ Bx wr pmb0 (.int .i64 s25) (.slice d25 l25 c25) ∧ Below w.heap.size w wr ∧ Zw3.heap.size ≤ wr.heap.size ∧ (Zw3.heap.size ≤ pmb0 ∧ pmb0 < wr.heap.size) ∧ NA pmb0 d11 l11 ∧ NA pmb0 d12 l12 ∧ NA pmb0 d13 l13 ∧ NA pmb0 d14 l14 ∧ NA pmb0 d15 l15 ∧ NA pmb0 d16 l16 ∧ NA pmb0 d21 l21 ∧ NA pmb0 d22 l22 ∧ NA pmb0 d23 l23 ∧ NA pmb0 d24 l24 ∧ NA pmb0 d25 l25 := ⟨_, rfl⟩
 have HQQ : Hid _ := hQQ
 clear hQQ
 refine wp_mono (Q := QQ) ?_ ?_
 ·refine wp_region_held_drew (S := (fun w' => w'.cell? ⟨w.heap.size, 0, none⟩ = some (.int .i64 a1) ∧ w'.cell? ⟨w.heap.size, 1, none⟩ = some (.int .i64 a2) ∧ w'.cell? ⟨w.heap.size + 1 + 1 + 1, 0, none⟩ = some (.int .i64 d1) ∧ w'.cell? ⟨w.heap.size + 1 + 1 + 1, 1, none⟩ = some (.int .i64 d2) ∧ w'.cell? ⟨pma2, 0, none⟩ = some (.int .i64 s13) ∧ w'.cell? ⟨pma2, 1, none⟩ = some (.slice d13 l13 c13) ∧ w'.cell? ⟨pma5, 0, none⟩ = some (.int .i64 s16) ∧ w'.cell? ⟨pma5, 1, none⟩ = some (.slice d16 l16 c16) ∧ w'.cell? ⟨pma3, 0, none⟩ = some (.int .i64 s14) ∧ w'.cell? ⟨pma3, 1, none⟩ = some (.slice d14 l14 c14) ∧ w'.cell? ⟨pma4, 0, none⟩ = some (.int .i64 s15) ∧ w'.cell? ⟨pma4, 1, none⟩ = some (.slice d15 l15 c15) ∧ Below w.heap.size w w')) (by kernel_rfl) ?_ (fun hHeld => ?_)
  ·exact ⟨x_a.c0, x_a.c1, x_d.c0, x_d.c1, x_e3.c0, x_e3.c1, x_e6.c0, x_e6.c1, x_e4.c0, x_e4.c1, x_e5.c0, x_e5.c1, BB.drew⟩
  refine tzq (i := 0) rfl (fun _ _ _ h => by rw [HQQ.out] at h; exact Exit.noConfusion h.1) ?_
  simp only [Act.put, ps1, ps2, ps3]
  refine tzq (i := 1) rfl (fun _ _ _ h => by rw [HQQ.out] at h; exact Exit.noConfusion h.1) ?_
  simp only [Act.put, ps1, ps2, ps3]
  refine tzq (i := 3) rfl (fun _ _ _ h => by rw [HQQ.out] at h; exact Exit.noConfusion h.1) ?_
  simp only [Act.put, ps1, ps2, ps3]
  refine tzq (i := 4) rfl (fun _ _ _ h => by rw [HQQ.out] at h; exact Exit.noConfusion h.1) ?_
  simp only [Act.put, ps1, ps2, ps3]
  refine tzq (i := 6) rfl (fun _ _ _ h => by rw [HQQ.out] at h; exact Exit.noConfusion h.1) ?_
  simp only [Act.put, ps1, ps2, ps3]
  refine tzq (i := 7) rfl (fun _ _ _ h => by rw [HQQ.out] at h; exact Exit.noConfusion h.1) ?_
  simp only [Act.put, ps1, ps2, ps3]
  clear hHeld
  obtain ⟨INV, hINV⟩ : ∃ INV : Nat → Array Bool → Act → World → Prop, INV = fun f L act wr => ∃ (bD eD : Nat → Bool) (pD : Nat → Nat) (RD : Nat → World → Prop) (AD : Nat → Nat → Prop) (uD vD : Nat → Value), f = 1 + (nb (bD 0) + nb (bD 1) + nb (bD 2) + nb (bD 3) + nb (bD 4) + nb (eD 0)) ∧ L = #[true, true, bD 0, true, true, bD 1, true, true, bD 2, bD 3, bD 4, eD 0, false] ∧ act = ⟨#[.agg #[.int .i64 a1, .int .i64 a2], .agg #[.int .i64 b1, .int .i64 b2], .agg #[.int .i64 c1, .int .i64 c2], .agg #[.int .i64 d1, .int .i64 d2], .pointer (some ⟨w.heap.size, 0, none⟩), .pointer (some ⟨w.heap.size + 1, 0, none⟩), .pointer (some ⟨w.heap.size + 1 + 1, 0, none⟩), .pointer (some ⟨w.heap.size + 1 + 1 + 1, 0, none⟩), .int .i64 0, .pointer (some ⟨pma0, 0, none⟩), .pointer (some ⟨pma1, 0, none⟩), .pointer (some ⟨pma2, 0, none⟩), .pointer (some ⟨pma3, 0, none⟩), .pointer (some ⟨pma4, 0, none⟩), .pointer (some ⟨pma5, 0, none⟩), vD 0, .agg #[.int .i64 a1, .int .i64 a2], .agg #[.int .i64 d1, .int .i64 d2], .bool true, .bool true, .agg #[.int .i64 b1, .int .i64 b2], .agg #[.int .i64 d1, .int .i64 d2], .bool true, .bool true, .bool true, .agg #[.int .i64 c1, .int .i64 c2], .agg #[.int .i64 d1, .int .i64 d2], .bool false, .bool false, undef, undef, undef, undef, undef, .pointer (some ⟨w.heap.size + 1 + 1 + 1, 0, none⟩), .int .i64 d1, .pointer (some ⟨w.heap.size, 0, none⟩), .int .i64 a1, .agg #[.int .i64 s11, .slice d11 l11 c11], .pointer (some ⟨w.heap.size + 1 + 1 + 1, 1, none⟩), .int .i64 d2, .pointer (some ⟨w.heap.size, 1, none⟩), .int .i64 a2, .agg #[.int .i64 s12, .slice d12 l12 c12], .pointer (some ⟨w.heap.size + 1 + 1 + 1, 0, none⟩), .int .i64 d1, .pointer (some ⟨w.heap.size + 1, 0, none⟩), .int .i64 b1, .agg #[.int .i64 s13, .slice d13 l13 c13], .pointer (some ⟨w.heap.size + 1 + 1 + 1, 1, none⟩), .int .i64 d2, .pointer (some ⟨w.heap.size + 1, 1, none⟩), .int .i64 b2, .agg #[.int .i64 s14, .slice d14 l14 c14], .pointer (some ⟨w.heap.size + 1 + 1 + 1, 0, none⟩), .int .i64 d1, .pointer (some ⟨w.heap.size + 1 + 1, 0, none⟩), .int .i64 c1, .agg #[.int .i64 s15, .slice d15 l15 c15], .pointer (some ⟨w.heap.size + 1 + 1 + 1, 1, none⟩), .int .i64 d2, .pointer (some ⟨w.heap.size + 1 + 1, 1, none⟩), .int .i64 c2, .agg #[.int .i64 s16, .slice d16 l16 c16], .agg #[.int .i64 a1, .int .i64 a2], .agg #[.int .i64 d1, .int .i64 d2], uD 0, .agg #[.int .i64 s13, .slice d13 l13 c13], .agg #[.int .i64 s16, .slice d16 l16 c16], uD 1, .agg #[.int .i64 s14, .slice d14 l14 c14], .agg #[.int .i64 s15, .slice d15 l15 c15], uD 2, uD 3, uD 4, undef, undef, undef, undef, undef, undef, undef, undef, undef, undef, undef, undef, undef, undef, undef, undef, undef, undef, undef, undef, undef, undef, undef, undef, undef, undef, undef, undef], []⟩ ∧ (bD 1 = true → bD 0 = true) ∧ (bD 2 = true → bD 1 = true) ∧ (bD 3 = true → bD 2 = true) ∧ (bD 4 = true → bD 3 = true) ∧ Mk Zw3 SpS2Z (SpS2 C1 D1 M1 X1 Y1) bD eD pD RD AD uD vD wr := ⟨_, rfl⟩
  have HINV : Hid _ := hINV
  clear hINV
  refine phase INV ?stepmb _ _ _ _ ?initmb
  case initmb => rw [HINV.out]; exact ⟨fun _ => false, fun _ => false, fun _ => 0, fun _ _ => True, fun _ _ => True, fun _ => undef, fun _ => undef, rfl, rfl, rfl, fun h => Bool.noConfusion h, fun h => Bool.noConfusion h, fun h => Bool.noConfusion h, fun h => Bool.noConfusion h, Mk.start _ _ _ (Below.refl _ _).drew⟩
  intro f L act wr hinv
  rw [HINV.out] at hinv
  obtain ⟨bD, eD, pD, RD, AD, uD, vD, hf, rfl, rfl, ch0, ch1, ch2, ch3, hm⟩ := hinv
  by_cases hall : bD 4 = true ∧ eD 0 = true
  ·refine Or.inl ?_
   obtain ⟨hb4, he0⟩ := hall
   have hb3 := ch3 hb4
   have hb2 := ch2 hb3
   have hb1 := ch1 hb2
   have hb0 := ch0 hb1
   simp only [hb0, hb1, hb2, hb3, hb4, he0, nb] at hf
   subst hf
   rw [hb0, hb1, hb2, hb3, hb4, he0, hm.ptr 0 he0]
   obtain ⟨s21, d21, l21, c21, hu0, hR0, hA0⟩ : RNIs _ _ _ _ := hm.spec 0 hb0
   rw [hu0]
   have r21 : RN wr s21 d21 l21 c21 D1 := by have := hm.res 0 hb0; rw [hR0] at this; exact this
   have n_r21_0_pmb0 : NA (pD 0) d21 l21 := by have := hm.ap 0 0 he0 hb0; rw [hA0] at this; exact this
   obtain ⟨s22, d22, l22, c22, hu1, hR1, hA1⟩ : RNIs _ _ _ _ := hm.spec 1 hb1
   rw [hu1]
   have r22 : RN wr s22 d22 l22 c22 X1 := by have := hm.res 1 hb1; rw [hR1] at this; exact this
   have n_r22_0_pmb0 : NA (pD 0) d22 l22 := by have := hm.ap 0 1 he0 hb1; rw [hA1] at this; exact this
   obtain ⟨s23, d23, l23, c23, hu2, hR2, hA2⟩ : RNIs _ _ _ _ := hm.spec 2 hb2
   rw [hu2]
   have r23 : RN wr s23 d23 l23 c23 Y1 := by have := hm.res 2 hb2; rw [hR2] at this; exact this
   have n_r23_0_pmb0 : NA (pD 0) d23 l23 := by have := hm.ap 0 2 he0 hb2; rw [hA2] at this; exact this
   obtain ⟨s24, d24, l24, c24, hu3, hR3, hA3⟩ : RNIs _ _ _ _ := hm.spec 3 hb3
   rw [hu3]
   have r24 : RN wr s24 d24 l24 c24 C1 := by have := hm.res 3 hb3; rw [hR3] at this; exact this
   have n_r24_0_pmb0 : NA (pD 0) d24 l24 := by have := hm.ap 0 3 he0 hb3; rw [hA3] at this; exact this
   obtain ⟨s25, d25, l25, c25, hu4, hR4, hA4⟩ : RNIs _ _ _ _ := hm.spec 4 hb4
   rw [hu4]
   have r25 : RN wr s25 d25 l25 c25 M1 := by have := hm.res 4 hb4; rw [hR4] at this; exact this
   have n_r25_0_pmb0 : NA (pD 0) d25 l25 := by have := hm.ap 0 4 he0 hb4; rw [hA4] at this; exact this
   have y_pmb0 : Bx wr (pD 0) (.int .i64 0) (.slice none 0 0) := bx_row (hm.blk 0 he0)
   have gpmb0 := hm.old 0 he0
   have ltpmb0 := hm.lt 0 he0
   have BU := hm.bel
   have n_r11_0_pmb0 : NA (pD 0) d11 l11 := r11.hd.sl.na gpmb0
   replace r11 := r11.below BU
   have n_r12_0_pmb0 : NA (pD 0) d12 l12 := r12.hd.sl.na gpmb0
   replace r12 := r12.below BU
   have n_r13_0_pmb0 : NA (pD 0) d13 l13 := r13.hd.sl.na gpmb0
   replace r13 := r13.below BU
   have n_r14_0_pmb0 : NA (pD 0) d14 l14 := r14.hd.sl.na gpmb0
   replace r14 := r14.below BU
   have n_r15_0_pmb0 : NA (pD 0) d15 l15 := r15.hd.sl.na gpmb0
   replace r15 := r15.below BU
   have n_r16_0_pmb0 : NA (pD 0) d16 l16 := r16.hd.sl.na gpmb0
   replace r16 := r16.below BU
   replace x_a := x_a.on BU
   replace x_b := x_b.on BU
   replace x_c := x_c.on BU
   replace x_d := x_d.on BU
   replace x_e1 := x_e1.on BU
   replace x_e2 := x_e2.on BU
   replace x_e3 := x_e3.on BU
   replace x_e4 := x_e4.on BU
   replace x_e5 := x_e5.on BU
   replace x_e6 := x_e6.on BU
   replace BB := also BB BU
   have hHeld : ((fun w' => w'.cell? ⟨w.heap.size, 0, none⟩ = some (.int .i64 a1) ∧ w'.cell? ⟨w.heap.size, 1, none⟩ = some (.int .i64 a2) ∧ w'.cell? ⟨w.heap.size + 1 + 1 + 1, 0, none⟩ = some (.int .i64 d1) ∧ w'.cell? ⟨w.heap.size + 1 + 1 + 1, 1, none⟩ = some (.int .i64 d2) ∧ w'.cell? ⟨pma2, 0, none⟩ = some (.int .i64 s13) ∧ w'.cell? ⟨pma2, 1, none⟩ = some (.slice d13 l13 c13) ∧ w'.cell? ⟨pma5, 0, none⟩ = some (.int .i64 s16) ∧ w'.cell? ⟨pma5, 1, none⟩ = some (.slice d16 l16 c16) ∧ w'.cell? ⟨pma3, 0, none⟩ = some (.int .i64 s14) ∧ w'.cell? ⟨pma3, 1, none⟩ = some (.slice d14 l14 c14) ∧ w'.cell? ⟨pma4, 0, none⟩ = some (.int .i64 s15) ∧ w'.cell? ⟨pma4, 1, none⟩ = some (.slice d15 l15 c15) ∧ Below w.heap.size w w')) wr := ⟨x_a.c0, x_a.c1, x_d.c0, x_d.c1, x_e3.c0, x_e3.c1, x_e6.c0, x_e6.c1, x_e4.c0, x_e4.c1, x_e5.c0, x_e5.c1, BB⟩
   clear hm HINV INV ch0 ch1 ch2 ch3
   generalize pD 0 = pmb0 at *
   dsimp only at hHeld
   have ⟨c_pmb0_0, c_pmb0_1, c_pmb0_2, c_pmb0_3⟩ : Bx wr pmb0 (.int .i64 0) (.slice none 0 0) := y_pmb0
   refine take_call (i := 12) rfl (by kernel_rfl) (fun Kc hK => ?_)
   go_simp
   refine hK.out _ _ ⟨cell_put2 hHeld.1 (by omega) _ _, cell_put2 hHeld.2.1 (by omega) _ _, cell_put2 hHeld.2.2.1 (by omega) _ _, cell_put2 hHeld.2.2.2.1 (by omega) _ _, cell_put2 hHeld.2.2.2.2.1 (by omega) _ _, cell_put2 hHeld.2.2.2.2.2.1 (by omega) _ _, cell_put2 hHeld.2.2.2.2.2.2.1 (by omega) _ _, cell_put2 hHeld.2.2.2.2.2.2.2.1 (by omega) _ _, cell_put2 hHeld.2.2.2.2.2.2.2.2.1 (by omega) _ _, cell_put2 hHeld.2.2.2.2.2.2.2.2.2.1 (by omega) _ _, cell_put2 hHeld.2.2.2.2.2.2.2.2.2.2.1 (by omega) _ _, cell_put2 hHeld.2.2.2.2.2.2.2.2.2.2.2.1 (by omega) _ _, below_put2 hHeld.2.2.2.2.2.2.2.2.2.2.2.2 (by omega) _ _⟩ (fun hHeld => ?_)
   clear hK Kc
   refine wpAnyH_done (by kernel_rfl) ?_ _
   rw [HQQ.out]
   exact ⟨rfl, pmb0, s21, d21, l21, c21, s22, d22, l22, c22, s23, d23, l23, c23, s24, d24, l24, c24, s25, d25, l25, c25, rfl, ((r11.put n_r11_0_pmb0 0 _).put n_r11_0_pmb0 1 _), ((r12.put n_r12_0_pmb0 0 _).put n_r12_0_pmb0 1 _), ((r13.put n_r13_0_pmb0 0 _).put n_r13_0_pmb0 1 _), ((r14.put n_r14_0_pmb0 0 _).put n_r14_0_pmb0 1 _), ((r15.put n_r15_0_pmb0 0 _).put n_r15_0_pmb0 1 _), ((r16.put n_r16_0_pmb0 0 _).put n_r16_0_pmb0 1 _), ((r21.put n_r21_0_pmb0 0 _).put n_r21_0_pmb0 1 _), ((r22.put n_r22_0_pmb0 0 _).put n_r22_0_pmb0 1 _), ((r23.put n_r23_0_pmb0 0 _).put n_r23_0_pmb0 1 _), ((r24.put n_r24_0_pmb0 0 _).put n_r24_0_pmb0 1 _), ((r25.put n_r25_0_pmb0 0 _).put n_r25_0_pmb0 1 _), ((x_a.put (by omega)).put (by omega)), ((x_b.put (by omega)).put (by omega)), ((x_c.put (by omega)).put (by omega)), ((x_d.put (by omega)).put (by omega)), ((x_e1.put (by omega)).put (by omega)), ((x_e2.put (by omega)).put (by omega)), ((x_e3.put (by omega)).put (by omega)), ((x_e4.put (by omega)).put (by omega)), ((x_e5.put (by omega)).put (by omega)), ((x_e6.put (by omega)).put (by omega)), y_pmb0.set, (below_put2 BB (by omega) _ _), by have := BU.size; simp only [World.size_setCell]; omega, ⟨gpmb0, by simp only [World.size_setCell]; omega⟩, n_r11_0_pmb0, n_r12_0_pmb0, n_r13_0_pmb0, n_r14_0_pmb0, n_r15_0_pmb0, n_r16_0_pmb0, n_r21_0_pmb0, n_r22_0_pmb0, n_r23_0_pmb0, n_r24_0_pmb0, n_r25_0_pmb0⟩
  ·refine Or.inr ⟨f - 1, by omega, ?nemb, ?opsmb⟩
   case nemb =>
    cases he0 : eD 0
    ·exact ready_ne (i := 11) (by decide) (by kernel_rfl)
    cases hb0 : bD 0
    ·exact ready_ne (i := 2) (by decide) (by kernel_rfl)
    cases hb1 : bD 1
    ·exact ready_ne (i := 5) (by decide) (by kernel_rfl)
    cases hb2 : bD 2
    ·exact ready_ne (i := 8) (by decide) (by kernel_rfl)
    cases hb3 : bD 3
    ·exact ready_ne (i := 9) (by decide) (by kernel_rfl)
    cases hb4 : bD 4
    ·exact ready_ne (i := 10) (by decide) (by kernel_rfl)
    exact absurd ⟨hb4, he0⟩ hall
   case opsmb =>
    intro i hi
    obtain ⟨hlt, hnot, hdep⟩ := ready_at hi
    replace hlt : i < 13 := hlt
    obtain rfl | rfl | rfl | rfl | rfl | rfl | rfl | rfl | rfl | rfl | rfl | rfl | rfl : i = 0 ∨ i = 1 ∨ i = 2 ∨ i = 3 ∨ i = 4 ∨ i = 5 ∨ i = 6 ∨ i = 7 ∨ i = 8 ∨ i = 9 ∨ i = 10 ∨ i = 11 ∨ i = 12 := by omega
    ·skip
     exact Bool.noConfusion (show true = false from hnot)
    ·skip
     exact Bool.noConfusion (show true = false from hnot)
    ·skip
     have hbj : bD 0 = false := hnot
     refine ⟨_, rfl, fun K' hK => ?_⟩
     go_simp
     (go_at_call 37; refine (rpDist a1 a2 d1 d2 _ ha hd ED1.out).mono ?_; rintro e' X ⟨s21, d21, l21, c21, rfl, r21, f21, bX⟩)
     have hm' := hm.call (SpS2_good C1 D1 M1 X1 Y1) 0 bX (.agg #[.int .i64 s21, .slice d21 l21 c21]) (fun w => RN w s21 d21 l21 c21 D1) (fun k => NA k d21 l21) ⟨_, _, _, _, rfl, rfl, rfl⟩ r21 (fun i hi => f21 (pD i) (hm.lt i hi) trivial)
     refine hK.out _ _ ⟨cell_on hm'.bel x_a.c0, cell_on hm'.bel x_a.c1, cell_on hm'.bel x_d.c0, cell_on hm'.bel x_d.c1, cell_on hm'.bel x_e3.c0, cell_on hm'.bel x_e3.c1, cell_on hm'.bel x_e6.c0, cell_on hm'.bel x_e6.c1, cell_on hm'.bel x_e4.c0, cell_on hm'.bel x_e4.c1, cell_on hm'.bel x_e5.c0, cell_on hm'.bel x_e5.c1, also BB hm'.bel⟩ ?_
     rw [HINV.out]
     exact ⟨upd bD 0 true, eD, pD, upd RD 0 (fun w => RN w s21 d21 l21 c21 D1), upd AD 0 (fun k => NA k d21 l21), upd uD 0 (.agg #[.int .i64 s21, .slice d21 l21 c21]), vD, fuel_SpS2_b0 hf hbj, rfl, rfl, fun _ => rfl, ch1, ch2, ch3, hm'⟩
    ·skip
     exact Bool.noConfusion (show true = false from hnot)
    ·skip
     exact Bool.noConfusion (show true = false from hnot)
    ·skip
     have hbj : bD 1 = false := hnot
     have hprev : bD 0 = true := hdep _ rfl 2 _ rfl rfl
     refine ⟨_, rfl, fun K' hK => ?_⟩
     have r13 := r13.below hm.bel
     have r16 := r16.below hm.bel
     go_simp
     (go_at_call 36; refine (rwMul s13 s16 d13 d16 l13 c13 l16 c16 e3 e6 X1 _ r13 r16 Fe3.out Fe6.out EX1.out).mono ?_; rintro e' X ⟨s22, d22, l22, c22, rfl, r22, f22, bX⟩)
     have hm' := hm.call (SpS2_good C1 D1 M1 X1 Y1) 1 bX (.agg #[.int .i64 s22, .slice d22 l22 c22]) (fun w => RN w s22 d22 l22 c22 X1) (fun k => NA k d22 l22) ⟨_, _, _, _, rfl, rfl, rfl⟩ r22 (fun i hi => f22 (pD i) (hm.lt i hi) trivial)
     refine hK.out _ _ ⟨cell_on hm'.bel x_a.c0, cell_on hm'.bel x_a.c1, cell_on hm'.bel x_d.c0, cell_on hm'.bel x_d.c1, cell_on hm'.bel x_e3.c0, cell_on hm'.bel x_e3.c1, cell_on hm'.bel x_e6.c0, cell_on hm'.bel x_e6.c1, cell_on hm'.bel x_e4.c0, cell_on hm'.bel x_e4.c1, cell_on hm'.bel x_e5.c0, cell_on hm'.bel x_e5.c1, also BB hm'.bel⟩ ?_
     rw [HINV.out]
     exact ⟨upd bD 1 true, eD, pD, upd RD 1 (fun w => RN w s22 d22 l22 c22 X1), upd AD 1 (fun k => NA k d22 l22), upd uD 1 (.agg #[.int .i64 s22, .slice d22 l22 c22]), vD, fuel_SpS2_b1 hf hbj, rfl, rfl, fun _ => hprev, fun _ => rfl, ch2, ch3, hm'⟩
    ·skip
     exact Bool.noConfusion (show true = false from hnot)
    ·skip
     exact Bool.noConfusion (show true = false from hnot)
    ·skip
     have hbj : bD 2 = false := hnot
     have hprev : bD 1 = true := hdep _ rfl 2 _ rfl rfl
     have hq0 : bD 0 = true := ch0 hprev
     refine ⟨_, rfl, fun K' hK => ?_⟩
     have r14 := r14.below hm.bel
     have r15 := r15.below hm.bel
     go_simp
     (go_at_call 36; refine (rwMul s14 s15 d14 d15 l14 c14 l15 c15 e4 e5 Y1 _ r14 r15 Fe4.out Fe5.out EY1.out).mono ?_; rintro e' X ⟨s23, d23, l23, c23, rfl, r23, f23, bX⟩)
     have hm' := hm.call (SpS2_good C1 D1 M1 X1 Y1) 2 bX (.agg #[.int .i64 s23, .slice d23 l23 c23]) (fun w => RN w s23 d23 l23 c23 Y1) (fun k => NA k d23 l23) ⟨_, _, _, _, rfl, rfl, rfl⟩ r23 (fun i hi => f23 (pD i) (hm.lt i hi) trivial)
     refine hK.out _ _ ⟨cell_on hm'.bel x_a.c0, cell_on hm'.bel x_a.c1, cell_on hm'.bel x_d.c0, cell_on hm'.bel x_d.c1, cell_on hm'.bel x_e3.c0, cell_on hm'.bel x_e3.c1, cell_on hm'.bel x_e6.c0, cell_on hm'.bel x_e6.c1, cell_on hm'.bel x_e4.c0, cell_on hm'.bel x_e4.c1, cell_on hm'.bel x_e5.c0, cell_on hm'.bel x_e5.c1, also BB hm'.bel⟩ ?_
     rw [HINV.out]
     exact ⟨upd bD 2 true, eD, pD, upd RD 2 (fun w => RN w s23 d23 l23 c23 Y1), upd AD 2 (fun k => NA k d23 l23), upd uD 2 (.agg #[.int .i64 s23, .slice d23 l23 c23]), vD, fuel_SpS2_b2 hf hbj, rfl, rfl, ch0, fun _ => hprev, fun _ => rfl, ch3, hm'⟩
    ·skip
     have hbj : bD 3 = false := hnot
     have hprev : bD 2 = true := hdep _ rfl 2 _ rfl rfl
     have hq1 : bD 1 = true := ch1 hprev
     have hq0 : bD 0 = true := ch0 hq1
     refine ⟨_, rfl, fun K' hK => ?_⟩
     obtain ⟨s22, d22, l22, c22, hu1, hR1, hA1⟩ : RNIs _ _ _ _ := hm.spec 1 hq1
     have r22 : RN wr s22 d22 l22 c22 X1 := by have := hm.res 1 hq1; rw [hR1] at this; exact this
     rw [hu1]
     obtain ⟨s23, d23, l23, c23, hu2, hR2, hA2⟩ : RNIs _ _ _ _ := hm.spec 2 hprev
     have r23 : RN wr s23 d23 l23 c23 Y1 := by have := hm.res 2 hprev; rw [hR2] at this; exact this
     rw [hu2]
     go_simp
     (go_at_call 38; refine (rwSub s22 s23 d22 d23 l22 c22 l23 c23 X1 Y1 C1 _ r22 r23 FX1.out FY1.out EC1.out).mono ?_; rintro e' X ⟨s24, d24, l24, c24, rfl, r24, f24, bX⟩)
     have na1 : ∀ i, eD i = true → NA (pD i) d22 l22 := fun i hi => by have := hm.ap i 1 hi hq1; rw [hA1] at this; exact this
     have na2 : ∀ i, eD i = true → NA (pD i) d23 l23 := fun i hi => by have := hm.ap i 2 hi hprev; rw [hA2] at this; exact this
     have hm' := hm.call (SpS2_good C1 D1 M1 X1 Y1) 3 bX (.agg #[.int .i64 s24, .slice d24 l24 c24]) (fun w => RN w s24 d24 l24 c24 C1) (fun k => NA k d24 l24) ⟨_, _, _, _, rfl, rfl, rfl⟩ r24 (fun i hi => f24 (pD i) (hm.lt i hi) ⟨na1 i hi, na2 i hi⟩)
     refine hK.out _ _ ⟨cell_on hm'.bel x_a.c0, cell_on hm'.bel x_a.c1, cell_on hm'.bel x_d.c0, cell_on hm'.bel x_d.c1, cell_on hm'.bel x_e3.c0, cell_on hm'.bel x_e3.c1, cell_on hm'.bel x_e6.c0, cell_on hm'.bel x_e6.c1, cell_on hm'.bel x_e4.c0, cell_on hm'.bel x_e4.c1, cell_on hm'.bel x_e5.c0, cell_on hm'.bel x_e5.c1, also BB hm'.bel⟩ ?_
     rw [HINV.out]
     exact ⟨upd bD 3 true, eD, pD, upd RD 3 (fun w => RN w s24 d24 l24 c24 C1), upd AD 3 (fun k => NA k d24 l24), upd uD 3 (.agg #[.int .i64 s24, .slice d24 l24 c24]), vD, fuel_SpS2_b3 hf hbj, rfl, (by rw [show upd uD 3 (.agg #[.int .i64 s24, .slice d24 l24 c24]) 1 = .agg #[.int .i64 s22, .slice d22 l22 c22] from hu1, show upd uD 3 (.agg #[.int .i64 s24, .slice d24 l24 c24]) 2 = .agg #[.int .i64 s23, .slice d23 l23 c23] from hu2] <;> rfl), ch0, ch1, fun _ => hprev, fun _ => rfl, hm'⟩
    ·skip
     have hbj : bD 4 = false := hnot
     have hprev : bD 3 = true := hdep _ rfl 2 _ rfl rfl
     have hq2 : bD 2 = true := ch2 hprev
     have hq1 : bD 1 = true := ch1 hq2
     have hq0 : bD 0 = true := ch0 hq1
     refine ⟨_, rfl, fun K' hK => ?_⟩
     obtain ⟨s21, d21, l21, c21, hu0, hR0, hA0⟩ : RNIs _ _ _ _ := hm.spec 0 hq0
     have r21 : RN wr s21 d21 l21 c21 D1 := by have := hm.res 0 hq0; rw [hR0] at this; exact this
     rw [hu0]
     obtain ⟨s24, d24, l24, c24, hu3, hR3, hA3⟩ : RNIs _ _ _ _ := hm.spec 3 hprev
     have r24 : RN wr s24 d24 l24 c24 C1 := by have := hm.res 3 hprev; rw [hR3] at this; exact this
     rw [hu3]
     go_simp
     (go_at_call 36; refine (rwMul s21 s24 d21 d24 l21 c21 l24 c24 D1 C1 M1 _ r21 r24 FD1.out FC1.out EM1.out).mono ?_; rintro e' X ⟨s25, d25, l25, c25, rfl, r25, f25, bX⟩)
     have na0 : ∀ i, eD i = true → NA (pD i) d21 l21 := fun i hi => by have := hm.ap i 0 hi hq0; rw [hA0] at this; exact this
     have na3 : ∀ i, eD i = true → NA (pD i) d24 l24 := fun i hi => by have := hm.ap i 3 hi hprev; rw [hA3] at this; exact this
     have hm' := hm.call (SpS2_good C1 D1 M1 X1 Y1) 4 bX (.agg #[.int .i64 s25, .slice d25 l25 c25]) (fun w => RN w s25 d25 l25 c25 M1) (fun k => NA k d25 l25) ⟨_, _, _, _, rfl, rfl, rfl⟩ r25 (fun i hi => f25 (pD i) (hm.lt i hi) trivial)
     refine hK.out _ _ ⟨cell_on hm'.bel x_a.c0, cell_on hm'.bel x_a.c1, cell_on hm'.bel x_d.c0, cell_on hm'.bel x_d.c1, cell_on hm'.bel x_e3.c0, cell_on hm'.bel x_e3.c1, cell_on hm'.bel x_e6.c0, cell_on hm'.bel x_e6.c1, cell_on hm'.bel x_e4.c0, cell_on hm'.bel x_e4.c1, cell_on hm'.bel x_e5.c0, cell_on hm'.bel x_e5.c1, also BB hm'.bel⟩ ?_
     rw [HINV.out]
     exact ⟨upd bD 4 true, eD, pD, upd RD 4 (fun w => RN w s25 d25 l25 c25 M1), upd AD 4 (fun k => NA k d25 l25), upd uD 4 (.agg #[.int .i64 s25, .slice d25 l25 c25]), vD, fuel_SpS2_b4 hf hbj, rfl, (by rw [show upd uD 4 (.agg #[.int .i64 s25, .slice d25 l25 c25]) 0 = .agg #[.int .i64 s21, .slice d21 l21 c21] from hu0, show upd uD 4 (.agg #[.int .i64 s25, .slice d25 l25 c25]) 3 = .agg #[.int .i64 s24, .slice d24 l24 c24] from hu3] <;> rfl), ch0, ch1, ch2, fun _ => hprev, hm'⟩
    ·skip
     have hei : eD 0 = false := hnot
     refine ⟨_, rfl, fun K' hK => ?_⟩
     go_simp
     have hm' := hm.alloc (SpS2_good C1 D1 M1 X1 Y1) 0 56 hei
     refine hK.out _ _ ⟨cell_on hm'.bel x_a.c0, cell_on hm'.bel x_a.c1, cell_on hm'.bel x_d.c0, cell_on hm'.bel x_d.c1, cell_on hm'.bel x_e3.c0, cell_on hm'.bel x_e3.c1, cell_on hm'.bel x_e6.c0, cell_on hm'.bel x_e6.c1, cell_on hm'.bel x_e4.c0, cell_on hm'.bel x_e4.c1, cell_on hm'.bel x_e5.c0, cell_on hm'.bel x_e5.c1, also BB hm'.bel⟩ ?_
     rw [HINV.out]
     exact ⟨bD, upd eD 0 true, upd pD 0 wr.heap.size, RD, AD, uD, upd vD 0 (.pointer (some ⟨wr.heap.size, 0, none⟩)), fuel_SpS2_e0 hf hei, rfl, rfl, ch0, ch1, ch2, ch3, hm'⟩
    ·skip
     exact absurd ⟨hdep _ rfl 1 _ rfl rfl, hdep _ rfl 0 _ rfl rfl⟩ hall
 rw [HQQ.out]
 rintro e act Zw4 ⟨rfl, pmb0, s21, d21, l21, c21, s22, d22, l22, c22, s23, d23, l23, c23, s24, d24, l24, c24, s25, d25, l25, c25, rfl, r11, r12, r13, r14, r15, r16, r21, r22, r23, r24, r25, x_a, x_b, x_c, x_d, x_e1, x_e2, x_e3, x_e4, x_e5, x_e6, x_m, BB, z_Zw4, z_Zw4_pmb0, n_r11_0_pmb0, n_r12_0_pmb0, n_r13_0_pmb0, n_r14_0_pmb0, n_r15_0_pmb0, n_r16_0_pmb0, n_r21_0_pmb0, n_r22_0_pmb0, n_r23_0_pmb0, n_r24_0_pmb0, n_r25_0_pmb0⟩
 clear HQQ QQ
 try dsimp only
 clear r21
 clear r22
 clear r23
 clear r24
 go_wp2
 have dd1 : Below Zw4.heap.size Zw4 Zw4.drew := (Below.refl _ _).drew
 have zdd1 := dd1.size
 replace BB := also BB dd1
 replace x_a := x_a.on dd1
 replace x_b := x_b.on dd1
 replace x_c := x_c.on dd1
 replace x_d := x_d.on dd1
 replace r11 := r11.below dd1
 replace r12 := r12.below dd1
 replace r13 := r13.below dd1
 replace r14 := r14.below dd1
 replace r15 := r15.below dd1
 replace r16 := r16.below dd1
 replace x_e1 := x_e1.on dd1
 replace x_e2 := x_e2.on dd1
 replace x_e3 := x_e3.on dd1
 replace x_e4 := x_e4.on dd1
 replace x_e5 := x_e5.on dd1
 replace x_e6 := x_e6.on dd1
 replace r25 := r25.below dd1
 replace x_m := x_m.on dd1
 refine regionL 13 (S := (fun w' => w'.cell? ⟨w.heap.size + 1, 0, none⟩ = some (.int .i64 b1) ∧ w'.cell? ⟨w.heap.size + 1, 1, none⟩ = some (.int .i64 b2) ∧ w'.cell? ⟨w.heap.size + 1 + 1 + 1, 0, none⟩ = some (.int .i64 d1) ∧ w'.cell? ⟨w.heap.size + 1 + 1 + 1, 1, none⟩ = some (.int .i64 d2) ∧ w'.cell? ⟨pma0, 0, none⟩ = some (.int .i64 s11) ∧ w'.cell? ⟨pma0, 1, none⟩ = some (.slice d11 l11 c11) ∧ w'.cell? ⟨pma5, 0, none⟩ = some (.int .i64 s16) ∧ w'.cell? ⟨pma5, 1, none⟩ = some (.slice d16 l16 c16) ∧ w'.cell? ⟨pma1, 0, none⟩ = some (.int .i64 s12) ∧ w'.cell? ⟨pma1, 1, none⟩ = some (.slice d12 l12 c12) ∧ w'.cell? ⟨pma4, 0, none⟩ = some (.int .i64 s15) ∧ w'.cell? ⟨pma4, 1, none⟩ = some (.slice d15 l15 c15) ∧ w'.cell? ⟨pmb0, 0, none⟩ = some (.int .i64 s25) ∧ w'.cell? ⟨pmb0, 1, none⟩ = some (.slice d25 l25 c25) ∧ Below w.heap.size w w')) (by kernel_rfl) ?_ (fun hHeld => ?_)
 ·exact ⟨x_b.c0, x_b.c1, x_d.c0, x_d.c1, x_e1.c0, x_e1.c1, x_e6.c0, x_e6.c1, x_e2.c0, x_e2.c1, x_e5.c0, x_e5.c1, x_m.c0, x_m.c1, BB⟩
 refine tyL (i := 0) (v := ?vua0) rfl ?hyua0 ?_
 case hyua0 => (intro w hSw; (try dsimp only at hSw); go_simp <;> with_reducible rfl)
 simp only [Act.put, ps1, ps2, ps3]
 refine tyL (i := 1) (v := ?vua1) rfl ?hyua1 ?_
 case hyua1 => (intro w hSw; (try dsimp only at hSw); go_simp <;> with_reducible rfl)
 simp only [Act.put, ps1, ps2, ps3]
 refine tyL (i := 2) (v := ?vua2) rfl ?hyua2 ?_
 case hyua2 => (intro w hSw; (try dsimp only at hSw); go_simp <;> with_reducible rfl)
 simp only [Act.put, ps1, ps2, ps3]
 refine tyL (i := 4) (v := ?vua4) rfl ?hyua4 ?_
 case hyua4 => (intro w hSw; (try dsimp only at hSw); go_simp <;> with_reducible rfl)
 simp only [Act.put, ps1, ps2, ps3]
 refine tyL (i := 5) (v := ?vua5) rfl ?hyua5 ?_
 case hyua5 => (intro w hSw; (try dsimp only at hSw); go_simp <;> with_reducible rfl)
 simp only [Act.put, ps1, ps2, ps3]
 refine tyL (i := 7) (v := ?vua7) rfl ?hyua7 ?_
 case hyua7 => (intro w hSw; (try dsimp only at hSw); go_simp <;> with_reducible rfl)
 simp only [Act.put, ps1, ps2, ps3]
 refine tyL (i := 8) (v := ?vua8) rfl ?hyua8 ?_
 case hyua8 => (intro w hSw; (try dsimp only at hSw); go_simp <;> with_reducible rfl)
 simp only [Act.put, ps1, ps2, ps3]
 refine takeL_call (i := 3) rfl (by kernel_rfl) (fun Kc hK => ?_)
 go_simp
 (go_at_call 37; refine (rpDist b1 b2 d1 d2 _ hb hd ED2.out).mono ?_; rintro e uaa ⟨s31, d31, l31, c31, rfl, r31, f31, buaa⟩)
 refine hK.out _ _ ?_ (fun hHeld => ?_)
 ·exact ⟨cell_on buaa hHeld.1, cell_on buaa hHeld.2.1, cell_on buaa hHeld.2.2.1, cell_on buaa hHeld.2.2.2.1, cell_on buaa hHeld.2.2.2.2.1, cell_on buaa hHeld.2.2.2.2.2.1, cell_on buaa hHeld.2.2.2.2.2.2.1, cell_on buaa hHeld.2.2.2.2.2.2.2.1, cell_on buaa hHeld.2.2.2.2.2.2.2.2.1, cell_on buaa hHeld.2.2.2.2.2.2.2.2.2.1, cell_on buaa hHeld.2.2.2.2.2.2.2.2.2.2.1, cell_on buaa hHeld.2.2.2.2.2.2.2.2.2.2.2.1, cell_on buaa hHeld.2.2.2.2.2.2.2.2.2.2.2.2.1, cell_on buaa hHeld.2.2.2.2.2.2.2.2.2.2.2.2.2.1, also hHeld.2.2.2.2.2.2.2.2.2.2.2.2.2.2 buaa⟩
 clear hK Kc
 have zbuaa := buaa.size
 replace BB := also BB buaa
 replace x_a := x_a.on buaa
 replace x_b := x_b.on buaa
 replace x_c := x_c.on buaa
 replace x_d := x_d.on buaa
 replace r11 := r11.below buaa
 replace r12 := r12.below buaa
 replace r13 := r13.below buaa
 replace r14 := r14.below buaa
 replace r15 := r15.below buaa
 replace r16 := r16.below buaa
 replace x_e1 := x_e1.on buaa
 replace x_e2 := x_e2.on buaa
 replace x_e3 := x_e3.on buaa
 replace x_e4 := x_e4.on buaa
 replace x_e5 := x_e5.on buaa
 replace x_e6 := x_e6.on buaa
 replace r25 := r25.below buaa
 replace x_m := x_m.on buaa
 refine takeL_call (i := 6) rfl (by kernel_rfl) (fun Kc hK => ?_)
 go_simp
 (go_at_call 36; refine (rwMul s11 s16 d11 d16 l11 c11 l16 c16 e1 e6 X2 _ r11 r16 Fe1.out Fe6.out EX2.out).mono ?_; rintro e uab ⟨s32, d32, l32, c32, rfl, r32, f32, buab⟩)
 refine hK.out _ _ ?_ (fun hHeld => ?_)
 ·exact ⟨cell_on buab hHeld.1, cell_on buab hHeld.2.1, cell_on buab hHeld.2.2.1, cell_on buab hHeld.2.2.2.1, cell_on buab hHeld.2.2.2.2.1, cell_on buab hHeld.2.2.2.2.2.1, cell_on buab hHeld.2.2.2.2.2.2.1, cell_on buab hHeld.2.2.2.2.2.2.2.1, cell_on buab hHeld.2.2.2.2.2.2.2.2.1, cell_on buab hHeld.2.2.2.2.2.2.2.2.2.1, cell_on buab hHeld.2.2.2.2.2.2.2.2.2.2.1, cell_on buab hHeld.2.2.2.2.2.2.2.2.2.2.2.1, cell_on buab hHeld.2.2.2.2.2.2.2.2.2.2.2.2.1, cell_on buab hHeld.2.2.2.2.2.2.2.2.2.2.2.2.2.1, also hHeld.2.2.2.2.2.2.2.2.2.2.2.2.2.2 buab⟩
 clear hK Kc
 have zbuab := buab.size
 replace BB := also BB buab
 replace x_a := x_a.on buab
 replace x_b := x_b.on buab
 replace x_c := x_c.on buab
 replace x_d := x_d.on buab
 replace r11 := r11.below buab
 replace r12 := r12.below buab
 replace r13 := r13.below buab
 replace r14 := r14.below buab
 replace r15 := r15.below buab
 replace r16 := r16.below buab
 replace x_e1 := x_e1.on buab
 replace x_e2 := x_e2.on buab
 replace x_e3 := x_e3.on buab
 replace x_e4 := x_e4.on buab
 replace x_e5 := x_e5.on buab
 replace x_e6 := x_e6.on buab
 replace r25 := r25.below buab
 replace x_m := x_m.on buab
 replace r31 := r31.below buab
 refine takeL_call (i := 9) rfl (by kernel_rfl) (fun Kc hK => ?_)
 go_simp
 (go_at_call 36; refine (rwMul s12 s15 d12 d15 l12 c12 l15 c15 e2 e5 Y2 _ r12 r15 Fe2.out Fe5.out EY2.out).mono ?_; rintro e uac ⟨s33, d33, l33, c33, rfl, r33, f33, buac⟩)
 refine hK.out _ _ ?_ (fun hHeld => ?_)
 ·exact ⟨cell_on buac hHeld.1, cell_on buac hHeld.2.1, cell_on buac hHeld.2.2.1, cell_on buac hHeld.2.2.2.1, cell_on buac hHeld.2.2.2.2.1, cell_on buac hHeld.2.2.2.2.2.1, cell_on buac hHeld.2.2.2.2.2.2.1, cell_on buac hHeld.2.2.2.2.2.2.2.1, cell_on buac hHeld.2.2.2.2.2.2.2.2.1, cell_on buac hHeld.2.2.2.2.2.2.2.2.2.1, cell_on buac hHeld.2.2.2.2.2.2.2.2.2.2.1, cell_on buac hHeld.2.2.2.2.2.2.2.2.2.2.2.1, cell_on buac hHeld.2.2.2.2.2.2.2.2.2.2.2.2.1, cell_on buac hHeld.2.2.2.2.2.2.2.2.2.2.2.2.2.1, also hHeld.2.2.2.2.2.2.2.2.2.2.2.2.2.2 buac⟩
 clear hK Kc
 have zbuac := buac.size
 replace BB := also BB buac
 replace x_a := x_a.on buac
 replace x_b := x_b.on buac
 replace x_c := x_c.on buac
 replace x_d := x_d.on buac
 replace r11 := r11.below buac
 replace r12 := r12.below buac
 replace r13 := r13.below buac
 replace r14 := r14.below buac
 replace r15 := r15.below buac
 replace r16 := r16.below buac
 replace x_e1 := x_e1.on buac
 replace x_e2 := x_e2.on buac
 replace x_e3 := x_e3.on buac
 replace x_e4 := x_e4.on buac
 replace x_e5 := x_e5.on buac
 replace x_e6 := x_e6.on buac
 replace r25 := r25.below buac
 replace x_m := x_m.on buac
 replace r31 := r31.below buac
 replace r32 := r32.below buac
 refine takeL_call (i := 10) rfl (by kernel_rfl) (fun Kc hK => ?_)
 go_simp
 (go_at_call 38; refine (rwSub s32 s33 d32 d33 l32 c32 l33 c33 X2 Y2 C2 _ r32 r33 FX2.out FY2.out EC2.out).mono ?_; rintro e uad ⟨s34, d34, l34, c34, rfl, r34, f34, buad⟩)
 refine hK.out _ _ ?_ (fun hHeld => ?_)
 ·exact ⟨cell_on buad hHeld.1, cell_on buad hHeld.2.1, cell_on buad hHeld.2.2.1, cell_on buad hHeld.2.2.2.1, cell_on buad hHeld.2.2.2.2.1, cell_on buad hHeld.2.2.2.2.2.1, cell_on buad hHeld.2.2.2.2.2.2.1, cell_on buad hHeld.2.2.2.2.2.2.2.1, cell_on buad hHeld.2.2.2.2.2.2.2.2.1, cell_on buad hHeld.2.2.2.2.2.2.2.2.2.1, cell_on buad hHeld.2.2.2.2.2.2.2.2.2.2.1, cell_on buad hHeld.2.2.2.2.2.2.2.2.2.2.2.1, cell_on buad hHeld.2.2.2.2.2.2.2.2.2.2.2.2.1, cell_on buad hHeld.2.2.2.2.2.2.2.2.2.2.2.2.2.1, also hHeld.2.2.2.2.2.2.2.2.2.2.2.2.2.2 buad⟩
 clear hK Kc
 have zbuad := buad.size
 replace BB := also BB buad
 replace x_a := x_a.on buad
 replace x_b := x_b.on buad
 replace x_c := x_c.on buad
 replace x_d := x_d.on buad
 replace r11 := r11.below buad
 replace r12 := r12.below buad
 replace r13 := r13.below buad
 replace r14 := r14.below buad
 replace r15 := r15.below buad
 replace r16 := r16.below buad
 replace x_e1 := x_e1.on buad
 replace x_e2 := x_e2.on buad
 replace x_e3 := x_e3.on buad
 replace x_e4 := x_e4.on buad
 replace x_e5 := x_e5.on buad
 replace x_e6 := x_e6.on buad
 replace r25 := r25.below buad
 replace x_m := x_m.on buad
 replace r31 := r31.below buad
 replace r32 := r32.below buad
 replace r33 := r33.below buad
 refine takeL_call (i := 11) rfl (by kernel_rfl) (fun Kc hK => ?_)
 go_simp
 (go_at_call 36; refine (rwMul s31 s34 d31 d34 l31 c31 l34 c34 D2 C2 M2 _ r31 r34 FD2.out FC2.out EM2.out).mono ?_; rintro e uae ⟨s35, d35, l35, c35, rfl, r35, f35, buae⟩)
 refine hK.out _ _ ?_ (fun hHeld => ?_)
 ·exact ⟨cell_on buae hHeld.1, cell_on buae hHeld.2.1, cell_on buae hHeld.2.2.1, cell_on buae hHeld.2.2.2.1, cell_on buae hHeld.2.2.2.2.1, cell_on buae hHeld.2.2.2.2.2.1, cell_on buae hHeld.2.2.2.2.2.2.1, cell_on buae hHeld.2.2.2.2.2.2.2.1, cell_on buae hHeld.2.2.2.2.2.2.2.2.1, cell_on buae hHeld.2.2.2.2.2.2.2.2.2.1, cell_on buae hHeld.2.2.2.2.2.2.2.2.2.2.1, cell_on buae hHeld.2.2.2.2.2.2.2.2.2.2.2.1, cell_on buae hHeld.2.2.2.2.2.2.2.2.2.2.2.2.1, cell_on buae hHeld.2.2.2.2.2.2.2.2.2.2.2.2.2.1, also hHeld.2.2.2.2.2.2.2.2.2.2.2.2.2.2 buae⟩
 clear hK Kc
 have zbuae := buae.size
 replace BB := also BB buae
 replace x_a := x_a.on buae
 replace x_b := x_b.on buae
 replace x_c := x_c.on buae
 replace x_d := x_d.on buae
 replace r11 := r11.below buae
 replace r12 := r12.below buae
 replace r13 := r13.below buae
 replace r14 := r14.below buae
 replace r15 := r15.below buae
 replace r16 := r16.below buae
 replace x_e1 := x_e1.on buae
 replace x_e2 := x_e2.on buae
 replace x_e3 := x_e3.on buae
 replace x_e4 := x_e4.on buae
 replace x_e5 := x_e5.on buae
 replace x_e6 := x_e6.on buae
 replace r25 := r25.below buae
 replace x_m := x_m.on buae
 replace r31 := r31.below buae
 replace r32 := r32.below buae
 replace r33 := r33.below buae
 replace r34 := r34.below buae
 refine takeL_call (i := 12) rfl (by kernel_rfl) (fun Kc hK => ?_)
 go_simp
 (go_at_call 38; refine (rwSub s25 s35 d25 d35 l25 c25 l35 c35 M1 M2 S1 _ r25 r35 FM1.out FM2.out ES1.out).mono ?_; rintro e uaf ⟨s36, d36, l36, c36, rfl, r36, f36, buaf⟩)
 refine hK.out _ _ ?_ (fun hHeld => ?_)
 ·exact ⟨cell_on buaf hHeld.1, cell_on buaf hHeld.2.1, cell_on buaf hHeld.2.2.1, cell_on buaf hHeld.2.2.2.1, cell_on buaf hHeld.2.2.2.2.1, cell_on buaf hHeld.2.2.2.2.2.1, cell_on buaf hHeld.2.2.2.2.2.2.1, cell_on buaf hHeld.2.2.2.2.2.2.2.1, cell_on buaf hHeld.2.2.2.2.2.2.2.2.1, cell_on buaf hHeld.2.2.2.2.2.2.2.2.2.1, cell_on buaf hHeld.2.2.2.2.2.2.2.2.2.2.1, cell_on buaf hHeld.2.2.2.2.2.2.2.2.2.2.2.1, cell_on buaf hHeld.2.2.2.2.2.2.2.2.2.2.2.2.1, cell_on buaf hHeld.2.2.2.2.2.2.2.2.2.2.2.2.2.1, also hHeld.2.2.2.2.2.2.2.2.2.2.2.2.2.2 buaf⟩
 clear hK Kc
 have zbuaf := buaf.size
 replace BB := also BB buaf
 replace x_a := x_a.on buaf
 replace x_b := x_b.on buaf
 replace x_c := x_c.on buaf
 replace x_d := x_d.on buaf
 replace r11 := r11.below buaf
 replace r12 := r12.below buaf
 replace r13 := r13.below buaf
 replace r14 := r14.below buaf
 replace r15 := r15.below buaf
 replace r16 := r16.below buaf
 replace x_e1 := x_e1.on buaf
 replace x_e2 := x_e2.on buaf
 replace x_e3 := x_e3.on buaf
 replace x_e4 := x_e4.on buaf
 replace x_e5 := x_e5.on buaf
 replace x_e6 := x_e6.on buaf
 replace r25 := r25.below buaf
 replace x_m := x_m.on buaf
 replace r31 := r31.below buaf
 replace r32 := r32.below buaf
 replace r33 := r33.below buaf
 replace r34 := r34.below buaf
 replace r35 := r35.below buaf
 have ⟨x_m_0, x_m_1, x_m_2, x_m_3⟩ := x_m
 refine takeL_last rfl (by kernel_rfl) (fun Kc hK => ?_)
 go_simp
 refine hK.out _ _ ?_
 clear hK Kc
 refine anyL_done (by kernel_rfl) ?_ _
 have n_r36_0_pmb0 : NA pmb0 d36 l36 := f36 _ (by omega) ⟨n_r25_0_pmb0, f35 _ (by omega) trivial⟩
 clear x_m_0 x_m_1 x_m_2 x_m_3
 obtain ⟨Zw5, hZw5⟩ : ∃ Zw5, Zw5 = ((uaf.setCell ⟨pmb0, 0, none⟩ (.int .i64 s36)).setCell ⟨pmb0, 1, none⟩ (.slice d36 l36 c36)) := ⟨_, rfl⟩
 have zZw5 : Zw5.heap.size = uaf.heap.size := by rw [hZw5]; simp
 replace BB : Below w.heap.size w Zw5 := by rw [hZw5]; exact below_put2 BB (by omega) _ _
 replace x_a : Bx Zw5 (w.heap.size) (.int .i64 a1) (.int .i64 a2) := by rw [hZw5]; exact ((x_a.put (by omega)).put (by omega))
 replace x_b : Bx Zw5 (w.heap.size + 1) (.int .i64 b1) (.int .i64 b2) := by rw [hZw5]; exact ((x_b.put (by omega)).put (by omega))
 replace x_c : Bx Zw5 (w.heap.size + 1 + 1) (.int .i64 c1) (.int .i64 c2) := by rw [hZw5]; exact ((x_c.put (by omega)).put (by omega))
 replace x_d : Bx Zw5 (w.heap.size + 1 + 1 + 1) (.int .i64 d1) (.int .i64 d2) := by rw [hZw5]; exact ((x_d.put (by omega)).put (by omega))
 replace r11 := (by rw [hZw5]; exact r11.put2 n_r11_0_pmb0 _ _ : RN Zw5 s11 d11 l11 c11 e1)
 replace r12 := (by rw [hZw5]; exact r12.put2 n_r12_0_pmb0 _ _ : RN Zw5 s12 d12 l12 c12 e2)
 replace r13 := (by rw [hZw5]; exact r13.put2 n_r13_0_pmb0 _ _ : RN Zw5 s13 d13 l13 c13 e3)
 replace r14 := (by rw [hZw5]; exact r14.put2 n_r14_0_pmb0 _ _ : RN Zw5 s14 d14 l14 c14 e4)
 replace r15 := (by rw [hZw5]; exact r15.put2 n_r15_0_pmb0 _ _ : RN Zw5 s15 d15 l15 c15 e5)
 replace r16 := (by rw [hZw5]; exact r16.put2 n_r16_0_pmb0 _ _ : RN Zw5 s16 d16 l16 c16 e6)
 replace x_e1 : Bx Zw5 (pma0) (.int .i64 s11) (.slice d11 l11 c11) := by rw [hZw5]; exact ((x_e1.put (by omega)).put (by omega))
 replace x_e2 : Bx Zw5 (pma1) (.int .i64 s12) (.slice d12 l12 c12) := by rw [hZw5]; exact ((x_e2.put (by omega)).put (by omega))
 replace x_e3 : Bx Zw5 (pma2) (.int .i64 s13) (.slice d13 l13 c13) := by rw [hZw5]; exact ((x_e3.put (by omega)).put (by omega))
 replace x_e4 : Bx Zw5 (pma3) (.int .i64 s14) (.slice d14 l14 c14) := by rw [hZw5]; exact ((x_e4.put (by omega)).put (by omega))
 replace x_e5 : Bx Zw5 (pma4) (.int .i64 s15) (.slice d15 l15 c15) := by rw [hZw5]; exact ((x_e5.put (by omega)).put (by omega))
 replace x_e6 : Bx Zw5 (pma5) (.int .i64 s16) (.slice d16 l16 c16) := by rw [hZw5]; exact ((x_e6.put (by omega)).put (by omega))
 clear r25
 replace x_m : Bx Zw5 (pmb0) (.int .i64 s36) (.slice d36 l36 c36) := by rw [hZw5]; exact x_m.set
 clear r31
 clear r32
 clear r33
 clear r34
 clear r35
 replace r36 := (by rw [hZw5]; exact r36.put2 n_r36_0_pmb0 _ _ : RN Zw5 s36 d36 l36 c36 S1)
 rw [← hZw5]
 clear hZw5
 go_wp2
 have dd2 : Below Zw5.heap.size Zw5 Zw5.drew := (Below.refl _ _).drew
 have zdd2 := dd2.size
 replace BB := also BB dd2
 replace x_a := x_a.on dd2
 replace x_b := x_b.on dd2
 replace x_c := x_c.on dd2
 replace x_d := x_d.on dd2
 replace r11 := r11.below dd2
 replace r12 := r12.below dd2
 replace r13 := r13.below dd2
 replace r14 := r14.below dd2
 replace r15 := r15.below dd2
 replace r16 := r16.below dd2
 replace x_e1 := x_e1.on dd2
 replace x_e2 := x_e2.on dd2
 replace x_e3 := x_e3.on dd2
 replace x_e4 := x_e4.on dd2
 replace x_e5 := x_e5.on dd2
 replace x_e6 := x_e6.on dd2
 replace x_m := x_m.on dd2
 replace r36 := r36.below dd2
 refine regionL 13 (S := (fun w' => w'.cell? ⟨w.heap.size + 1 + 1, 0, none⟩ = some (.int .i64 c1) ∧ w'.cell? ⟨w.heap.size + 1 + 1, 1, none⟩ = some (.int .i64 c2) ∧ w'.cell? ⟨w.heap.size + 1 + 1 + 1, 0, none⟩ = some (.int .i64 d1) ∧ w'.cell? ⟨w.heap.size + 1 + 1 + 1, 1, none⟩ = some (.int .i64 d2) ∧ w'.cell? ⟨pma0, 0, none⟩ = some (.int .i64 s11) ∧ w'.cell? ⟨pma0, 1, none⟩ = some (.slice d11 l11 c11) ∧ w'.cell? ⟨pma3, 0, none⟩ = some (.int .i64 s14) ∧ w'.cell? ⟨pma3, 1, none⟩ = some (.slice d14 l14 c14) ∧ w'.cell? ⟨pma1, 0, none⟩ = some (.int .i64 s12) ∧ w'.cell? ⟨pma1, 1, none⟩ = some (.slice d12 l12 c12) ∧ w'.cell? ⟨pma2, 0, none⟩ = some (.int .i64 s13) ∧ w'.cell? ⟨pma2, 1, none⟩ = some (.slice d13 l13 c13) ∧ w'.cell? ⟨pmb0, 0, none⟩ = some (.int .i64 s36) ∧ w'.cell? ⟨pmb0, 1, none⟩ = some (.slice d36 l36 c36) ∧ Below w.heap.size w w')) (by kernel_rfl) ?_ (fun hHeld => ?_)
 ·exact ⟨x_c.c0, x_c.c1, x_d.c0, x_d.c1, x_e1.c0, x_e1.c1, x_e4.c0, x_e4.c1, x_e2.c0, x_e2.c1, x_e3.c0, x_e3.c1, x_m.c0, x_m.c1, BB⟩
 refine tyL (i := 0) (v := ?vub0) rfl ?hyub0 ?_
 case hyub0 => (intro w hSw; (try dsimp only at hSw); go_simp <;> with_reducible rfl)
 simp only [Act.put, ps1, ps2, ps3]
 refine tyL (i := 1) (v := ?vub1) rfl ?hyub1 ?_
 case hyub1 => (intro w hSw; (try dsimp only at hSw); go_simp <;> with_reducible rfl)
 simp only [Act.put, ps1, ps2, ps3]
 refine tyL (i := 2) (v := ?vub2) rfl ?hyub2 ?_
 case hyub2 => (intro w hSw; (try dsimp only at hSw); go_simp <;> with_reducible rfl)
 simp only [Act.put, ps1, ps2, ps3]
 refine tyL (i := 4) (v := ?vub4) rfl ?hyub4 ?_
 case hyub4 => (intro w hSw; (try dsimp only at hSw); go_simp <;> with_reducible rfl)
 simp only [Act.put, ps1, ps2, ps3]
 refine tyL (i := 5) (v := ?vub5) rfl ?hyub5 ?_
 case hyub5 => (intro w hSw; (try dsimp only at hSw); go_simp <;> with_reducible rfl)
 simp only [Act.put, ps1, ps2, ps3]
 refine tyL (i := 7) (v := ?vub7) rfl ?hyub7 ?_
 case hyub7 => (intro w hSw; (try dsimp only at hSw); go_simp <;> with_reducible rfl)
 simp only [Act.put, ps1, ps2, ps3]
 refine tyL (i := 8) (v := ?vub8) rfl ?hyub8 ?_
 case hyub8 => (intro w hSw; (try dsimp only at hSw); go_simp <;> with_reducible rfl)
 simp only [Act.put, ps1, ps2, ps3]
 refine takeL_call (i := 3) rfl (by kernel_rfl) (fun Kc hK => ?_)
 go_simp
 (go_at_call 37; refine (rpDist c1 c2 d1 d2 _ hc hd ED3.out).mono ?_; rintro e uba ⟨s41, d41, l41, c41, rfl, r41, f41, buba⟩)
 refine hK.out _ _ ?_ (fun hHeld => ?_)
 ·exact ⟨cell_on buba hHeld.1, cell_on buba hHeld.2.1, cell_on buba hHeld.2.2.1, cell_on buba hHeld.2.2.2.1, cell_on buba hHeld.2.2.2.2.1, cell_on buba hHeld.2.2.2.2.2.1, cell_on buba hHeld.2.2.2.2.2.2.1, cell_on buba hHeld.2.2.2.2.2.2.2.1, cell_on buba hHeld.2.2.2.2.2.2.2.2.1, cell_on buba hHeld.2.2.2.2.2.2.2.2.2.1, cell_on buba hHeld.2.2.2.2.2.2.2.2.2.2.1, cell_on buba hHeld.2.2.2.2.2.2.2.2.2.2.2.1, cell_on buba hHeld.2.2.2.2.2.2.2.2.2.2.2.2.1, cell_on buba hHeld.2.2.2.2.2.2.2.2.2.2.2.2.2.1, also hHeld.2.2.2.2.2.2.2.2.2.2.2.2.2.2 buba⟩
 clear hK Kc
 have zbuba := buba.size
 replace BB := also BB buba
 replace x_a := x_a.on buba
 replace x_b := x_b.on buba
 replace x_c := x_c.on buba
 replace x_d := x_d.on buba
 replace r11 := r11.below buba
 replace r12 := r12.below buba
 replace r13 := r13.below buba
 replace r14 := r14.below buba
 replace r15 := r15.below buba
 replace r16 := r16.below buba
 replace x_e1 := x_e1.on buba
 replace x_e2 := x_e2.on buba
 replace x_e3 := x_e3.on buba
 replace x_e4 := x_e4.on buba
 replace x_e5 := x_e5.on buba
 replace x_e6 := x_e6.on buba
 replace x_m := x_m.on buba
 replace r36 := r36.below buba
 refine takeL_call (i := 6) rfl (by kernel_rfl) (fun Kc hK => ?_)
 go_simp
 (go_at_call 36; refine (rwMul s11 s14 d11 d14 l11 c11 l14 c14 e1 e4 X3 _ r11 r14 Fe1.out Fe4.out EX3.out).mono ?_; rintro e ubb ⟨s42, d42, l42, c42, rfl, r42, f42, bubb⟩)
 refine hK.out _ _ ?_ (fun hHeld => ?_)
 ·exact ⟨cell_on bubb hHeld.1, cell_on bubb hHeld.2.1, cell_on bubb hHeld.2.2.1, cell_on bubb hHeld.2.2.2.1, cell_on bubb hHeld.2.2.2.2.1, cell_on bubb hHeld.2.2.2.2.2.1, cell_on bubb hHeld.2.2.2.2.2.2.1, cell_on bubb hHeld.2.2.2.2.2.2.2.1, cell_on bubb hHeld.2.2.2.2.2.2.2.2.1, cell_on bubb hHeld.2.2.2.2.2.2.2.2.2.1, cell_on bubb hHeld.2.2.2.2.2.2.2.2.2.2.1, cell_on bubb hHeld.2.2.2.2.2.2.2.2.2.2.2.1, cell_on bubb hHeld.2.2.2.2.2.2.2.2.2.2.2.2.1, cell_on bubb hHeld.2.2.2.2.2.2.2.2.2.2.2.2.2.1, also hHeld.2.2.2.2.2.2.2.2.2.2.2.2.2.2 bubb⟩
 clear hK Kc
 have zbubb := bubb.size
 replace BB := also BB bubb
 replace x_a := x_a.on bubb
 replace x_b := x_b.on bubb
 replace x_c := x_c.on bubb
 replace x_d := x_d.on bubb
 replace r11 := r11.below bubb
 replace r12 := r12.below bubb
 replace r13 := r13.below bubb
 replace r14 := r14.below bubb
 replace r15 := r15.below bubb
 replace r16 := r16.below bubb
 replace x_e1 := x_e1.on bubb
 replace x_e2 := x_e2.on bubb
 replace x_e3 := x_e3.on bubb
 replace x_e4 := x_e4.on bubb
 replace x_e5 := x_e5.on bubb
 replace x_e6 := x_e6.on bubb
 replace x_m := x_m.on bubb
 replace r36 := r36.below bubb
 replace r41 := r41.below bubb
 refine takeL_call (i := 9) rfl (by kernel_rfl) (fun Kc hK => ?_)
 go_simp
 (go_at_call 36; refine (rwMul s12 s13 d12 d13 l12 c12 l13 c13 e2 e3 Y3 _ r12 r13 Fe2.out Fe3.out EY3.out).mono ?_; rintro e ubc ⟨s43, d43, l43, c43, rfl, r43, f43, bubc⟩)
 refine hK.out _ _ ?_ (fun hHeld => ?_)
 ·exact ⟨cell_on bubc hHeld.1, cell_on bubc hHeld.2.1, cell_on bubc hHeld.2.2.1, cell_on bubc hHeld.2.2.2.1, cell_on bubc hHeld.2.2.2.2.1, cell_on bubc hHeld.2.2.2.2.2.1, cell_on bubc hHeld.2.2.2.2.2.2.1, cell_on bubc hHeld.2.2.2.2.2.2.2.1, cell_on bubc hHeld.2.2.2.2.2.2.2.2.1, cell_on bubc hHeld.2.2.2.2.2.2.2.2.2.1, cell_on bubc hHeld.2.2.2.2.2.2.2.2.2.2.1, cell_on bubc hHeld.2.2.2.2.2.2.2.2.2.2.2.1, cell_on bubc hHeld.2.2.2.2.2.2.2.2.2.2.2.2.1, cell_on bubc hHeld.2.2.2.2.2.2.2.2.2.2.2.2.2.1, also hHeld.2.2.2.2.2.2.2.2.2.2.2.2.2.2 bubc⟩
 clear hK Kc
 have zbubc := bubc.size
 replace BB := also BB bubc
 replace x_a := x_a.on bubc
 replace x_b := x_b.on bubc
 replace x_c := x_c.on bubc
 replace x_d := x_d.on bubc
 replace r11 := r11.below bubc
 replace r12 := r12.below bubc
 replace r13 := r13.below bubc
 replace r14 := r14.below bubc
 replace r15 := r15.below bubc
 replace r16 := r16.below bubc
 replace x_e1 := x_e1.on bubc
 replace x_e2 := x_e2.on bubc
 replace x_e3 := x_e3.on bubc
 replace x_e4 := x_e4.on bubc
 replace x_e5 := x_e5.on bubc
 replace x_e6 := x_e6.on bubc
 replace x_m := x_m.on bubc
 replace r36 := r36.below bubc
 replace r41 := r41.below bubc
 replace r42 := r42.below bubc
 refine takeL_call (i := 10) rfl (by kernel_rfl) (fun Kc hK => ?_)
 go_simp
 (go_at_call 38; refine (rwSub s42 s43 d42 d43 l42 c42 l43 c43 X3 Y3 C3 _ r42 r43 FX3.out FY3.out EC3.out).mono ?_; rintro e ubd ⟨s44, d44, l44, c44, rfl, r44, f44, bubd⟩)
 refine hK.out _ _ ?_ (fun hHeld => ?_)
 ·exact ⟨cell_on bubd hHeld.1, cell_on bubd hHeld.2.1, cell_on bubd hHeld.2.2.1, cell_on bubd hHeld.2.2.2.1, cell_on bubd hHeld.2.2.2.2.1, cell_on bubd hHeld.2.2.2.2.2.1, cell_on bubd hHeld.2.2.2.2.2.2.1, cell_on bubd hHeld.2.2.2.2.2.2.2.1, cell_on bubd hHeld.2.2.2.2.2.2.2.2.1, cell_on bubd hHeld.2.2.2.2.2.2.2.2.2.1, cell_on bubd hHeld.2.2.2.2.2.2.2.2.2.2.1, cell_on bubd hHeld.2.2.2.2.2.2.2.2.2.2.2.1, cell_on bubd hHeld.2.2.2.2.2.2.2.2.2.2.2.2.1, cell_on bubd hHeld.2.2.2.2.2.2.2.2.2.2.2.2.2.1, also hHeld.2.2.2.2.2.2.2.2.2.2.2.2.2.2 bubd⟩
 clear hK Kc
 have zbubd := bubd.size
 replace BB := also BB bubd
 replace x_a := x_a.on bubd
 replace x_b := x_b.on bubd
 replace x_c := x_c.on bubd
 replace x_d := x_d.on bubd
 replace r11 := r11.below bubd
 replace r12 := r12.below bubd
 replace r13 := r13.below bubd
 replace r14 := r14.below bubd
 replace r15 := r15.below bubd
 replace r16 := r16.below bubd
 replace x_e1 := x_e1.on bubd
 replace x_e2 := x_e2.on bubd
 replace x_e3 := x_e3.on bubd
 replace x_e4 := x_e4.on bubd
 replace x_e5 := x_e5.on bubd
 replace x_e6 := x_e6.on bubd
 replace x_m := x_m.on bubd
 replace r36 := r36.below bubd
 replace r41 := r41.below bubd
 replace r42 := r42.below bubd
 replace r43 := r43.below bubd
 refine takeL_call (i := 11) rfl (by kernel_rfl) (fun Kc hK => ?_)
 go_simp
 (go_at_call 36; refine (rwMul s41 s44 d41 d44 l41 c41 l44 c44 D3 C3 M3 _ r41 r44 FD3.out FC3.out EM3.out).mono ?_; rintro e ube ⟨s45, d45, l45, c45, rfl, r45, f45, bube⟩)
 refine hK.out _ _ ?_ (fun hHeld => ?_)
 ·exact ⟨cell_on bube hHeld.1, cell_on bube hHeld.2.1, cell_on bube hHeld.2.2.1, cell_on bube hHeld.2.2.2.1, cell_on bube hHeld.2.2.2.2.1, cell_on bube hHeld.2.2.2.2.2.1, cell_on bube hHeld.2.2.2.2.2.2.1, cell_on bube hHeld.2.2.2.2.2.2.2.1, cell_on bube hHeld.2.2.2.2.2.2.2.2.1, cell_on bube hHeld.2.2.2.2.2.2.2.2.2.1, cell_on bube hHeld.2.2.2.2.2.2.2.2.2.2.1, cell_on bube hHeld.2.2.2.2.2.2.2.2.2.2.2.1, cell_on bube hHeld.2.2.2.2.2.2.2.2.2.2.2.2.1, cell_on bube hHeld.2.2.2.2.2.2.2.2.2.2.2.2.2.1, also hHeld.2.2.2.2.2.2.2.2.2.2.2.2.2.2 bube⟩
 clear hK Kc
 have zbube := bube.size
 replace BB := also BB bube
 replace x_a := x_a.on bube
 replace x_b := x_b.on bube
 replace x_c := x_c.on bube
 replace x_d := x_d.on bube
 replace r11 := r11.below bube
 replace r12 := r12.below bube
 replace r13 := r13.below bube
 replace r14 := r14.below bube
 replace r15 := r15.below bube
 replace r16 := r16.below bube
 replace x_e1 := x_e1.on bube
 replace x_e2 := x_e2.on bube
 replace x_e3 := x_e3.on bube
 replace x_e4 := x_e4.on bube
 replace x_e5 := x_e5.on bube
 replace x_e6 := x_e6.on bube
 replace x_m := x_m.on bube
 replace r36 := r36.below bube
 replace r41 := r41.below bube
 replace r42 := r42.below bube
 replace r43 := r43.below bube
 replace r44 := r44.below bube
 refine takeL_call (i := 12) rfl (by kernel_rfl) (fun Kc hK => ?_)
 go_simp
 (go_at_call 39; refine (rwAdd s36 s45 d36 d45 l36 c36 l45 c45 S1 M3 S2 _ r36 r45 FS1.out FM3.out ES2.out).mono ?_; rintro e ubf ⟨s46, d46, l46, c46, rfl, r46, f46, bubf⟩)
 refine hK.out _ _ ?_ (fun hHeld => ?_)
 ·exact ⟨cell_on bubf hHeld.1, cell_on bubf hHeld.2.1, cell_on bubf hHeld.2.2.1, cell_on bubf hHeld.2.2.2.1, cell_on bubf hHeld.2.2.2.2.1, cell_on bubf hHeld.2.2.2.2.2.1, cell_on bubf hHeld.2.2.2.2.2.2.1, cell_on bubf hHeld.2.2.2.2.2.2.2.1, cell_on bubf hHeld.2.2.2.2.2.2.2.2.1, cell_on bubf hHeld.2.2.2.2.2.2.2.2.2.1, cell_on bubf hHeld.2.2.2.2.2.2.2.2.2.2.1, cell_on bubf hHeld.2.2.2.2.2.2.2.2.2.2.2.1, cell_on bubf hHeld.2.2.2.2.2.2.2.2.2.2.2.2.1, cell_on bubf hHeld.2.2.2.2.2.2.2.2.2.2.2.2.2.1, also hHeld.2.2.2.2.2.2.2.2.2.2.2.2.2.2 bubf⟩
 clear hK Kc
 have zbubf := bubf.size
 replace BB := also BB bubf
 replace x_a := x_a.on bubf
 replace x_b := x_b.on bubf
 replace x_c := x_c.on bubf
 replace x_d := x_d.on bubf
 replace r11 := r11.below bubf
 replace r12 := r12.below bubf
 replace r13 := r13.below bubf
 replace r14 := r14.below bubf
 replace r15 := r15.below bubf
 replace r16 := r16.below bubf
 replace x_e1 := x_e1.on bubf
 replace x_e2 := x_e2.on bubf
 replace x_e3 := x_e3.on bubf
 replace x_e4 := x_e4.on bubf
 replace x_e5 := x_e5.on bubf
 replace x_e6 := x_e6.on bubf
 replace x_m := x_m.on bubf
 replace r36 := r36.below bubf
 replace r41 := r41.below bubf
 replace r42 := r42.below bubf
 replace r43 := r43.below bubf
 replace r44 := r44.below bubf
 replace r45 := r45.below bubf
 have ⟨x_m_0, x_m_1, x_m_2, x_m_3⟩ := x_m
 refine takeL_last rfl (by kernel_rfl) (fun Kc hK => ?_)
 go_simp
 refine hK.out _ _ ?_
 clear hK Kc
 refine anyL_done (by kernel_rfl) ?_ _
 have hsg := r46.sg
 clear x_m_0 x_m_1 x_m_2 x_m_3
 obtain ⟨Zw6, hZw6⟩ : ∃ Zw6, Zw6 = ((ubf.setCell ⟨pmb0, 0, none⟩ (.int .i64 s46)).setCell ⟨pmb0, 1, none⟩ (.slice d46 l46 c46)) := ⟨_, rfl⟩
 have zZw6 : Zw6.heap.size = ubf.heap.size := by rw [hZw6]; simp
 replace BB : Below w.heap.size w Zw6 := by rw [hZw6]; exact below_put2 BB (by omega) _ _
 replace x_a : Bx Zw6 (w.heap.size) (.int .i64 a1) (.int .i64 a2) := by rw [hZw6]; exact ((x_a.put (by omega)).put (by omega))
 replace x_b : Bx Zw6 (w.heap.size + 1) (.int .i64 b1) (.int .i64 b2) := by rw [hZw6]; exact ((x_b.put (by omega)).put (by omega))
 replace x_c : Bx Zw6 (w.heap.size + 1 + 1) (.int .i64 c1) (.int .i64 c2) := by rw [hZw6]; exact ((x_c.put (by omega)).put (by omega))
 replace x_d : Bx Zw6 (w.heap.size + 1 + 1 + 1) (.int .i64 d1) (.int .i64 d2) := by rw [hZw6]; exact ((x_d.put (by omega)).put (by omega))
 clear r11
 clear r12
 clear r13
 clear r14
 clear r15
 clear r16
 replace x_e1 : Bx Zw6 (pma0) (.int .i64 s11) (.slice d11 l11 c11) := by rw [hZw6]; exact ((x_e1.put (by omega)).put (by omega))
 replace x_e2 : Bx Zw6 (pma1) (.int .i64 s12) (.slice d12 l12 c12) := by rw [hZw6]; exact ((x_e2.put (by omega)).put (by omega))
 replace x_e3 : Bx Zw6 (pma2) (.int .i64 s13) (.slice d13 l13 c13) := by rw [hZw6]; exact ((x_e3.put (by omega)).put (by omega))
 replace x_e4 : Bx Zw6 (pma3) (.int .i64 s14) (.slice d14 l14 c14) := by rw [hZw6]; exact ((x_e4.put (by omega)).put (by omega))
 replace x_e5 : Bx Zw6 (pma4) (.int .i64 s15) (.slice d15 l15 c15) := by rw [hZw6]; exact ((x_e5.put (by omega)).put (by omega))
 replace x_e6 : Bx Zw6 (pma5) (.int .i64 s16) (.slice d16 l16 c16) := by rw [hZw6]; exact ((x_e6.put (by omega)).put (by omega))
 replace x_m : Bx Zw6 (pmb0) (.int .i64 s46) (.slice d46 l46 c46) := by rw [hZw6]; exact x_m.set
 clear r36
 clear r41
 clear r42
 clear r43
 clear r44
 clear r45
 clear r46
 rw [← hZw6]
 clear hZw6
 have ⟨x_m_0, x_m_1, x_m_2, x_m_3⟩ := x_m
 go_wp2
 go_ret
 exact ⟨by rw [HG.out, ← hsg]; rfl, BB⟩
end Go.Proofs.Ytkmgndaholglhaa
