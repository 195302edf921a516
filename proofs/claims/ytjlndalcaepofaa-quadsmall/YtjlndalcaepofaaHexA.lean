/-
  Hexadecimal digits of a number: the last k of them, how many there are, and the text. It imports nothing of the program.
-/
import Derived.WalkKit
import Derived.Laws.BytesArg
namespace Go.Proofs.Ytjlndalcaepofaa.x

/-- A digit's byte. -/
def hexc (d : Nat) : Int := if d < 10 then 48 + (d : Int) else 87 + (d : Int)
/-- The last k hexadecimal digits of m, as bytes, the highest first. -/
def digs : Nat → Nat → List Int
  | 0, _ => []
  | k + 1, m => hexc (m / 16 ^ k % 16) :: digs k m
theorem digs_length (k m : Nat) : (digs k m).length = k := by induction k with | zero => rfl | succ k ih => simp [digs, ih]
theorem digs_snoc (k m : Nat) : digs (k + 1) m = digs k (m / 16) ++ [hexc (m % 16)] := by
  induction k with
  | zero => simp [digs]
  | succ k ih =>
    rw [digs, ih, digs, List.cons_append, Nat.div_div_eq_div_mul, Nat.pow_succ, Nat.mul_comm 16]
/-- m has k digits: nought has one. -/
def IsLen (m k : Nat) : Prop := 1 ≤ k ∧ m < 16 ^ k ∧ (k = 1 ∨ 16 ^ (k - 1) ≤ m)
theorem isLen_one {m k k' : Nat} (h : IsLen m k) (h' : IsLen m k') : k = k' := by
  obtain ⟨a, b, c⟩ := h
  obtain ⟨a', b', c'⟩ := h'
  rcases Nat.lt_trichotomy k k' with e | e | e
  · rcases c' with c' | c'
    · omega
    · have := Nat.pow_le_pow_right (n := 16) (by decide) (show k ≤ k' - 1 by omega)
      omega
  · exact e
  · rcases c with c | c
    · omega
    · have := Nat.pow_le_pow_right (n := 16) (by decide) (show k' ≤ k - 1 by omega)
      omega
/-- How many digits m has, looked for up to so many. -/
def ndigF : Nat → Nat → Nat
  | 0, _ => 1
  | f + 1, m => if m < 16 then 1 else ndigF f (m / 16) + 1
def ndig (m : Nat) : Nat := ndigF 70 m
theorem isLen_ndigF : ∀ f m : Nat, m < 16 ^ (f + 1) → IsLen m (ndigF f m)
  | 0, m, h => ⟨Nat.le_refl _, h, Or.inl rfl⟩
  | f + 1, m, h => by
    unfold ndigF
    by_cases hm : m < 16
    · rw [if_pos hm]; exact ⟨Nat.le_refl _, hm, Or.inl rfl⟩
    · rw [if_neg hm]
      obtain ⟨a, b, c⟩ := isLen_ndigF f (m / 16) (by rw [Nat.pow_succ] at h; omega)
      refine ⟨by omega, ?_, Or.inr ?_⟩
      · rw [Nat.pow_succ]; omega
      · rcases c with c | c
        · rw [c]; simp; omega
        · have e : ndigF f (m / 16) + 1 - 1 = ndigF f (m / 16) - 1 + 1 := by omega
          rw [e, Nat.pow_succ]; omega
theorem isLen_ndig (m : Nat) (h : m < 16 ^ 71) : IsLen m (ndig m) := isLen_ndigF 70 m h
theorem ndig_eq {m k : Nat} (hm : m < 16 ^ 71) (h : IsLen m k) : ndig m = k := isLen_one (isLen_ndig m hm) h
/-- The text of a number, as bytes. -/
def hexI (a : Int) : List Int := (if a < 0 then [45] else []) ++ digs (ndig a.natAbs) a.natAbs
def hexS (a : Int) : ByteArray := strOfNums (hexI a)

/-- What the array of bytes holds when it is written from place p + 1 on. -/
def cellsD (p : Nat) (l : List Int) : List Value := List.replicate p (.int .u8 0) ++ l.map (Value.int .u8)
theorem cellsD_length (p : Nat) (l : List Int) : (cellsD p l).length = p + l.length := by simp [cellsD]
theorem set_replicate {α : Type} (z d : α) (n : Nat) (l : List α) : (List.replicate (n + 1) z ++ l).set n d = List.replicate n z ++ d :: l := by
  rw [List.replicate_succ', List.append_assoc, List.set_append_right _ _ (by simp)]
  simp
theorem cellsD_set (p : Nat) (l : List Int) (d : Int) : (cellsD (p + 1) l).set p (.int .u8 d) = cellsD p (d :: l) := by
  unfold cellsD
  rw [set_replicate, List.map_cons]
theorem cellsD_at (p : Nat) (l : List Int) : (cellsD (p + 1) l)[p]? = some (.int .u8 0) := by
  unfold cellsD
  rw [List.getElem?_append_left (by simp), List.getElem?_replicate, if_pos (by omega)]
theorem cellsD_read (p : Nat) (l : List Int) (i : Nat) (h : i < l.length) : (cellsD p l)[p + i]? = some (.int .u8 (l.getD i 0)) := by
  unfold cellsD
  rw [List.getElem?_append_right (by simp)]
  simp [h, List.getD]
theorem pow64 (m k : Nat) (h : m ≤ 57896044618658097711785492504343953926634992332820282019728792003956564819968) (hk : 64 ≤ k) : m / 16 ^ k = 0 := by
  refine Nat.div_eq_of_lt ?_
  have := Nat.pow_le_pow_right (n := 16) (by decide) hk
  omega
/-- The digits gathered so far, when the division has come to nought: the whole text. -/
theorem isLen_of {m k : Nat} (h1 : 1 ≤ k) (hq : m / 16 ^ k = 0) (hl : k ≤ 1 ∨ 16 ^ (k - 1) ≤ m) : IsLen m k := by
  refine ⟨h1, ?_, ?_⟩
  · rcases (Nat.div_eq_zero_iff).1 hq with h | h
    · have := Nat.pow_pos (n := k) (show 0 < 16 by decide); omega
    · exact h
  · rcases hl with h | h
    · exact Or.inl (by omega)
    · exact Or.inr h
theorem le_of_div_ne {m k q : Nat} (hq : q = m / 16 ^ k) (h : q ≠ 0) : 16 ^ k ≤ m := by
  rcases Nat.lt_or_ge m (16 ^ k) with l | l
  · rw [Nat.div_eq_of_lt l] at hq; omega
  · exact l
theorem hexc_range (d : Nat) (h : d < 16) : 0 ≤ hexc d ∧ hexc d < 256 := by unfold hexc; split <;> omega
end Go.Proofs.Ytjlndalcaepofaa.x
