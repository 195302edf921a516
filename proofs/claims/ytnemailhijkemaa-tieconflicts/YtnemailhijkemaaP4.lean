/-
  Joined texts, part 4:
  Of the points to the left of an edge, what does away with what is an order: so of some there is one with which none does away. It imports nothing of the program.
  Blocks of three and of four cells: what they hold, and that they can be written.
  Blocks of two to four cells, made one behind the other, and what they hold behind a store into another. It imports nothing of the program.
  What package whole's Cmp answers.
  What package whole's Small answers.
  What package lift's Can, Sum, Less, Cmp answer, and what they call.
  Plain arithmetic of numbers of two words: what word a sum, a difference and a product have. It imports nothing of the program.
  What package wide's smallest functions answer: a sum, a difference, a number with the other sign, as words.
  What division by ten of a number of two words answers.
  Decimal digits of a number: the last k of them, how many there are, and the text. It imports nothing of the program.
  What the text of a number of two words is.
  wide.Show answers the decimal text of the number.
-/
import Derived.Test.YtnemailhijkemaaP3
import Derived.WalkKit
import Derived.Laws.Bits64b
import Derived.Test.YtnemailhijkemaaRows
import Derived.Test.YtnemailhijkemaaP1
import Derived.WalkSpells
import Derived.StillTactics
import Derived.Laws.Pointers
import Derived.Laws.Externs
import Derived.Shelf.Spec.BitsCarry
import Derived.RowKit3
import Derived.Deep.QuietTactic
import Derived.BigQuiet
import Derived.Laws.BytesArg
import Derived.WalkSmall
namespace Go.Proofs.Ytnemailhijkemaa
open Go.RowKit
set_option linter.unusedVariables false

/-- (c - a) times (c - b): nought on the circle over a and b as ends. -/
def doQ (a b c : Pt) : Int := (c.1 - a.1) * (c.1 - b.1) + (c.2 - a.2) * (c.2 - b.2)
theorem de_do (a b c d : Pt) : deQ a b c d = arQ a b d * doQ a b c - arQ a b c * doQ a b d := by unfold deQ detP distP arQ areaP doQ; grind
/-- The turn about a, and about b, of points to the left. -/
theorem turn_a (a b c d e : Pt) : arQ a b d * arQ a e c = arQ a b c * arQ a e d + arQ a b e * arQ a d c := by unfold arQ areaP; grind
theorem turn_b (a b c d e : Pt) : arQ a b d * arQ e b c = arQ a b c * arQ e b d + arQ a b e * arQ d b c := by unfold arQ areaP; grind
theorem pos_of_mul {x y : Int} (hx : 0 < x) (h : 0 < x * y) : 0 < y := by
  rcases Int.lt_trichotomy y 0 with g | g | g
  · have := Int.mul_neg_of_pos_of_neg hx g; omega
  · subst g; rw [Int.mul_zero] at h; omega
  · exact g
theorem trans_a {a b c d e : Pt} (hc : 0 < arQ a b c) (hd : 0 < arQ a b d) (he : 0 < arQ a b e) (h1 : 0 < arQ a d c) (h2 : 0 < arQ a e d) : 0 < arQ a e c := by
  refine pos_of_mul hd ?_
  rw [turn_a]
  have := Int.mul_pos hc h2
  have := Int.mul_pos he h1
  omega
theorem trans_b {a b c d e : Pt} (hc : 0 < arQ a b c) (hd : 0 < arQ a b d) (he : 0 < arQ a b e) (h1 : 0 < arQ d b c) (h2 : 0 < arQ e b d) : 0 < arQ e b c := by
  refine pos_of_mul hd ?_
  rw [turn_b]
  have := Int.mul_pos hc h2
  have := Int.mul_pos he h1
  omega
/-- What 'd does away with a, b, c' comes to on a circle, of points to the left. -/
theorem tie_left {a b c d : Pt} (hc : 0 < arQ a b c) (hd : 0 < arQ a b d) (dc : d ≠ c) :
    tieQ a b c d = if ltQ a c && ltQ b c || ltQ a d && ltQ b d then ltQ d c else if ltQ a b then decide (0 < arQ a d c) else decide (0 < arQ d b c) := by
  obtain ⟨ab, ac, bc⟩ := ar_ne hc
  obtain ⟨_, ad, bd⟩ := ar_ne hd
  unfold tieQ lastQ
  rcases one_last ab ac bc (Ne.symm ad) (Ne.symm bd) dc with ⟨g1, g2, g3, g4, g5, g6⟩ | ⟨g1, g2, g3, g4, g5, g6⟩ | ⟨g1, g2, g3, g4, g5, g6⟩ | ⟨g1, g2, g3, g4, g5, g6⟩ <;> simp [g1, g2, g3, g4, g5, g6, hd]
/-- Whether d does away with c, of points to the left of the way from a to b. -/
def beatQ (a b c d : Pt) : Bool := decide (d ≠ c) && cirQ a b c d
theorem ratio_trans {p q r x y z : Int} (hx : 0 < x) (hy : 0 < y) (hz : 0 < z) (h1 : q * x ≤ p * y) (h2 : r * y ≤ q * z) : r * x ≤ p * z ∧ ((q * x < p * y ∨ r * y < q * z) → r * x < p * z) := by
  have e1 : y * (r * x) = x * (r * y) := by grind
  have e2 : y * (p * z) = z * (p * y) := by grind
  have e3 : x * (q * z) = z * (q * x) := by grind
  have m1 := Int.mul_le_mul_of_nonneg_left h1 (Int.le_of_lt hz)
  have m2 := Int.mul_le_mul_of_nonneg_left h2 (Int.le_of_lt hx)
  constructor
  · refine Int.le_of_mul_le_mul_left ?_ hy
    rw [e1, e2]
    omega
  · intro h
    refine Int.lt_of_mul_lt_mul_left (a := y) ?_ (Int.le_of_lt hy)
    rw [e1, e2]
    rcases h with h | h
    · have := Int.mul_lt_mul_of_pos_left h hz; omega
    · have := Int.mul_lt_mul_of_pos_left h hx; omega
theorem beat_iff {a b c d : Pt} (hc : 0 < arQ a b c) (hd : 0 < arQ a b d) : beatQ a b c d = true ↔ (d ≠ c ∧ (arQ a b c * doQ a b d < arQ a b d * doQ a b c ∨ (arQ a b c * doQ a b d = arQ a b d * doQ a b c ∧ tieQ a b c d = true))) := by
  unfold beatQ cirQ
  rw [Bool.and_eq_true_iff, decide_eq_true_iff, de_do]
  generalize arQ a b c * doQ a b d = x
  generalize arQ a b d * doQ a b c = y
  constructor
  · rintro ⟨h1, h2⟩
    refine ⟨h1, ?_⟩
    split at h2
    · exact Or.inr ⟨by omega, h2⟩
    · exact Or.inl (by have := of_decide_eq_true h2; omega)
  · rintro ⟨h1, h | ⟨h, h2⟩⟩
    · exact ⟨h1, by rw [if_neg (by omega)]; exact decide_eq_true (by omega)⟩
    · exact ⟨h1, by rw [if_pos (by omega)]; exact h2⟩
theorem beat_irr (a b c : Pt) : beatQ a b c c = false := by unfold beatQ; simp
theorem low_high {a b x c : Pt} (xa : a ≠ x) (xb : b ≠ x) (hx : (ltQ a x && ltQ b x) = false) (hc : (ltQ a c && ltQ b c) = true) : ltQ x c = true := by
  rw [Bool.and_eq_true_iff] at hc
  rcases lt_tri xa with ⟨h, _⟩ | ⟨h, _⟩
  · rcases lt_tri xb with ⟨k, _⟩ | ⟨k, _⟩
    · rw [h, k] at hx; cases hx
    · exact lt_trans k hc.2
  · exact lt_trans h hc.1
theorem tie_trans {a b c d e : Pt} (hc : 0 < arQ a b c) (hd : 0 < arQ a b d) (he : 0 < arQ a b e) (dc : d ≠ c) (ed : e ≠ d) (ec : e ≠ c) (h1 : tieQ a b c d = true) (h2 : tieQ a b d e = true) : tieQ a b c e = true := by
  rw [tie_left hc hd dc] at h1
  rw [tie_left hd he ed] at h2
  rw [tie_left hc he ec]
  obtain ⟨ab, ac, bc⟩ := ar_ne hc
  obtain ⟨_, ad, bd⟩ := ar_ne hd
  obtain ⟨_, ae, be⟩ := ar_ne he
  cases kc : (ltQ a c && ltQ b c) <;> cases kd : (ltQ a d && ltQ b d) <;> cases ke : (ltQ a e && ltQ b e) <;> simp only [kc, kd, ke, Bool.or_self, Bool.or_false, Bool.or_true, if_true, if_false, Bool.false_eq_true] at h1 h2 ⊢
  · cases k : ltQ a b <;> simp only [k, if_true, if_false, Bool.false_eq_true, decide_eq_true_iff] at h1 h2 ⊢
    · exact trans_b hc hd he h1 h2
    · exact trans_a hc hd he h1 h2
  · rw [lt_anti (low_high ad bd kd ke)] at h2; cases h2
  · rw [lt_anti (low_high ac bc kc kd)] at h1; cases h1
  · rw [lt_anti (low_high ac bc kc kd)] at h1; cases h1
  · exact low_high ae be ke kc
  · rw [lt_anti (low_high ad bd kd ke)] at h2; cases h2
  · exact low_high ae be ke kc
  · exact lt_trans h2 h1
theorem tie_anti {a b c d : Pt} (hc : 0 < arQ a b c) (hd : 0 < arQ a b d) (dc : d ≠ c) (h1 : tieQ a b c d = true) : tieQ a b d c = false := by
  rw [tie_left hc hd dc] at h1
  rw [tie_left hd hc (Ne.symm dc), Bool.or_comm]
  split at h1
  · rename_i k; rw [if_pos k]; exact lt_anti h1
  · rename_i k; rw [if_neg k]
    split at h1
    · rename_i k2; rw [if_pos k2]
      have := of_decide_eq_true h1
      have e : arQ a c d = -arQ a d c := by unfold arQ areaP; grind
      exact decide_eq_false (by omega)
    · rename_i k2; rw [if_neg k2]
      have := of_decide_eq_true h1
      have e : arQ c b d = -arQ d b c := by unfold arQ areaP; grind
      exact decide_eq_false (by omega)
theorem beat_trans {a b c d e : Pt} (hc : 0 < arQ a b c) (hd : 0 < arQ a b d) (he : 0 < arQ a b e) (h1 : beatQ a b c d = true) (h2 : beatQ a b d e = true) : beatQ a b c e = true := by
  rw [beat_iff hc hd] at h1
  rw [beat_iff hd he] at h2
  rw [beat_iff hc he]
  obtain ⟨dc, h1⟩ := h1
  obtain ⟨ed, h2⟩ := h2
  have T := ratio_trans (p := doQ a b c) (q := doQ a b d) (r := doQ a b e) hc hd he
  simp only [Int.mul_comm (doQ a b _) _] at T
  have l1 : arQ a b c * doQ a b d ≤ arQ a b d * doQ a b c := by omega
  have l2 : arQ a b d * doQ a b e ≤ arQ a b e * doQ a b d := by omega
  obtain ⟨t1, t2⟩ := T l1 l2
  have ec : e ≠ c := by
    rintro rfl
    rcases h1 with h1 | ⟨h1, k1⟩
    · omega
    · rcases h2 with h2 | ⟨h2, k2⟩
      · omega
      · rw [tie_anti hc hd dc k1] at k2; cases k2
  refine ⟨ec, ?_⟩
  rcases h1 with h1 | ⟨h1, k1⟩
  · exact Or.inl (t2 (Or.inl h1))
  · rcases h2 with h2 | ⟨h2, k2⟩
    · exact Or.inl (t2 (Or.inr h2))
    · rcases Int.lt_or_eq_of_le t1 with t | t
      · exact Or.inl t
      · exact Or.inr ⟨t, tie_trans hc hd he dc ed ec k1 k2⟩
/-- Of a list's points to the left, if there is one, there is one with which none of them does away. -/
theorem beat_least (a b : Pt) : ∀ l : List Pt, (∃ c ∈ l, 0 < arQ a b c) → ∃ c ∈ l, 0 < arQ a b c ∧ ∀ d ∈ l, 0 < arQ a b d → beatQ a b c d = false
  | [], h => by obtain ⟨c, hc, _⟩ := h; cases hc
  | x :: t, h => by
    by_cases ht : ∃ c ∈ t, 0 < arQ a b c
    · obtain ⟨m, hm, pm, least⟩ := beat_least a b t ht
      by_cases hx : 0 < arQ a b x ∧ beatQ a b m x = true
      · refine ⟨x, List.mem_cons_self, hx.1, fun d hd pd => ?_⟩
        rcases List.mem_cons.1 hd with rfl | hd
        · exact beat_irr a b d
        · cases k : beatQ a b x d
          · rfl
          · have := beat_trans pm hx.1 pd hx.2 k
            rw [least d hd pd] at this
            cases this
      · refine ⟨m, List.mem_cons_of_mem _ hm, pm, fun d hd pd => ?_⟩
        rcases List.mem_cons.1 hd with rfl | hd
        · cases k : beatQ a b m d
          · rfl
          · exact absurd ⟨pd, k⟩ hx
        · exact least d hd pd
    · obtain ⟨c, hc, pc⟩ := h
      rcases List.mem_cons.1 hc with rfl | hc
      · refine ⟨c, List.mem_cons_self, pc, fun d hd pd => ?_⟩
        rcases List.mem_cons.1 hd with rfl | hd
        · exact beat_irr a b d
        · exact absurd ⟨d, hd, pd⟩ ht
      · exact absurd ⟨c, hc, pc⟩ ht
theorem sq_pos {x y : Int} (h : x ≠ 0 ∨ y ≠ 0) : 0 < x * x + y * y := by
  have a : 0 ≤ x * x := by rw [← Int.natAbs_mul_self]; exact Int.natCast_nonneg _
  have b : 0 ≤ y * y := by rw [← Int.natAbs_mul_self]; exact Int.natCast_nonneg _
  rcases h with h | h
  · have : x * x ≠ 0 := fun e => h (by rcases Int.mul_eq_zero.1 e with e | e <;> exact e)
    omega
  · have : y * y ≠ 0 := fun e => h (by rcases Int.mul_eq_zero.1 e with e | e <;> exact e)
    omega
/-- Two points of a circle through nought, in line with it: they are one. -/
theorem circ_line {u1 u2 p1 p2 q1 q2 : Int} (hA : u1 * p2 - u2 * p1 ≠ 0) (hB : u1 * q2 - u2 * q1 ≠ 0) (hx : p1 * q2 - p2 * q1 = 0) (he : (u1 * p2 - u2 * p1) * (q1 * q1 + q2 * q2 - (q1 * u1 + q2 * u2)) = (u1 * q2 - u2 * q1) * (p1 * p1 + p2 * p2 - (p1 * u1 + p2 * u2))) : p1 = q1 ∧ p2 = q2 := by
  have h1 : (u1 * p2 - u2 * p1) * q1 = (u1 * q2 - u2 * q1) * p1 := by grind
  have h2 : (u1 * p2 - u2 * p1) * q2 = (u1 * q2 - u2 * q1) * p2 := by grind
  have h3 : (u1 * q2 - u2 * q1) * (p1 * q1 + p2 * q2) = (u1 * q2 - u2 * q1) * (p1 * p1 + p2 * p2) := by grind
  have h4 : p1 * q1 + p2 * q2 = p1 * p1 + p2 * p2 := Int.eq_of_mul_eq_mul_left hB h3
  have hp : 0 < p1 * p1 + p2 * p2 := sq_pos (by
    rcases Decidable.em (p1 = 0) with e | e
    · right; rintro rfl; subst e; simp at hA
    · exact Or.inl e)
  have h5 : (p1 * p1 + p2 * p2) * p1 = (p1 * p1 + p2 * p2) * q1 := by grind
  have h6 : (p1 * p1 + p2 * p2) * p2 = (p1 * p1 + p2 * p2) * q2 := by grind
  exact ⟨Int.eq_of_mul_eq_mul_left (by omega) h5, Int.eq_of_mul_eq_mul_left (by omega) h6⟩
theorem line_a {a b c d : Pt} (hc : 0 < arQ a b c) (hd : 0 < arQ a b d) (he : arQ a b c * doQ a b d = arQ a b d * doQ a b c) (h : arQ a d c = 0) : d = c := by
  have := circ_line (u1 := b.1 - a.1) (u2 := b.2 - a.2) (p1 := c.1 - a.1) (p2 := c.2 - a.2) (q1 := d.1 - a.1) (q2 := d.2 - a.2) (by unfold arQ areaP at hc; omega) (by unfold arQ areaP at hd; omega) (by unfold arQ areaP at h; grind) (by unfold arQ areaP doQ at he; grind)
  exact Prod.ext (by omega) (by omega)
theorem line_b {a b c d : Pt} (hc : 0 < arQ a b c) (hd : 0 < arQ a b d) (he : arQ a b c * doQ a b d = arQ a b d * doQ a b c) (h : arQ d b c = 0) : d = c := by
  have e1 : arQ a b c = (b.1 - a.1) * (c.2 - b.2) - (b.2 - a.2) * (c.1 - b.1) := by unfold arQ areaP; grind
  have e2 : arQ a b d = (b.1 - a.1) * (d.2 - b.2) - (b.2 - a.2) * (d.1 - b.1) := by unfold arQ areaP; grind
  have f1 : ∀ x : Pt, (a.1 - b.1) * (x.2 - b.2) - (a.2 - b.2) * (x.1 - b.1) = -((b.1 - a.1) * (x.2 - b.2) - (b.2 - a.2) * (x.1 - b.1)) := fun x => by grind
  have f2 : ∀ x : Pt, (x.1 - b.1) * (x.1 - b.1) + (x.2 - b.2) * (x.2 - b.2) - ((x.1 - b.1) * (a.1 - b.1) + (x.2 - b.2) * (a.2 - b.2)) = doQ a b x := fun x => by unfold doQ; grind
  rw [e1, e2] at he
  rw [e1] at hc
  rw [e2] at hd
  have := circ_line (u1 := a.1 - b.1) (u2 := a.2 - b.2) (p1 := c.1 - b.1) (p2 := c.2 - b.2) (q1 := d.1 - b.1) (q2 := d.2 - b.2) (by grind) (by grind) (by unfold arQ areaP at h; grind) (by rw [f1 c, f1 d, f2 c, f2 d, Int.neg_mul, Int.neg_mul, he])
  exact Prod.ext (by omega) (by omega)
/-- Of two points to the left one does away with the other. -/
theorem beat_total {a b c d : Pt} (hc : 0 < arQ a b c) (hd : 0 < arQ a b d) (dc : d ≠ c) : beatQ a b c d = true ∨ beatQ a b d c = true := by
  rw [beat_iff hc hd, beat_iff hd hc]
  rcases Int.lt_trichotomy (arQ a b c * doQ a b d) (arQ a b d * doQ a b c) with h | h | h
  · exact Or.inl ⟨dc, Or.inl h⟩
  · rw [tie_left hc hd dc, tie_left hd hc (Ne.symm dc), Bool.or_comm (ltQ a d && ltQ b d)]
    cases k : (ltQ a c && ltQ b c || ltQ a d && ltQ b d) <;> simp only [if_true, if_false, Bool.false_eq_true]
    · cases k2 : ltQ a b <;> simp only [if_true, if_false, Bool.false_eq_true, decide_eq_true_iff]
      · have n := fun e => dc (line_b hc hd h e)
        have e : arQ c b d = -arQ d b c := by unfold arQ areaP; grind
        rcases Int.lt_trichotomy (arQ d b c) 0 with g | g | g
        · exact Or.inr ⟨Ne.symm dc, Or.inr ⟨h.symm, by omega⟩⟩
        · exact absurd g n
        · exact Or.inl ⟨dc, Or.inr ⟨h, g⟩⟩
      · have n := fun e => dc (line_a hc hd h e)
        have e : arQ a c d = -arQ a d c := by unfold arQ areaP; grind
        rcases Int.lt_trichotomy (arQ a d c) 0 with g | g | g
        · exact Or.inr ⟨Ne.symm dc, Or.inr ⟨h.symm, by omega⟩⟩
        · exact absurd g n
        · exact Or.inl ⟨dc, Or.inr ⟨h, g⟩⟩
    · rcases lt_tri dc with ⟨g, _⟩ | ⟨g, _⟩
      · exact Or.inl ⟨dc, Or.inr ⟨h, g⟩⟩
      · exact Or.inr ⟨Ne.symm dc, Or.inr ⟨h.symm, g⟩⟩
  · exact Or.inr ⟨Ne.symm dc, Or.inl h⟩
theorem beat_anti {a b c d : Pt} (hc : 0 < arQ a b c) (hd : 0 < arQ a b d) (h : beatQ a b c d = true) : beatQ a b d c = false := by
  cases k : beatQ a b d c
  · rfl
  · have := beat_trans hc hd hc h k
    rw [beat_irr] at this
    cases this
end Go.Proofs.Ytnemailhijkemaa

namespace Go.Proofs.Ytnemailhijkemaa
open Go.RowKit
set_option linter.unusedVariables false

theorem cell_lt {w : World} {p : Addr} {v : Value} (h : w.cell? p = some v) : p.block < w.heap.size := by
  refine Nat.lt_of_not_le fun hle => ?_
  unfold World.cell? at h
  rw [Array.getElem?_eq_none hle] at h
  simp at h
theorem cell_far {w w' : World} {b g i : Nat} {v : Value} (h : w.cell? ⟨b, i, none⟩ = some v) (hg : w.grownBy w' (some g)) (hne : b ≠ g) : w'.cell? ⟨b, i, none⟩ = some v :=
  (hg.cell_far ⟨b, i, none⟩ (cell_lt h) (by simpa using hne)).trans h
theorem free_far {w w' : World} {b g i : Nat} {v : Value} (h : w.cell? ⟨b, i, none⟩ = some v) (hf : w.frozen? ⟨b, i, none⟩ = false) (hg : w.grownBy w' (some g)) (hne : b ≠ g) : w'.frozen? ⟨b, i, none⟩ = false :=
  (hg.frozen_far ⟨b, i, none⟩ (cell_lt h) (by simpa using hne)).trans hf
/-- A block of 3 cells. -/
structure B3 (w : World) (b : Nat) (x0 x1 x2 : Value) : Prop where
  c0 : w.cell? ⟨b, 0, none⟩ = some x0
  c1 : w.cell? ⟨b, 1, none⟩ = some x1
  c2 : w.cell? ⟨b, 2, none⟩ = some x2
  f0 : w.frozen? ⟨b, 0, none⟩ = false
  f1 : w.frozen? ⟨b, 1, none⟩ = false
  f2 : w.frozen? ⟨b, 2, none⟩ = false
theorem B3.on {w w' : World} {b : Nat} {x0 x1 x2 : Value} (h : B3 w b x0 x1 x2) (hb : Below w.heap.size w w') : B3 w' b x0 x1 x2 := ⟨cell_on hb h.c0, cell_on hb h.c1, cell_on hb h.c2, free_on hb h.c0 h.f0, free_on hb h.c1 h.f1, free_on hb h.c2 h.f2⟩
theorem b3_new (w : World) (x0 x1 x2 : Value) (t : TypeId) : B3 (w.alloc (.cells #[x0, x1, x2] t)) w.heap.size x0 x1 x2 := by
  have h := Row.new w [x0, x1, x2] t
  exact ⟨h.cell 0 _ rfl, h.cell 1 _ rfl, h.cell 2 _ rfl, h.free 0 (by simp), h.free 1 (by simp), h.free 2 (by simp)⟩
theorem b3_lt {w : World} {b : Nat} {x0 x1 x2 : Value} (h : B3 w b x0 x1 x2) : b < w.heap.size := cell_lt h.c0
theorem B3.put {w : World} {b k i : Nat} {x0 x1 x2 v : Value} (h : B3 w b x0 x1 x2) (hk : k ≠ b) : B3 (w.setCell ⟨k, i, none⟩ v) b x0 x1 x2 := by
  refine ⟨?_, ?_, ?_, by rw [World.frozen?_setCell]; exact h.f0, by rw [World.frozen?_setCell]; exact h.f1, by rw [World.frozen?_setCell]; exact h.f2⟩
  · rw [World.cell?_setCell_other _ _ _ _ (by intro q; simp only [Addr.mk.injEq] at q; omega)]; exact h.c0
  · rw [World.cell?_setCell_other _ _ _ _ (by intro q; simp only [Addr.mk.injEq] at q; omega)]; exact h.c1
  · rw [World.cell?_setCell_other _ _ _ _ (by intro q; simp only [Addr.mk.injEq] at q; omega)]; exact h.c2
theorem B3.set {w : World} {b : Nat} {x0 x1 x2 u0 u1 u2 : Value} (h : B3 w b x0 x1 x2) : B3 (((w.setCell ⟨b, 0, none⟩ u0).setCell ⟨b, 1, none⟩ u1).setCell ⟨b, 2, none⟩ u2) b u0 u1 u2 := by
  refine ⟨?_, ?_, ?_, by simp only [World.frozen?_setCell]; exact h.f0, by simp only [World.frozen?_setCell]; exact h.f1, by simp only [World.frozen?_setCell]; exact h.f2⟩
  · rw [World.cell?_setCell_other _ _ _ _ (by intro q; simp only [Addr.mk.injEq] at q; omega)]; rw [World.cell?_setCell_other _ _ _ _ (by intro q; simp only [Addr.mk.injEq] at q; omega)]; have hh : _ = some x0 := h.c0
    have h1 : w.cell? ⟨b, 0, none⟩ = some x0 := by
      exact hh
    exact World.cell?_setCell_same _ _ _ h1
  · rw [World.cell?_setCell_other _ _ _ _ (by intro q; simp only [Addr.mk.injEq] at q; omega)]; have hh : _ = some x1 := h.c1
    have h1 : (w.setCell ⟨b, 0, none⟩ u0).cell? ⟨b, 1, none⟩ = some x1 := by
      rw [World.cell?_setCell_other _ _ _ _ (by intro q; simp only [Addr.mk.injEq] at q; omega)]; exact hh
    exact World.cell?_setCell_same _ _ _ h1
  · have hh : _ = some x2 := h.c2
    have h1 : ((w.setCell ⟨b, 0, none⟩ u0).setCell ⟨b, 1, none⟩ u1).cell? ⟨b, 2, none⟩ = some x2 := by
      rw [World.cell?_setCell_other _ _ _ _ (by intro q; simp only [Addr.mk.injEq] at q; omega)]; rw [World.cell?_setCell_other _ _ _ _ (by intro q; simp only [Addr.mk.injEq] at q; omega)]; exact hh
    exact World.cell?_setCell_same _ _ _ h1
theorem B3.drew {w : World} {b : Nat} {x0 x1 x2 : Value} (h : B3 w b x0 x1 x2) : B3 w.drew b x0 x1 x2 := ⟨h.c0, h.c1, h.c2, h.f0, h.f1, h.f2⟩
theorem B3.grown {w w' : World} {b g : Nat} {x0 x1 x2 : Value} (h : B3 w b x0 x1 x2) (hg : w.grownBy w' (some g)) (hne : b ≠ g) : B3 w' b x0 x1 x2 := ⟨cell_far h.c0 hg hne, cell_far h.c1 hg hne, cell_far h.c2 hg hne, free_far h.c0 h.f0 hg hne, free_far h.c1 h.f1 hg hne, free_far h.c2 h.f2 hg hne⟩
/-- A block of 4 cells. -/
structure B4 (w : World) (b : Nat) (x0 x1 x2 x3 : Value) : Prop where
  c0 : w.cell? ⟨b, 0, none⟩ = some x0
  c1 : w.cell? ⟨b, 1, none⟩ = some x1
  c2 : w.cell? ⟨b, 2, none⟩ = some x2
  c3 : w.cell? ⟨b, 3, none⟩ = some x3
  f0 : w.frozen? ⟨b, 0, none⟩ = false
  f1 : w.frozen? ⟨b, 1, none⟩ = false
  f2 : w.frozen? ⟨b, 2, none⟩ = false
  f3 : w.frozen? ⟨b, 3, none⟩ = false
theorem B4.on {w w' : World} {b : Nat} {x0 x1 x2 x3 : Value} (h : B4 w b x0 x1 x2 x3) (hb : Below w.heap.size w w') : B4 w' b x0 x1 x2 x3 := ⟨cell_on hb h.c0, cell_on hb h.c1, cell_on hb h.c2, cell_on hb h.c3, free_on hb h.c0 h.f0, free_on hb h.c1 h.f1, free_on hb h.c2 h.f2, free_on hb h.c3 h.f3⟩
theorem b4_new (w : World) (x0 x1 x2 x3 : Value) (t : TypeId) : B4 (w.alloc (.cells #[x0, x1, x2, x3] t)) w.heap.size x0 x1 x2 x3 := by
  have h := Row.new w [x0, x1, x2, x3] t
  exact ⟨h.cell 0 _ rfl, h.cell 1 _ rfl, h.cell 2 _ rfl, h.cell 3 _ rfl, h.free 0 (by simp), h.free 1 (by simp), h.free 2 (by simp), h.free 3 (by simp)⟩
theorem b4_lt {w : World} {b : Nat} {x0 x1 x2 x3 : Value} (h : B4 w b x0 x1 x2 x3) : b < w.heap.size := cell_lt h.c0
theorem B4.put {w : World} {b k i : Nat} {x0 x1 x2 x3 v : Value} (h : B4 w b x0 x1 x2 x3) (hk : k ≠ b) : B4 (w.setCell ⟨k, i, none⟩ v) b x0 x1 x2 x3 := by
  refine ⟨?_, ?_, ?_, ?_, by rw [World.frozen?_setCell]; exact h.f0, by rw [World.frozen?_setCell]; exact h.f1, by rw [World.frozen?_setCell]; exact h.f2, by rw [World.frozen?_setCell]; exact h.f3⟩
  · rw [World.cell?_setCell_other _ _ _ _ (by intro q; simp only [Addr.mk.injEq] at q; omega)]; exact h.c0
  · rw [World.cell?_setCell_other _ _ _ _ (by intro q; simp only [Addr.mk.injEq] at q; omega)]; exact h.c1
  · rw [World.cell?_setCell_other _ _ _ _ (by intro q; simp only [Addr.mk.injEq] at q; omega)]; exact h.c2
  · rw [World.cell?_setCell_other _ _ _ _ (by intro q; simp only [Addr.mk.injEq] at q; omega)]; exact h.c3
theorem B4.set {w : World} {b : Nat} {x0 x1 x2 x3 u0 u1 u2 u3 : Value} (h : B4 w b x0 x1 x2 x3) : B4 ((((w.setCell ⟨b, 0, none⟩ u0).setCell ⟨b, 1, none⟩ u1).setCell ⟨b, 2, none⟩ u2).setCell ⟨b, 3, none⟩ u3) b u0 u1 u2 u3 := by
  refine ⟨?_, ?_, ?_, ?_, by simp only [World.frozen?_setCell]; exact h.f0, by simp only [World.frozen?_setCell]; exact h.f1, by simp only [World.frozen?_setCell]; exact h.f2, by simp only [World.frozen?_setCell]; exact h.f3⟩
  · rw [World.cell?_setCell_other _ _ _ _ (by intro q; simp only [Addr.mk.injEq] at q; omega)]; rw [World.cell?_setCell_other _ _ _ _ (by intro q; simp only [Addr.mk.injEq] at q; omega)]; rw [World.cell?_setCell_other _ _ _ _ (by intro q; simp only [Addr.mk.injEq] at q; omega)]; have hh : _ = some x0 := h.c0
    have h1 : w.cell? ⟨b, 0, none⟩ = some x0 := by
      exact hh
    exact World.cell?_setCell_same _ _ _ h1
  · rw [World.cell?_setCell_other _ _ _ _ (by intro q; simp only [Addr.mk.injEq] at q; omega)]; rw [World.cell?_setCell_other _ _ _ _ (by intro q; simp only [Addr.mk.injEq] at q; omega)]; have hh : _ = some x1 := h.c1
    have h1 : (w.setCell ⟨b, 0, none⟩ u0).cell? ⟨b, 1, none⟩ = some x1 := by
      rw [World.cell?_setCell_other _ _ _ _ (by intro q; simp only [Addr.mk.injEq] at q; omega)]; exact hh
    exact World.cell?_setCell_same _ _ _ h1
  · rw [World.cell?_setCell_other _ _ _ _ (by intro q; simp only [Addr.mk.injEq] at q; omega)]; have hh : _ = some x2 := h.c2
    have h1 : ((w.setCell ⟨b, 0, none⟩ u0).setCell ⟨b, 1, none⟩ u1).cell? ⟨b, 2, none⟩ = some x2 := by
      rw [World.cell?_setCell_other _ _ _ _ (by intro q; simp only [Addr.mk.injEq] at q; omega)]; rw [World.cell?_setCell_other _ _ _ _ (by intro q; simp only [Addr.mk.injEq] at q; omega)]; exact hh
    exact World.cell?_setCell_same _ _ _ h1
  · have hh : _ = some x3 := h.c3
    have h1 : (((w.setCell ⟨b, 0, none⟩ u0).setCell ⟨b, 1, none⟩ u1).setCell ⟨b, 2, none⟩ u2).cell? ⟨b, 3, none⟩ = some x3 := by
      rw [World.cell?_setCell_other _ _ _ _ (by intro q; simp only [Addr.mk.injEq] at q; omega)]; rw [World.cell?_setCell_other _ _ _ _ (by intro q; simp only [Addr.mk.injEq] at q; omega)]; rw [World.cell?_setCell_other _ _ _ _ (by intro q; simp only [Addr.mk.injEq] at q; omega)]; exact hh
    exact World.cell?_setCell_same _ _ _ h1
theorem B4.drew {w : World} {b : Nat} {x0 x1 x2 x3 : Value} (h : B4 w b x0 x1 x2 x3) : B4 w.drew b x0 x1 x2 x3 := ⟨h.c0, h.c1, h.c2, h.c3, h.f0, h.f1, h.f2, h.f3⟩
theorem B4.grown {w w' : World} {b g : Nat} {x0 x1 x2 x3 : Value} (h : B4 w b x0 x1 x2 x3) (hg : w.grownBy w' (some g)) (hne : b ≠ g) : B4 w' b x0 x1 x2 x3 := ⟨cell_far h.c0 hg hne, cell_far h.c1 hg hne, cell_far h.c2 hg hne, cell_far h.c3 hg hne, free_far h.c0 h.f0 hg hne, free_far h.c1 h.f1 hg hne, free_far h.c2 h.f2 hg hne, free_far h.c3 h.f3 hg hne⟩
end Go.Proofs.Ytnemailhijkemaa

namespace Go.Proofs.Ytnemailhijkemaa
open Go.RowKit
set_option linter.unusedVariables false
theorem below_put3 {B b : Nat} {w w' : World} (h : Below B w w') (hb : B ≤ b) (u v t : Value) : Below B w (((w'.setCell ⟨b, 0, none⟩ u).setCell ⟨b, 1, none⟩ v).setCell ⟨b, 2, none⟩ t) := ((h.setCell hb _).setCell hb _).setCell hb _
theorem below_put4 {B b : Nat} {w w' : World} (h : Below B w w') (hb : B ≤ b) (u v t s : Value) : Below B w ((((w'.setCell ⟨b, 0, none⟩ u).setCell ⟨b, 1, none⟩ v).setCell ⟨b, 2, none⟩ t).setCell ⟨b, 3, none⟩ s) := (((h.setCell hb _).setCell hb _).setCell hb _).setCell hb _
theorem b3_row {w : World} {k : Nat} {x y z : Value} (h : Row w k [x, y, z]) : B3 w k x y z := ⟨(h 0 x rfl).1, (h 1 y rfl).1, (h 2 z rfl).1, (h 0 x rfl).2, (h 1 y rfl).2, (h 2 z rfl).2⟩
theorem b4_row {w : World} {k : Nat} {x y z t : Value} (h : Row w k [x, y, z, t]) : B4 w k x y z t := ⟨(h 0 x rfl).1, (h 1 y rfl).1, (h 2 z rfl).1, (h 3 t rfl).1, (h 0 x rfl).2, (h 1 y rfl).2, (h 2 z rfl).2, (h 3 t rfl).2⟩
theorem cell_put1 {w : World} {n k i j : Nat} {v : Value} (h : w.cell? ⟨n, i, none⟩ = some v) (hk : n ≠ k) (u : Value) : (w.setCell ⟨k, j, none⟩ u).cell? ⟨n, i, none⟩ = some v := by
  rw [World.cell?_setCell_other _ _ _ _ (by intro q; simp only [Addr.mk.injEq] at q; omega)]; exact h
theorem cell_put2 {w : World} {n k i : Nat} {x : Value} (h : w.cell? ⟨n, i, none⟩ = some x) (hk : n ≠ k) (u v : Value) : ((w.setCell ⟨k, 0, none⟩ u).setCell ⟨k, 1, none⟩ v).cell? ⟨n, i, none⟩ = some x := cell_put1 (cell_put1 h hk u) hk v
theorem cell_put3 {w : World} {n k i : Nat} {x : Value} (h : w.cell? ⟨n, i, none⟩ = some x) (hk : n ≠ k) (u v t : Value) : (((w.setCell ⟨k, 0, none⟩ u).setCell ⟨k, 1, none⟩ v).setCell ⟨k, 2, none⟩ t).cell? ⟨n, i, none⟩ = some x := cell_put1 (cell_put2 h hk u v) hk t
theorem cell_put4 {w : World} {n k i : Nat} {x : Value} (h : w.cell? ⟨n, i, none⟩ = some x) (hk : n ≠ k) (u v t s : Value) : ((((w.setCell ⟨k, 0, none⟩ u).setCell ⟨k, 1, none⟩ v).setCell ⟨k, 2, none⟩ t).setCell ⟨k, 3, none⟩ s).cell? ⟨n, i, none⟩ = some x := cell_put1 (cell_put3 h hk u v t) hk s
theorem bs_32 (w : World) (x00 x01 x02 x10 x11 : Value) (t0 t1 : TypeId) : ∃ W, W = ((w.alloc (.cells #[x00, x01, x02] t0)).alloc (.cells #[x10, x11] t1)) ∧ Below w.heap.size w W ∧ B3 W (w.heap.size) x00 x01 x02 ∧ Bx W (w.heap.size + 1) x10 x11 ∧ w.heap.size + 1 < W.heap.size := by
  have e0 : Below w.heap.size w (w.alloc (.cells #[x00, x01, x02] t0)) := (Below.refl _ _).alloc (Nat.le_refl _) _
  have h0 := b3_new w x00 x01 x02 t0
  have e1 : Below (w.alloc (.cells #[x00, x01, x02] t0)).heap.size (w.alloc (.cells #[x00, x01, x02] t0)) ((w.alloc (.cells #[x00, x01, x02] t0)).alloc (.cells #[x10, x11] t1)) := (Below.refl _ _).alloc (Nat.le_refl _) _
  have h1 := bx_new (w.alloc (.cells #[x00, x01, x02] t0)) x10 x11 t1
  rw [World.size_alloc] at h1
  exact ⟨_, rfl, also (e0) e1, (h0.on e1), h1, by simp⟩
theorem bs_23 (w : World) (x00 x01 x10 x11 x12 : Value) (t0 t1 : TypeId) : ∃ W, W = ((w.alloc (.cells #[x00, x01] t0)).alloc (.cells #[x10, x11, x12] t1)) ∧ Below w.heap.size w W ∧ Bx W (w.heap.size) x00 x01 ∧ B3 W (w.heap.size + 1) x10 x11 x12 ∧ w.heap.size + 1 < W.heap.size := by
  have e0 : Below w.heap.size w (w.alloc (.cells #[x00, x01] t0)) := (Below.refl _ _).alloc (Nat.le_refl _) _
  have h0 := bx_new w x00 x01 t0
  have e1 : Below (w.alloc (.cells #[x00, x01] t0)).heap.size (w.alloc (.cells #[x00, x01] t0)) ((w.alloc (.cells #[x00, x01] t0)).alloc (.cells #[x10, x11, x12] t1)) := (Below.refl _ _).alloc (Nat.le_refl _) _
  have h1 := b3_new (w.alloc (.cells #[x00, x01] t0)) x10 x11 x12 t1
  rw [World.size_alloc] at h1
  exact ⟨_, rfl, also (e0) e1, (h0.on e1), h1, by simp⟩
theorem bs_22 (w : World) (x00 x01 x10 x11 : Value) (t0 t1 : TypeId) : ∃ W, W = ((w.alloc (.cells #[x00, x01] t0)).alloc (.cells #[x10, x11] t1)) ∧ Below w.heap.size w W ∧ Bx W (w.heap.size) x00 x01 ∧ Bx W (w.heap.size + 1) x10 x11 ∧ w.heap.size + 1 < W.heap.size := by
  have e0 : Below w.heap.size w (w.alloc (.cells #[x00, x01] t0)) := (Below.refl _ _).alloc (Nat.le_refl _) _
  have h0 := bx_new w x00 x01 t0
  have e1 : Below (w.alloc (.cells #[x00, x01] t0)).heap.size (w.alloc (.cells #[x00, x01] t0)) ((w.alloc (.cells #[x00, x01] t0)).alloc (.cells #[x10, x11] t1)) := (Below.refl _ _).alloc (Nat.le_refl _) _
  have h1 := bx_new (w.alloc (.cells #[x00, x01] t0)) x10 x11 t1
  rw [World.size_alloc] at h1
  exact ⟨_, rfl, also (e0) e1, (h0.on e1), h1, by simp⟩
theorem bs_33 (w : World) (x00 x01 x02 x10 x11 x12 : Value) (t0 t1 : TypeId) : ∃ W, W = ((w.alloc (.cells #[x00, x01, x02] t0)).alloc (.cells #[x10, x11, x12] t1)) ∧ Below w.heap.size w W ∧ B3 W (w.heap.size) x00 x01 x02 ∧ B3 W (w.heap.size + 1) x10 x11 x12 ∧ w.heap.size + 1 < W.heap.size := by
  have e0 : Below w.heap.size w (w.alloc (.cells #[x00, x01, x02] t0)) := (Below.refl _ _).alloc (Nat.le_refl _) _
  have h0 := b3_new w x00 x01 x02 t0
  have e1 : Below (w.alloc (.cells #[x00, x01, x02] t0)).heap.size (w.alloc (.cells #[x00, x01, x02] t0)) ((w.alloc (.cells #[x00, x01, x02] t0)).alloc (.cells #[x10, x11, x12] t1)) := (Below.refl _ _).alloc (Nat.le_refl _) _
  have h1 := b3_new (w.alloc (.cells #[x00, x01, x02] t0)) x10 x11 x12 t1
  rw [World.size_alloc] at h1
  exact ⟨_, rfl, also (e0) e1, (h0.on e1), h1, by simp⟩
theorem bs_333 (w : World) (x00 x01 x02 x10 x11 x12 x20 x21 x22 : Value) (t0 t1 t2 : TypeId) : ∃ W, W = (((w.alloc (.cells #[x00, x01, x02] t0)).alloc (.cells #[x10, x11, x12] t1)).alloc (.cells #[x20, x21, x22] t2)) ∧ Below w.heap.size w W ∧ B3 W (w.heap.size) x00 x01 x02 ∧ B3 W (w.heap.size + 1) x10 x11 x12 ∧ B3 W (w.heap.size + 1 + 1) x20 x21 x22 ∧ w.heap.size + 1 + 1 < W.heap.size := by
  have e0 : Below w.heap.size w (w.alloc (.cells #[x00, x01, x02] t0)) := (Below.refl _ _).alloc (Nat.le_refl _) _
  have h0 := b3_new w x00 x01 x02 t0
  have e1 : Below (w.alloc (.cells #[x00, x01, x02] t0)).heap.size (w.alloc (.cells #[x00, x01, x02] t0)) ((w.alloc (.cells #[x00, x01, x02] t0)).alloc (.cells #[x10, x11, x12] t1)) := (Below.refl _ _).alloc (Nat.le_refl _) _
  have h1 := b3_new (w.alloc (.cells #[x00, x01, x02] t0)) x10 x11 x12 t1
  rw [World.size_alloc] at h1
  have e2 : Below ((w.alloc (.cells #[x00, x01, x02] t0)).alloc (.cells #[x10, x11, x12] t1)).heap.size ((w.alloc (.cells #[x00, x01, x02] t0)).alloc (.cells #[x10, x11, x12] t1)) (((w.alloc (.cells #[x00, x01, x02] t0)).alloc (.cells #[x10, x11, x12] t1)).alloc (.cells #[x20, x21, x22] t2)) := (Below.refl _ _).alloc (Nat.le_refl _) _
  have h2 := b3_new ((w.alloc (.cells #[x00, x01, x02] t0)).alloc (.cells #[x10, x11, x12] t1)) x20 x21 x22 t2
  rw [World.size_alloc, World.size_alloc] at h2
  exact ⟨_, rfl, also (also (e0) e1) e2, ((h0.on e1).on e2), (h1.on e2), h2, by simp⟩
theorem bs_3322 (w : World) (x00 x01 x02 x10 x11 x12 x20 x21 x30 x31 : Value) (t0 t1 t2 t3 : TypeId) : ∃ W, W = ((((w.alloc (.cells #[x00, x01, x02] t0)).alloc (.cells #[x10, x11, x12] t1)).alloc (.cells #[x20, x21] t2)).alloc (.cells #[x30, x31] t3)) ∧ Below w.heap.size w W ∧ B3 W (w.heap.size) x00 x01 x02 ∧ B3 W (w.heap.size + 1) x10 x11 x12 ∧ Bx W (w.heap.size + 1 + 1) x20 x21 ∧ Bx W (w.heap.size + 1 + 1 + 1) x30 x31 ∧ w.heap.size + 1 + 1 + 1 < W.heap.size := by
  have e0 : Below w.heap.size w (w.alloc (.cells #[x00, x01, x02] t0)) := (Below.refl _ _).alloc (Nat.le_refl _) _
  have h0 := b3_new w x00 x01 x02 t0
  have e1 : Below (w.alloc (.cells #[x00, x01, x02] t0)).heap.size (w.alloc (.cells #[x00, x01, x02] t0)) ((w.alloc (.cells #[x00, x01, x02] t0)).alloc (.cells #[x10, x11, x12] t1)) := (Below.refl _ _).alloc (Nat.le_refl _) _
  have h1 := b3_new (w.alloc (.cells #[x00, x01, x02] t0)) x10 x11 x12 t1
  rw [World.size_alloc] at h1
  have e2 : Below ((w.alloc (.cells #[x00, x01, x02] t0)).alloc (.cells #[x10, x11, x12] t1)).heap.size ((w.alloc (.cells #[x00, x01, x02] t0)).alloc (.cells #[x10, x11, x12] t1)) (((w.alloc (.cells #[x00, x01, x02] t0)).alloc (.cells #[x10, x11, x12] t1)).alloc (.cells #[x20, x21] t2)) := (Below.refl _ _).alloc (Nat.le_refl _) _
  have h2 := bx_new ((w.alloc (.cells #[x00, x01, x02] t0)).alloc (.cells #[x10, x11, x12] t1)) x20 x21 t2
  rw [World.size_alloc, World.size_alloc] at h2
  have e3 : Below (((w.alloc (.cells #[x00, x01, x02] t0)).alloc (.cells #[x10, x11, x12] t1)).alloc (.cells #[x20, x21] t2)).heap.size (((w.alloc (.cells #[x00, x01, x02] t0)).alloc (.cells #[x10, x11, x12] t1)).alloc (.cells #[x20, x21] t2)) ((((w.alloc (.cells #[x00, x01, x02] t0)).alloc (.cells #[x10, x11, x12] t1)).alloc (.cells #[x20, x21] t2)).alloc (.cells #[x30, x31] t3)) := (Below.refl _ _).alloc (Nat.le_refl _) _
  have h3 := bx_new (((w.alloc (.cells #[x00, x01, x02] t0)).alloc (.cells #[x10, x11, x12] t1)).alloc (.cells #[x20, x21] t2)) x30 x31 t3
  rw [World.size_alloc, World.size_alloc, World.size_alloc] at h3
  exact ⟨_, rfl, also (also (also (e0) e1) e2) e3, (((h0.on e1).on e2).on e3), ((h1.on e2).on e3), (h2.on e3), h3, by simp⟩
theorem bs_223 (w : World) (x00 x01 x10 x11 x20 x21 x22 : Value) (t0 t1 t2 : TypeId) : ∃ W, W = (((w.alloc (.cells #[x00, x01] t0)).alloc (.cells #[x10, x11] t1)).alloc (.cells #[x20, x21, x22] t2)) ∧ Below w.heap.size w W ∧ Bx W (w.heap.size) x00 x01 ∧ Bx W (w.heap.size + 1) x10 x11 ∧ B3 W (w.heap.size + 1 + 1) x20 x21 x22 ∧ w.heap.size + 1 + 1 < W.heap.size := by
  have e0 : Below w.heap.size w (w.alloc (.cells #[x00, x01] t0)) := (Below.refl _ _).alloc (Nat.le_refl _) _
  have h0 := bx_new w x00 x01 t0
  have e1 : Below (w.alloc (.cells #[x00, x01] t0)).heap.size (w.alloc (.cells #[x00, x01] t0)) ((w.alloc (.cells #[x00, x01] t0)).alloc (.cells #[x10, x11] t1)) := (Below.refl _ _).alloc (Nat.le_refl _) _
  have h1 := bx_new (w.alloc (.cells #[x00, x01] t0)) x10 x11 t1
  rw [World.size_alloc] at h1
  have e2 : Below ((w.alloc (.cells #[x00, x01] t0)).alloc (.cells #[x10, x11] t1)).heap.size ((w.alloc (.cells #[x00, x01] t0)).alloc (.cells #[x10, x11] t1)) (((w.alloc (.cells #[x00, x01] t0)).alloc (.cells #[x10, x11] t1)).alloc (.cells #[x20, x21, x22] t2)) := (Below.refl _ _).alloc (Nat.le_refl _) _
  have h2 := b3_new ((w.alloc (.cells #[x00, x01] t0)).alloc (.cells #[x10, x11] t1)) x20 x21 x22 t2
  rw [World.size_alloc, World.size_alloc] at h2
  exact ⟨_, rfl, also (also (e0) e1) e2, ((h0.on e1).on e2), (h1.on e2), h2, by simp⟩
theorem bs_2 (w : World) (x00 x01 : Value) (t0 : TypeId) : ∃ W, W = (w.alloc (.cells #[x00, x01] t0)) ∧ Below w.heap.size w W ∧ Bx W (w.heap.size) x00 x01 ∧ w.heap.size < W.heap.size := by
  have e0 : Below w.heap.size w (w.alloc (.cells #[x00, x01] t0)) := (Below.refl _ _).alloc (Nat.le_refl _) _
  have h0 := bx_new w x00 x01 t0
  exact ⟨_, rfl, e0, h0, by simp⟩
theorem bs_3 (w : World) (x00 x01 x02 : Value) (t0 : TypeId) : ∃ W, W = (w.alloc (.cells #[x00, x01, x02] t0)) ∧ Below w.heap.size w W ∧ B3 W (w.heap.size) x00 x01 x02 ∧ w.heap.size < W.heap.size := by
  have e0 : Below w.heap.size w (w.alloc (.cells #[x00, x01, x02] t0)) := (Below.refl _ _).alloc (Nat.le_refl _) _
  have h0 := b3_new w x00 x01 x02 t0
  exact ⟨_, rfl, e0, h0, by simp⟩
theorem bs_4 (w : World) (x00 x01 x02 x03 : Value) (t0 : TypeId) : ∃ W, W = (w.alloc (.cells #[x00, x01, x02, x03] t0)) ∧ Below w.heap.size w W ∧ B4 W (w.heap.size) x00 x01 x02 x03 ∧ w.heap.size < W.heap.size := by
  have e0 : Below w.heap.size w (w.alloc (.cells #[x00, x01, x02, x03] t0)) := (Below.refl _ _).alloc (Nat.le_refl _) _
  have h0 := b4_new w x00 x01 x02 x03 t0
  exact ⟨_, rfl, e0, h0, by simp⟩
theorem bs_34 (w : World) (x00 x01 x02 x10 x11 x12 x13 : Value) (t0 t1 : TypeId) : ∃ W, W = ((w.alloc (.cells #[x00, x01, x02] t0)).alloc (.cells #[x10, x11, x12, x13] t1)) ∧ Below w.heap.size w W ∧ B3 W (w.heap.size) x00 x01 x02 ∧ B4 W (w.heap.size + 1) x10 x11 x12 x13 ∧ w.heap.size + 1 < W.heap.size := by
  have e0 : Below w.heap.size w (w.alloc (.cells #[x00, x01, x02] t0)) := (Below.refl _ _).alloc (Nat.le_refl _) _
  have h0 := b3_new w x00 x01 x02 t0
  have e1 : Below (w.alloc (.cells #[x00, x01, x02] t0)).heap.size (w.alloc (.cells #[x00, x01, x02] t0)) ((w.alloc (.cells #[x00, x01, x02] t0)).alloc (.cells #[x10, x11, x12, x13] t1)) := (Below.refl _ _).alloc (Nat.le_refl _) _
  have h1 := b4_new (w.alloc (.cells #[x00, x01, x02] t0)) x10 x11 x12 x13 t1
  rw [World.size_alloc] at h1
  exact ⟨_, rfl, also (e0) e1, (h0.on e1), h1, by simp⟩
theorem bs_44 (w : World) (x00 x01 x02 x03 x10 x11 x12 x13 : Value) (t0 t1 : TypeId) : ∃ W, W = ((w.alloc (.cells #[x00, x01, x02, x03] t0)).alloc (.cells #[x10, x11, x12, x13] t1)) ∧ Below w.heap.size w W ∧ B4 W (w.heap.size) x00 x01 x02 x03 ∧ B4 W (w.heap.size + 1) x10 x11 x12 x13 ∧ w.heap.size + 1 < W.heap.size := by
  have e0 : Below w.heap.size w (w.alloc (.cells #[x00, x01, x02, x03] t0)) := (Below.refl _ _).alloc (Nat.le_refl _) _
  have h0 := b4_new w x00 x01 x02 x03 t0
  have e1 : Below (w.alloc (.cells #[x00, x01, x02, x03] t0)).heap.size (w.alloc (.cells #[x00, x01, x02, x03] t0)) ((w.alloc (.cells #[x00, x01, x02, x03] t0)).alloc (.cells #[x10, x11, x12, x13] t1)) := (Below.refl _ _).alloc (Nat.le_refl _) _
  have h1 := b4_new (w.alloc (.cells #[x00, x01, x02, x03] t0)) x10 x11 x12 x13 t1
  rw [World.size_alloc] at h1
  exact ⟨_, rfl, also (e0) e1, (h0.on e1), h1, by simp⟩
theorem bs_444 (w : World) (x00 x01 x02 x03 x10 x11 x12 x13 x20 x21 x22 x23 : Value) (t0 t1 t2 : TypeId) : ∃ W, W = (((w.alloc (.cells #[x00, x01, x02, x03] t0)).alloc (.cells #[x10, x11, x12, x13] t1)).alloc (.cells #[x20, x21, x22, x23] t2)) ∧ Below w.heap.size w W ∧ B4 W (w.heap.size) x00 x01 x02 x03 ∧ B4 W (w.heap.size + 1) x10 x11 x12 x13 ∧ B4 W (w.heap.size + 1 + 1) x20 x21 x22 x23 ∧ w.heap.size + 1 + 1 < W.heap.size := by
  have e0 : Below w.heap.size w (w.alloc (.cells #[x00, x01, x02, x03] t0)) := (Below.refl _ _).alloc (Nat.le_refl _) _
  have h0 := b4_new w x00 x01 x02 x03 t0
  have e1 : Below (w.alloc (.cells #[x00, x01, x02, x03] t0)).heap.size (w.alloc (.cells #[x00, x01, x02, x03] t0)) ((w.alloc (.cells #[x00, x01, x02, x03] t0)).alloc (.cells #[x10, x11, x12, x13] t1)) := (Below.refl _ _).alloc (Nat.le_refl _) _
  have h1 := b4_new (w.alloc (.cells #[x00, x01, x02, x03] t0)) x10 x11 x12 x13 t1
  rw [World.size_alloc] at h1
  have e2 : Below ((w.alloc (.cells #[x00, x01, x02, x03] t0)).alloc (.cells #[x10, x11, x12, x13] t1)).heap.size ((w.alloc (.cells #[x00, x01, x02, x03] t0)).alloc (.cells #[x10, x11, x12, x13] t1)) (((w.alloc (.cells #[x00, x01, x02, x03] t0)).alloc (.cells #[x10, x11, x12, x13] t1)).alloc (.cells #[x20, x21, x22, x23] t2)) := (Below.refl _ _).alloc (Nat.le_refl _) _
  have h2 := b4_new ((w.alloc (.cells #[x00, x01, x02, x03] t0)).alloc (.cells #[x10, x11, x12, x13] t1)) x20 x21 x22 x23 t2
  rw [World.size_alloc, World.size_alloc] at h2
  exact ⟨_, rfl, also (also (e0) e1) e2, ((h0.on e1).on e2), (h1.on e2), h2, by simp⟩
theorem bs_224 (w : World) (x00 x01 x10 x11 x20 x21 x22 x23 : Value) (t0 t1 t2 : TypeId) : ∃ W, W = (((w.alloc (.cells #[x00, x01] t0)).alloc (.cells #[x10, x11] t1)).alloc (.cells #[x20, x21, x22, x23] t2)) ∧ Below w.heap.size w W ∧ Bx W (w.heap.size) x00 x01 ∧ Bx W (w.heap.size + 1) x10 x11 ∧ B4 W (w.heap.size + 1 + 1) x20 x21 x22 x23 ∧ w.heap.size + 1 + 1 < W.heap.size := by
  have e0 : Below w.heap.size w (w.alloc (.cells #[x00, x01] t0)) := (Below.refl _ _).alloc (Nat.le_refl _) _
  have h0 := bx_new w x00 x01 t0
  have e1 : Below (w.alloc (.cells #[x00, x01] t0)).heap.size (w.alloc (.cells #[x00, x01] t0)) ((w.alloc (.cells #[x00, x01] t0)).alloc (.cells #[x10, x11] t1)) := (Below.refl _ _).alloc (Nat.le_refl _) _
  have h1 := bx_new (w.alloc (.cells #[x00, x01] t0)) x10 x11 t1
  rw [World.size_alloc] at h1
  have e2 : Below ((w.alloc (.cells #[x00, x01] t0)).alloc (.cells #[x10, x11] t1)).heap.size ((w.alloc (.cells #[x00, x01] t0)).alloc (.cells #[x10, x11] t1)) (((w.alloc (.cells #[x00, x01] t0)).alloc (.cells #[x10, x11] t1)).alloc (.cells #[x20, x21, x22, x23] t2)) := (Below.refl _ _).alloc (Nat.le_refl _) _
  have h2 := b4_new ((w.alloc (.cells #[x00, x01] t0)).alloc (.cells #[x10, x11] t1)) x20 x21 x22 x23 t2
  rw [World.size_alloc, World.size_alloc] at h2
  exact ⟨_, rfl, also (also (e0) e1) e2, ((h0.on e1).on e2), (h1.on e2), h2, by simp⟩
theorem bs_42 (w : World) (x00 x01 x02 x03 x10 x11 : Value) (t0 t1 : TypeId) : ∃ W, W = ((w.alloc (.cells #[x00, x01, x02, x03] t0)).alloc (.cells #[x10, x11] t1)) ∧ Below w.heap.size w W ∧ B4 W (w.heap.size) x00 x01 x02 x03 ∧ Bx W (w.heap.size + 1) x10 x11 ∧ w.heap.size + 1 < W.heap.size := by
  have e0 : Below w.heap.size w (w.alloc (.cells #[x00, x01, x02, x03] t0)) := (Below.refl _ _).alloc (Nat.le_refl _) _
  have h0 := b4_new w x00 x01 x02 x03 t0
  have e1 : Below (w.alloc (.cells #[x00, x01, x02, x03] t0)).heap.size (w.alloc (.cells #[x00, x01, x02, x03] t0)) ((w.alloc (.cells #[x00, x01, x02, x03] t0)).alloc (.cells #[x10, x11] t1)) := (Below.refl _ _).alloc (Nat.le_refl _) _
  have h1 := bx_new (w.alloc (.cells #[x00, x01, x02, x03] t0)) x10 x11 t1
  rw [World.size_alloc] at h1
  exact ⟨_, rfl, also (e0) e1, (h0.on e1), h1, by simp⟩
theorem bs_43 (w : World) (x00 x01 x02 x03 x10 x11 x12 : Value) (t0 t1 : TypeId) : ∃ W, W = ((w.alloc (.cells #[x00, x01, x02, x03] t0)).alloc (.cells #[x10, x11, x12] t1)) ∧ Below w.heap.size w W ∧ B4 W (w.heap.size) x00 x01 x02 x03 ∧ B3 W (w.heap.size + 1) x10 x11 x12 ∧ w.heap.size + 1 < W.heap.size := by
  have e0 : Below w.heap.size w (w.alloc (.cells #[x00, x01, x02, x03] t0)) := (Below.refl _ _).alloc (Nat.le_refl _) _
  have h0 := b4_new w x00 x01 x02 x03 t0
  have e1 : Below (w.alloc (.cells #[x00, x01, x02, x03] t0)).heap.size (w.alloc (.cells #[x00, x01, x02, x03] t0)) ((w.alloc (.cells #[x00, x01, x02, x03] t0)).alloc (.cells #[x10, x11, x12] t1)) := (Below.refl _ _).alloc (Nat.le_refl _) _
  have h1 := b3_new (w.alloc (.cells #[x00, x01, x02, x03] t0)) x10 x11 x12 t1
  rw [World.size_alloc] at h1
  exact ⟨_, rfl, also (e0) e1, (h0.on e1), h1, by simp⟩
theorem bs_222 (w : World) (x00 x01 x10 x11 x20 x21 : Value) (t0 t1 t2 : TypeId) : ∃ W, W = (((w.alloc (.cells #[x00, x01] t0)).alloc (.cells #[x10, x11] t1)).alloc (.cells #[x20, x21] t2)) ∧ Below w.heap.size w W ∧ Bx W (w.heap.size) x00 x01 ∧ Bx W (w.heap.size + 1) x10 x11 ∧ Bx W (w.heap.size + 1 + 1) x20 x21 ∧ w.heap.size + 1 + 1 < W.heap.size := by
  have e0 : Below w.heap.size w (w.alloc (.cells #[x00, x01] t0)) := (Below.refl _ _).alloc (Nat.le_refl _) _
  have h0 := bx_new w x00 x01 t0
  have e1 : Below (w.alloc (.cells #[x00, x01] t0)).heap.size (w.alloc (.cells #[x00, x01] t0)) ((w.alloc (.cells #[x00, x01] t0)).alloc (.cells #[x10, x11] t1)) := (Below.refl _ _).alloc (Nat.le_refl _) _
  have h1 := bx_new (w.alloc (.cells #[x00, x01] t0)) x10 x11 t1
  rw [World.size_alloc] at h1
  have e2 : Below ((w.alloc (.cells #[x00, x01] t0)).alloc (.cells #[x10, x11] t1)).heap.size ((w.alloc (.cells #[x00, x01] t0)).alloc (.cells #[x10, x11] t1)) (((w.alloc (.cells #[x00, x01] t0)).alloc (.cells #[x10, x11] t1)).alloc (.cells #[x20, x21] t2)) := (Below.refl _ _).alloc (Nat.le_refl _) _
  have h2 := bx_new ((w.alloc (.cells #[x00, x01] t0)).alloc (.cells #[x10, x11] t1)) x20 x21 t2
  rw [World.size_alloc, World.size_alloc] at h2
  exact ⟨_, rfl, also (also (e0) e1) e2, ((h0.on e1).on e2), (h1.on e2), h2, by simp⟩
theorem bs_332 (w : World) (x00 x01 x02 x10 x11 x12 x20 x21 : Value) (t0 t1 t2 : TypeId) : ∃ W, W = (((w.alloc (.cells #[x00, x01, x02] t0)).alloc (.cells #[x10, x11, x12] t1)).alloc (.cells #[x20, x21] t2)) ∧ Below w.heap.size w W ∧ B3 W (w.heap.size) x00 x01 x02 ∧ B3 W (w.heap.size + 1) x10 x11 x12 ∧ Bx W (w.heap.size + 1 + 1) x20 x21 ∧ w.heap.size + 1 + 1 < W.heap.size := by
  have e0 : Below w.heap.size w (w.alloc (.cells #[x00, x01, x02] t0)) := (Below.refl _ _).alloc (Nat.le_refl _) _
  have h0 := b3_new w x00 x01 x02 t0
  have e1 : Below (w.alloc (.cells #[x00, x01, x02] t0)).heap.size (w.alloc (.cells #[x00, x01, x02] t0)) ((w.alloc (.cells #[x00, x01, x02] t0)).alloc (.cells #[x10, x11, x12] t1)) := (Below.refl _ _).alloc (Nat.le_refl _) _
  have h1 := b3_new (w.alloc (.cells #[x00, x01, x02] t0)) x10 x11 x12 t1
  rw [World.size_alloc] at h1
  have e2 : Below ((w.alloc (.cells #[x00, x01, x02] t0)).alloc (.cells #[x10, x11, x12] t1)).heap.size ((w.alloc (.cells #[x00, x01, x02] t0)).alloc (.cells #[x10, x11, x12] t1)) (((w.alloc (.cells #[x00, x01, x02] t0)).alloc (.cells #[x10, x11, x12] t1)).alloc (.cells #[x20, x21] t2)) := (Below.refl _ _).alloc (Nat.le_refl _) _
  have h2 := bx_new ((w.alloc (.cells #[x00, x01, x02] t0)).alloc (.cells #[x10, x11, x12] t1)) x20 x21 t2
  rw [World.size_alloc, World.size_alloc] at h2
  exact ⟨_, rfl, also (also (e0) e1) e2, ((h0.on e1).on e2), (h1.on e2), h2, by simp⟩
theorem bs_2222 (w : World) (x00 x01 x10 x11 x20 x21 x30 x31 : Value) (t0 t1 t2 t3 : TypeId) : ∃ W, W = ((((w.alloc (.cells #[x00, x01] t0)).alloc (.cells #[x10, x11] t1)).alloc (.cells #[x20, x21] t2)).alloc (.cells #[x30, x31] t3)) ∧ Below w.heap.size w W ∧ Bx W (w.heap.size) x00 x01 ∧ Bx W (w.heap.size + 1) x10 x11 ∧ Bx W (w.heap.size + 1 + 1) x20 x21 ∧ Bx W (w.heap.size + 1 + 1 + 1) x30 x31 ∧ w.heap.size + 1 + 1 + 1 < W.heap.size := by
  have e0 : Below w.heap.size w (w.alloc (.cells #[x00, x01] t0)) := (Below.refl _ _).alloc (Nat.le_refl _) _
  have h0 := bx_new w x00 x01 t0
  have e1 : Below (w.alloc (.cells #[x00, x01] t0)).heap.size (w.alloc (.cells #[x00, x01] t0)) ((w.alloc (.cells #[x00, x01] t0)).alloc (.cells #[x10, x11] t1)) := (Below.refl _ _).alloc (Nat.le_refl _) _
  have h1 := bx_new (w.alloc (.cells #[x00, x01] t0)) x10 x11 t1
  rw [World.size_alloc] at h1
  have e2 : Below ((w.alloc (.cells #[x00, x01] t0)).alloc (.cells #[x10, x11] t1)).heap.size ((w.alloc (.cells #[x00, x01] t0)).alloc (.cells #[x10, x11] t1)) (((w.alloc (.cells #[x00, x01] t0)).alloc (.cells #[x10, x11] t1)).alloc (.cells #[x20, x21] t2)) := (Below.refl _ _).alloc (Nat.le_refl _) _
  have h2 := bx_new ((w.alloc (.cells #[x00, x01] t0)).alloc (.cells #[x10, x11] t1)) x20 x21 t2
  rw [World.size_alloc, World.size_alloc] at h2
  have e3 : Below (((w.alloc (.cells #[x00, x01] t0)).alloc (.cells #[x10, x11] t1)).alloc (.cells #[x20, x21] t2)).heap.size (((w.alloc (.cells #[x00, x01] t0)).alloc (.cells #[x10, x11] t1)).alloc (.cells #[x20, x21] t2)) ((((w.alloc (.cells #[x00, x01] t0)).alloc (.cells #[x10, x11] t1)).alloc (.cells #[x20, x21] t2)).alloc (.cells #[x30, x31] t3)) := (Below.refl _ _).alloc (Nat.le_refl _) _
  have h3 := bx_new (((w.alloc (.cells #[x00, x01] t0)).alloc (.cells #[x10, x11] t1)).alloc (.cells #[x20, x21] t2)) x30 x31 t3
  rw [World.size_alloc, World.size_alloc, World.size_alloc] at h3
  exact ⟨_, rfl, also (also (also (e0) e1) e2) e3, (((h0.on e1).on e2).on e3), ((h1.on e2).on e3), (h2.on e3), h3, by simp⟩
theorem bs_22222 (w : World) (x00 x01 x10 x11 x20 x21 x30 x31 x40 x41 : Value) (t0 t1 t2 t3 t4 : TypeId) : ∃ W, W = (((((w.alloc (.cells #[x00, x01] t0)).alloc (.cells #[x10, x11] t1)).alloc (.cells #[x20, x21] t2)).alloc (.cells #[x30, x31] t3)).alloc (.cells #[x40, x41] t4)) ∧ Below w.heap.size w W ∧ Bx W (w.heap.size) x00 x01 ∧ Bx W (w.heap.size + 1) x10 x11 ∧ Bx W (w.heap.size + 1 + 1) x20 x21 ∧ Bx W (w.heap.size + 1 + 1 + 1) x30 x31 ∧ Bx W (w.heap.size + 1 + 1 + 1 + 1) x40 x41 ∧ w.heap.size + 1 + 1 + 1 + 1 < W.heap.size := by
  have e0 : Below w.heap.size w (w.alloc (.cells #[x00, x01] t0)) := (Below.refl _ _).alloc (Nat.le_refl _) _
  have h0 := bx_new w x00 x01 t0
  have e1 : Below (w.alloc (.cells #[x00, x01] t0)).heap.size (w.alloc (.cells #[x00, x01] t0)) ((w.alloc (.cells #[x00, x01] t0)).alloc (.cells #[x10, x11] t1)) := (Below.refl _ _).alloc (Nat.le_refl _) _
  have h1 := bx_new (w.alloc (.cells #[x00, x01] t0)) x10 x11 t1
  rw [World.size_alloc] at h1
  have e2 : Below ((w.alloc (.cells #[x00, x01] t0)).alloc (.cells #[x10, x11] t1)).heap.size ((w.alloc (.cells #[x00, x01] t0)).alloc (.cells #[x10, x11] t1)) (((w.alloc (.cells #[x00, x01] t0)).alloc (.cells #[x10, x11] t1)).alloc (.cells #[x20, x21] t2)) := (Below.refl _ _).alloc (Nat.le_refl _) _
  have h2 := bx_new ((w.alloc (.cells #[x00, x01] t0)).alloc (.cells #[x10, x11] t1)) x20 x21 t2
  rw [World.size_alloc, World.size_alloc] at h2
  have e3 : Below (((w.alloc (.cells #[x00, x01] t0)).alloc (.cells #[x10, x11] t1)).alloc (.cells #[x20, x21] t2)).heap.size (((w.alloc (.cells #[x00, x01] t0)).alloc (.cells #[x10, x11] t1)).alloc (.cells #[x20, x21] t2)) ((((w.alloc (.cells #[x00, x01] t0)).alloc (.cells #[x10, x11] t1)).alloc (.cells #[x20, x21] t2)).alloc (.cells #[x30, x31] t3)) := (Below.refl _ _).alloc (Nat.le_refl _) _
  have h3 := bx_new (((w.alloc (.cells #[x00, x01] t0)).alloc (.cells #[x10, x11] t1)).alloc (.cells #[x20, x21] t2)) x30 x31 t3
  rw [World.size_alloc, World.size_alloc, World.size_alloc] at h3
  have e4 : Below ((((w.alloc (.cells #[x00, x01] t0)).alloc (.cells #[x10, x11] t1)).alloc (.cells #[x20, x21] t2)).alloc (.cells #[x30, x31] t3)).heap.size ((((w.alloc (.cells #[x00, x01] t0)).alloc (.cells #[x10, x11] t1)).alloc (.cells #[x20, x21] t2)).alloc (.cells #[x30, x31] t3)) (((((w.alloc (.cells #[x00, x01] t0)).alloc (.cells #[x10, x11] t1)).alloc (.cells #[x20, x21] t2)).alloc (.cells #[x30, x31] t3)).alloc (.cells #[x40, x41] t4)) := (Below.refl _ _).alloc (Nat.le_refl _) _
  have h4 := bx_new ((((w.alloc (.cells #[x00, x01] t0)).alloc (.cells #[x10, x11] t1)).alloc (.cells #[x20, x21] t2)).alloc (.cells #[x30, x31] t3)) x40 x41 t4
  rw [World.size_alloc, World.size_alloc, World.size_alloc, World.size_alloc] at h4
  exact ⟨_, rfl, also (also (also (also (e0) e1) e2) e3) e4, ((((h0.on e1).on e2).on e3).on e4), (((h1.on e2).on e3).on e4), ((h2.on e3).on e4), (h3.on e4), h4, by simp⟩
theorem bs_22224 (w : World) (x00 x01 x10 x11 x20 x21 x30 x31 x40 x41 x42 x43 : Value) (t0 t1 t2 t3 t4 : TypeId) : ∃ W, W = (((((w.alloc (.cells #[x00, x01] t0)).alloc (.cells #[x10, x11] t1)).alloc (.cells #[x20, x21] t2)).alloc (.cells #[x30, x31] t3)).alloc (.cells #[x40, x41, x42, x43] t4)) ∧ Below w.heap.size w W ∧ Bx W (w.heap.size) x00 x01 ∧ Bx W (w.heap.size + 1) x10 x11 ∧ Bx W (w.heap.size + 1 + 1) x20 x21 ∧ Bx W (w.heap.size + 1 + 1 + 1) x30 x31 ∧ B4 W (w.heap.size + 1 + 1 + 1 + 1) x40 x41 x42 x43 ∧ w.heap.size + 1 + 1 + 1 + 1 < W.heap.size := by
  have e0 : Below w.heap.size w (w.alloc (.cells #[x00, x01] t0)) := (Below.refl _ _).alloc (Nat.le_refl _) _
  have h0 := bx_new w x00 x01 t0
  have e1 : Below (w.alloc (.cells #[x00, x01] t0)).heap.size (w.alloc (.cells #[x00, x01] t0)) ((w.alloc (.cells #[x00, x01] t0)).alloc (.cells #[x10, x11] t1)) := (Below.refl _ _).alloc (Nat.le_refl _) _
  have h1 := bx_new (w.alloc (.cells #[x00, x01] t0)) x10 x11 t1
  rw [World.size_alloc] at h1
  have e2 : Below ((w.alloc (.cells #[x00, x01] t0)).alloc (.cells #[x10, x11] t1)).heap.size ((w.alloc (.cells #[x00, x01] t0)).alloc (.cells #[x10, x11] t1)) (((w.alloc (.cells #[x00, x01] t0)).alloc (.cells #[x10, x11] t1)).alloc (.cells #[x20, x21] t2)) := (Below.refl _ _).alloc (Nat.le_refl _) _
  have h2 := bx_new ((w.alloc (.cells #[x00, x01] t0)).alloc (.cells #[x10, x11] t1)) x20 x21 t2
  rw [World.size_alloc, World.size_alloc] at h2
  have e3 : Below (((w.alloc (.cells #[x00, x01] t0)).alloc (.cells #[x10, x11] t1)).alloc (.cells #[x20, x21] t2)).heap.size (((w.alloc (.cells #[x00, x01] t0)).alloc (.cells #[x10, x11] t1)).alloc (.cells #[x20, x21] t2)) ((((w.alloc (.cells #[x00, x01] t0)).alloc (.cells #[x10, x11] t1)).alloc (.cells #[x20, x21] t2)).alloc (.cells #[x30, x31] t3)) := (Below.refl _ _).alloc (Nat.le_refl _) _
  have h3 := bx_new (((w.alloc (.cells #[x00, x01] t0)).alloc (.cells #[x10, x11] t1)).alloc (.cells #[x20, x21] t2)) x30 x31 t3
  rw [World.size_alloc, World.size_alloc, World.size_alloc] at h3
  have e4 : Below ((((w.alloc (.cells #[x00, x01] t0)).alloc (.cells #[x10, x11] t1)).alloc (.cells #[x20, x21] t2)).alloc (.cells #[x30, x31] t3)).heap.size ((((w.alloc (.cells #[x00, x01] t0)).alloc (.cells #[x10, x11] t1)).alloc (.cells #[x20, x21] t2)).alloc (.cells #[x30, x31] t3)) (((((w.alloc (.cells #[x00, x01] t0)).alloc (.cells #[x10, x11] t1)).alloc (.cells #[x20, x21] t2)).alloc (.cells #[x30, x31] t3)).alloc (.cells #[x40, x41, x42, x43] t4)) := (Below.refl _ _).alloc (Nat.le_refl _) _
  have h4 := b4_new ((((w.alloc (.cells #[x00, x01] t0)).alloc (.cells #[x10, x11] t1)).alloc (.cells #[x20, x21] t2)).alloc (.cells #[x30, x31] t3)) x40 x41 x42 x43 t4
  rw [World.size_alloc, World.size_alloc, World.size_alloc, World.size_alloc] at h4
  exact ⟨_, rfl, also (also (also (also (e0) e1) e2) e3) e4, ((((h0.on e1).on e2).on e3).on e4), (((h1.on e2).on e3).on e4), ((h2.on e3).on e4), (h3.on e4), h4, by simp⟩
theorem bs_222222 (w : World) (x00 x01 x10 x11 x20 x21 x30 x31 x40 x41 x50 x51 : Value) (t0 t1 t2 t3 t4 t5 : TypeId) : ∃ W, W = ((((((w.alloc (.cells #[x00, x01] t0)).alloc (.cells #[x10, x11] t1)).alloc (.cells #[x20, x21] t2)).alloc (.cells #[x30, x31] t3)).alloc (.cells #[x40, x41] t4)).alloc (.cells #[x50, x51] t5)) ∧ Below w.heap.size w W ∧ Bx W (w.heap.size) x00 x01 ∧ Bx W (w.heap.size + 1) x10 x11 ∧ Bx W (w.heap.size + 1 + 1) x20 x21 ∧ Bx W (w.heap.size + 1 + 1 + 1) x30 x31 ∧ Bx W (w.heap.size + 1 + 1 + 1 + 1) x40 x41 ∧ Bx W (w.heap.size + 1 + 1 + 1 + 1 + 1) x50 x51 ∧ w.heap.size + 1 + 1 + 1 + 1 + 1 < W.heap.size := by
  have e0 : Below w.heap.size w (w.alloc (.cells #[x00, x01] t0)) := (Below.refl _ _).alloc (Nat.le_refl _) _
  have h0 := bx_new w x00 x01 t0
  have e1 : Below (w.alloc (.cells #[x00, x01] t0)).heap.size (w.alloc (.cells #[x00, x01] t0)) ((w.alloc (.cells #[x00, x01] t0)).alloc (.cells #[x10, x11] t1)) := (Below.refl _ _).alloc (Nat.le_refl _) _
  have h1 := bx_new (w.alloc (.cells #[x00, x01] t0)) x10 x11 t1
  rw [World.size_alloc] at h1
  have e2 : Below ((w.alloc (.cells #[x00, x01] t0)).alloc (.cells #[x10, x11] t1)).heap.size ((w.alloc (.cells #[x00, x01] t0)).alloc (.cells #[x10, x11] t1)) (((w.alloc (.cells #[x00, x01] t0)).alloc (.cells #[x10, x11] t1)).alloc (.cells #[x20, x21] t2)) := (Below.refl _ _).alloc (Nat.le_refl _) _
  have h2 := bx_new ((w.alloc (.cells #[x00, x01] t0)).alloc (.cells #[x10, x11] t1)) x20 x21 t2
  rw [World.size_alloc, World.size_alloc] at h2
  have e3 : Below (((w.alloc (.cells #[x00, x01] t0)).alloc (.cells #[x10, x11] t1)).alloc (.cells #[x20, x21] t2)).heap.size (((w.alloc (.cells #[x00, x01] t0)).alloc (.cells #[x10, x11] t1)).alloc (.cells #[x20, x21] t2)) ((((w.alloc (.cells #[x00, x01] t0)).alloc (.cells #[x10, x11] t1)).alloc (.cells #[x20, x21] t2)).alloc (.cells #[x30, x31] t3)) := (Below.refl _ _).alloc (Nat.le_refl _) _
  have h3 := bx_new (((w.alloc (.cells #[x00, x01] t0)).alloc (.cells #[x10, x11] t1)).alloc (.cells #[x20, x21] t2)) x30 x31 t3
  rw [World.size_alloc, World.size_alloc, World.size_alloc] at h3
  have e4 : Below ((((w.alloc (.cells #[x00, x01] t0)).alloc (.cells #[x10, x11] t1)).alloc (.cells #[x20, x21] t2)).alloc (.cells #[x30, x31] t3)).heap.size ((((w.alloc (.cells #[x00, x01] t0)).alloc (.cells #[x10, x11] t1)).alloc (.cells #[x20, x21] t2)).alloc (.cells #[x30, x31] t3)) (((((w.alloc (.cells #[x00, x01] t0)).alloc (.cells #[x10, x11] t1)).alloc (.cells #[x20, x21] t2)).alloc (.cells #[x30, x31] t3)).alloc (.cells #[x40, x41] t4)) := (Below.refl _ _).alloc (Nat.le_refl _) _
  have h4 := bx_new ((((w.alloc (.cells #[x00, x01] t0)).alloc (.cells #[x10, x11] t1)).alloc (.cells #[x20, x21] t2)).alloc (.cells #[x30, x31] t3)) x40 x41 t4
  rw [World.size_alloc, World.size_alloc, World.size_alloc, World.size_alloc] at h4
  have e5 : Below (((((w.alloc (.cells #[x00, x01] t0)).alloc (.cells #[x10, x11] t1)).alloc (.cells #[x20, x21] t2)).alloc (.cells #[x30, x31] t3)).alloc (.cells #[x40, x41] t4)).heap.size (((((w.alloc (.cells #[x00, x01] t0)).alloc (.cells #[x10, x11] t1)).alloc (.cells #[x20, x21] t2)).alloc (.cells #[x30, x31] t3)).alloc (.cells #[x40, x41] t4)) ((((((w.alloc (.cells #[x00, x01] t0)).alloc (.cells #[x10, x11] t1)).alloc (.cells #[x20, x21] t2)).alloc (.cells #[x30, x31] t3)).alloc (.cells #[x40, x41] t4)).alloc (.cells #[x50, x51] t5)) := (Below.refl _ _).alloc (Nat.le_refl _) _
  have h5 := bx_new (((((w.alloc (.cells #[x00, x01] t0)).alloc (.cells #[x10, x11] t1)).alloc (.cells #[x20, x21] t2)).alloc (.cells #[x30, x31] t3)).alloc (.cells #[x40, x41] t4)) x50 x51 t5
  rw [World.size_alloc, World.size_alloc, World.size_alloc, World.size_alloc, World.size_alloc] at h5
  exact ⟨_, rfl, also (also (also (also (also (e0) e1) e2) e3) e4) e5, (((((h0.on e1).on e2).on e3).on e4).on e5), ((((h1.on e2).on e3).on e4).on e5), (((h2.on e3).on e4).on e5), ((h3.on e4).on e5), (h4.on e5), h5, by simp⟩
end Go.Proofs.Ytnemailhijkemaa

namespace Go.Proofs.Ytnemailhijkemaa
open Go.RowKit
set_option linter.unusedVariables false

theorem wsign_cases (x : Int) : (x < 0 ∧ x.sign = -1) ∨ (x = 0 ∧ x.sign = 0) ∨ (0 < x ∧ x.sign = 1) := by
  rcases Int.lt_trichotomy x 0 with h | h | h
  · exact Or.inl ⟨h, Int.sign_eq_neg_one_of_neg h⟩
  · exact Or.inr (Or.inl ⟨h, Int.sign_eq_zero_iff_zero.2 h⟩)
  · exact Or.inr (Or.inr ⟨h, Int.sign_eq_one_of_pos h⟩)
theorem cmpI_sign (a b : Int) : cmpI a b = (a - b).sign := by
  unfold cmpI
  rcases wsign_cases (a - b) with ⟨h, e⟩ | ⟨h, e⟩ | ⟨h, e⟩
  · rw [if_pos (by omega), e]
  · rw [if_neg (by omega), if_neg (by omega), e]
  · rw [if_neg (by omega), if_pos (by omega), e]
end Go.Proofs.Ytnemailhijkemaa

namespace Go.Proofs.Ytnemailhijkemaa
open Go.RowKit
set_option linter.unusedVariables false

/-- A number of 64 bits, or none. -/
def smOk (z : Int) : Bool := decide (-9223372036854775808 ≤ z ∧ z ≤ 9223372036854775807)
def smV (z : Int) : Int := if smOk z then z else 0
theorem bt_more {u : Nat} (h : 64 < bt.nlen u) : 18446744073709551616 ≤ u := by
  refine Nat.le_of_not_lt fun hlt => ?_
  have := bt.nlen_le (n := 64) (v := u) hlt
  omega
theorem bt_less {u : Nat} (h : bt.nlen u ≤ 64) : u < 18446744073709551616 := Nat.lt_of_lt_of_le (bt.nlen_lt u) (Nat.le_trans (Nat.pow_le_pow_right (by decide) h) (by decide))
theorem cmpLong_any (x y : Int) (w : World) :
    Calls Try.prog 56 #[.int .i64 x, .int .i64 y] w fun e w' => e = .returned (.int .i64 (cmpI x y)) ∧ w = w' := by
  unfold cmpI
  go_enter Try.func56, Try.ntmps56
  go_wp2
  all_goals (go_ret; exact ⟨rfl, rfl⟩)
theorem sm_step (U j : Nat) (hj : j ≤ 1) : bits BinOp.or IntKind.u64 ((U : Int) % 4294967296 ^ j) (IntKind.u64.wrap (wd.dg (U : Int) j * 2 ^ (32 * j))) = ((U % 4294967296 ^ (j + 1) : Nat) : Int) := by
  obtain ⟨d0, d1⟩ := wd.dg_range (U : Int) j
  obtain ⟨D, hD⟩ := Int.eq_ofNat_of_zero_le d0
  have hdn := wd.dg_nat U j
  rw [hD] at hdn d1 ⊢
  rcases j with _ | _ | j
  · simp only [Int.pow_zero, Nat.mul_zero, Int.mul_one, Int.emod_one, Nat.zero_add, Nat.pow_one]
    rw [show IntKind.u64.wrap (D : Int) = (D : Int) by rw [IntKind.wrap_u64]; omega, show (0 : Int) = ((0 : Nat) : Int) from rfl, u64_or_nat _ _ (by omega) (by omega), Nat.zero_or]
    simp at hdn
    omega
  · rw [show IntKind.u64.wrap ((D : Int) * 2 ^ (32 * (0 + 1))) = ((D * 4294967296 : Nat) : Int) by rw [IntKind.wrap_u64]; simp; omega]
    have h1 : ((U : Int) % 4294967296 ^ (0 + 1)) = ((U % 4294967296 : Nat) : Int) := by simp
    rw [h1, u64_or_nat _ _ (by omega) (by omega), Nat.or_comm, nat_join 32 (D * 4294967296) (U % 4294967296) (by omega) (by omega)]
    simp at hdn
    rw [show (4294967296 : Nat) ^ (0 + 1 + 1) = 18446744073709551616 from rfl]
    omega
  · omega
/-- What holds at the head of each round. -/
def SmRel (w : World) (U K : Nat) (mag i : Value) (wr : World) : Prop := ∃ j : Nat, j ≤ K ∧ i = .int .i64 (j : Int) ∧ mag = .int .u64 ((U % 4294967296 ^ j : Nat) : Int) ∧ wr = w
/-- The word as a number of 64 bits, with its sign: it has that sign just if there is room for it. -/
theorem sm_math (n : Bool) (z : Int) (U : Nat) (hU : U < 18446744073709551616) (hz : z = sgz n U) :
    ∃ V0 V : Int, IntKind.i64.wrap (U : Int) = V0 ∧ (n = true → wrap64 (-V0) = V) ∧ (n = false → V0 = V) ∧ (smOk z = true → cmpI V 0 = z.sign ∧ V = z) ∧ (smOk z = false → cmpI V 0 ≠ z.sign) := by
  refine ⟨IntKind.i64.wrap (U : Int), if n then wrap64 (-(IntKind.i64.wrap (U : Int))) else IntKind.i64.wrap (U : Int), rfl, fun h => by rw [h]; rfl, fun h => by rw [h]; rfl, ?_, ?_⟩
  all_goals
    rw [IntKind.wrap_i64]
    unfold smOk wrap64
    rw [cmpI_sign, hz]
    unfold sgz
    cases n
    · simp only [Bool.false_eq_true, if_false, decide_eq_true_eq, decide_eq_false_iff_not, Int.sub_zero]
      intro h
      first
        | (have e : ((U : Int) + 9223372036854775808) % 18446744073709551616 - 9223372036854775808 = U := by omega
           rw [e]; exact ⟨rfl, rfl⟩)
        | (rw [Int.sign_eq_neg_one_of_neg (show ((U : Int) + 9223372036854775808) % 18446744073709551616 - 9223372036854775808 < 0 by omega), Int.sign_eq_one_of_pos (show (0 : Int) < U by omega)]; decide)
    · simp only [if_true, decide_eq_true_eq, decide_eq_false_iff_not, Int.sub_zero]
      intro h
      first
        | (have e : (-(((U : Int) + 9223372036854775808) % 18446744073709551616 - 9223372036854775808) + 9223372036854775808) % 18446744073709551616 - 9223372036854775808 = -(U : Int) := by omega
           rw [e]; exact ⟨rfl, rfl⟩)
        | (rw [Int.sign_eq_one_of_pos (show 0 < (-(((U : Int) + 9223372036854775808) % 18446744073709551616 - 9223372036854775808) + 9223372036854775808) % 18446744073709551616 - 9223372036854775808 by omega), Int.sign_eq_neg_one_of_neg (show -(U : Int) < 0 by omega)]; decide)
end Go.Proofs.Ytnemailhijkemaa

namespace Go.Proofs.Ytnemailhijkemaa
open Go.RowKit
set_option linter.unusedVariables false

theorem lCoord (c : Int) (w : World) {b : Bool} (hb : b = inC c) : Calls Try.prog 28 #[.int .i64 c] w fun e w' => e = .returned (.bool b) ∧ Below w.heap.size w w' := by
  subst hb
  unfold inC
  go_enter Try.func28, Try.ntmps28
  go_wp2
  all_goals (go_ret; exact ⟨by simp; omega, Below.refl _ _⟩)
theorem lCmp (x y z t : Int) (w : World) {g : Int} (hg : g = cmpP x y z t) : Calls Try.prog 37 #[.agg #[.int .i64 x, .int .i64 y], .agg #[.int .i64 z, .int .i64 t]] w fun e w' => e = .returned (.int .i64 g) ∧ Below w.heap.size w w' := by
  subst hg
  unfold cmpP
  by_cases g : x = z
  · have g' : (x == z) = true := by simpa using g
    rw [if_pos g]
    clear g
    go_enter Try.func37, Try.ntmps37
    go_wp2_with (go_at_call 56; refine (cmpLong_any y t _).mono ?_; rintro e w' ⟨rfl, hw⟩; subst hw)
    go_ret
    exact ⟨rfl, ((Below.refl _ _).alloc (Nat.le_refl _) _).alloc (by simp) _⟩
  · have g' : (x == z) = false := by simpa using g
    rw [if_neg g]
    clear g
    go_enter Try.func37, Try.ntmps37
    go_wp2_with (go_at_call 56; refine (cmpLong_any x z _).mono ?_; rintro e w' ⟨rfl, hw⟩; subst hw)
    go_ret
    exact ⟨rfl, ((Below.refl _ _).alloc (Nat.le_refl _) _).alloc (by simp) _⟩
theorem fold_bound {c s : Int} (hs : sideC s = true) (hc : inC c = true) : -1099511627776 ≤ c / s ∧ c / s ≤ 1099511627776 ∧ 0 ≤ c % s ∧ c % s < s ∧ s ≤ 1099511627776 := by
  obtain ⟨s1, s2⟩ := sideC_true.1 hs
  obtain ⟨c1, c2⟩ := inC_true.1 hc
  refine ⟨(Int.le_ediv_iff_mul_le (by omega)).2 (by omega), ?_, Int.emod_nonneg _ (by omega), Int.emod_lt_of_pos _ (by omega), s2⟩
  have : c / s < 1099511627777 := (Int.ediv_lt_iff_lt_mul (by omega)).2 (by omega)
  omega
set_option maxRecDepth 100000 in
theorem lCan (x y : Int) (w : World) {b : Bool} (hb : b = canC x y) : Calls Try.prog 17 #[.agg #[.int .i64 x, .int .i64 y]] w fun e w' => e = .returned (.bool b) ∧ Below w.heap.size w w' := by
  subst hb
  unfold canC
  cases hx : inC x
  · skip
    obtain ⟨W, hW, bW, x_p, sW⟩ := bs_2 w (.int .i64 x) (.int .i64 y) 23
    have zbW := bW.size
    have BB := bW
    go_enter Try.func17, Try.ntmps17
    go_wp2_with (go_at_call 28; fail)
    rw [← hW]
    clear hW
    refine (lCoord x W hx.symm).mono ?_
    rintro e w1 ⟨rfl, bw1⟩
    have zbw1 := bw1.size
    replace BB := also BB bw1
    replace x_p := x_p.on bw1
    have ⟨x_p_0, x_p_1, x_p_2, x_p_3⟩ := x_p
    go_wp2
    go_ret
    exact ⟨by simp, BB⟩
  · skip
    obtain ⟨W, hW, bW, x_p, sW⟩ := bs_2 w (.int .i64 x) (.int .i64 y) 23
    have zbW := bW.size
    have BB := bW
    go_enter Try.func17, Try.ntmps17
    go_wp2_with (go_at_call 28; fail)
    rw [← hW]
    clear hW
    refine (lCoord x W hx.symm).mono ?_
    rintro e w1 ⟨rfl, bw1⟩
    have zbw1 := bw1.size
    replace BB := also BB bw1
    replace x_p := x_p.on bw1
    have ⟨x_p_0, x_p_1, x_p_2, x_p_3⟩ := x_p
    go_wp2_with (go_at_call 28; fail)
    refine (lCoord y w1 rfl).mono ?_
    rintro e w2 ⟨rfl, bw2⟩
    clear x_p_0 x_p_1 x_p_2 x_p_3
    have zbw2 := bw2.size
    replace BB := also BB bw2
    replace x_p := x_p.on bw2
    go_wp2
    go_ret
    exact ⟨by simp, BB⟩
end Go.Proofs.Ytnemailhijkemaa

namespace Go.Proofs.Ytnemailhijkemaa.lw
open Go.RowKit

/-- The high word, with its sign, of a number taken modulo 2^128. -/
def hi (v : Int) : Int := (v / 18446744073709551616 + 9223372036854775808) % 18446744073709551616 - 9223372036854775808
/-- The low word, without a sign. -/
def lo (v : Int) : Int := v % 18446744073709551616

theorem hi_range (v : Int) : -9223372036854775808 ≤ hi v ∧ hi v < 9223372036854775808 := by unfold hi; omega
theorem lo_range (v : Int) : 0 ≤ lo v ∧ lo v < 18446744073709551616 := by unfold lo; omega
/-- Every pair of words is some number's. -/
theorem hi_mk (h l : Int) (h1 : -9223372036854775808 ≤ h) (h2 : h ≤ 9223372036854775807) (l1 : 0 ≤ l) (l2 : l ≤ 18446744073709551615) : hi (h * 18446744073709551616 + l) = h := by unfold hi; omega
theorem lo_mk (h l : Int) (l1 : 0 ≤ l) (l2 : l ≤ 18446744073709551615) : lo (h * 18446744073709551616 + l) = l := by unfold lo; omega

/-- The borrow, under a name. -/
def bor (x y : Int) : Int := if x < y then 1 else 0
theorem bor_range (x y : Int) : 0 ≤ bor x y ∧ bor x y ≤ 1 := by unfold bor; split <;> decide

theorem hi_0 : (0 : Int) = hi 0 := by decide
theorem lo_0 : (0 : Int) = lo 0 := by decide
theorem add_lo (a b : Int) : (lo a + lo b) % 18446744073709551616 = lo (a + b) := by unfold lo; omega
theorem add_hi (a b : Int) : wrap64 ((IntKind.u64.wrap (hi a) + IntKind.u64.wrap (hi b) + (lo a + lo b) / 18446744073709551616) % 18446744073709551616) = hi (a + b) := by
  rw [IntKind.wrap_u64, IntKind.wrap_u64]; unfold hi lo wrap64; omega
theorem sub_lo (a b : Int) : (lo a - lo b) % 18446744073709551616 = lo (a - b) := by unfold lo; omega
theorem sub_hi (a b : Int) : wrap64 ((IntKind.u64.wrap (hi a) - IntKind.u64.wrap (hi b) - bor (lo a) (lo b)) % 18446744073709551616) = hi (a - b) := by
  rw [IntKind.wrap_u64, IntKind.wrap_u64]; unfold bor wrap64; split <;> (simp only [hi, lo] at *; omega)
theorem of_hi (n : Int) (h0 : -9223372036854775808 ≤ n) (h1 : n ≤ 9223372036854775807) : n / 9223372036854775808 = hi n := by unfold hi; omega
theorem of_lo (n : Int) : IntKind.u64.wrap n = lo n := by rw [IntKind.wrap_u64]; rfl

theorem mask32 (x : Int) (h0 : 0 ≤ x) (h1 : x < 18446744073709551616) : bits .and .u64 x 4294967295 = x % 4294967296 := by
  obtain ⟨n, rfl⟩ := Int.eq_ofNat_of_zero_le h0
  have h := bits_and_u64_nat n 4294967295 (by omega) (by omega)
  have e : n &&& 4294967295 = n % 4294967296 := Nat.and_two_pow_sub_one_eq_mod n 32
  rw [e] at h
  exact h.trans (by omega)
theorem half_mul (a b : Int) (a0 : 0 ≤ a) (a1 : a < 4294967296) (b0 : 0 ≤ b) (b1 : b < 4294967296) : 0 ≤ a * b ∧ a * b ≤ 18446744065119617025 := by
  refine ⟨Int.mul_nonneg a0 b0, ?_⟩
  have := Int.mul_le_mul (show a ≤ 4294967295 by omega) (show b ≤ 4294967295 by omega) b0 (by decide)
  omega
theorem school (a b c d : Int) : (a * 4294967296 + b) * (c * 4294967296 + d) = a * c * 18446744073709551616 + a * d * 4294967296 + b * c * 4294967296 + b * d := by
  have h1 : a * 4294967296 * (c * 4294967296) = a * c * (4294967296 * 4294967296) := by rw [Int.mul_assoc a, Int.mul_left_comm 4294967296 c, ← Int.mul_assoc]
  have h2 : a * 4294967296 * d = a * d * 4294967296 := by rw [Int.mul_assoc a, Int.mul_comm 4294967296 d, ← Int.mul_assoc]
  have h3 : b * (c * 4294967296) = b * c * 4294967296 := (Int.mul_assoc b c _).symm
  rw [Int.add_mul, Int.mul_add, Int.mul_add, h1, h2, h3]
  omega
theorem mul64_hi (x y : Int) (x0 : 0 ≤ x) (x1 : x < 18446744073709551616) (y0 : 0 ≤ y) (y1 : y < 18446744073709551616) :
    IntKind.u64.wrap (IntKind.u64.wrap (IntKind.u64.wrap (x / 4294967296 * (y / 4294967296)) + IntKind.u64.wrap (IntKind.u64.wrap (x / 4294967296 * bits .and .u64 y 4294967295) + IntKind.u64.wrap (bits .and .u64 x 4294967295 * bits .and .u64 y 4294967295) / 4294967296) / 4294967296) +
      IntKind.u64.wrap (bits .and .u64 (IntKind.u64.wrap (IntKind.u64.wrap (x / 4294967296 * bits .and .u64 y 4294967295) + IntKind.u64.wrap (bits .and .u64 x 4294967295 * bits .and .u64 y 4294967295) / 4294967296)) 4294967295 + IntKind.u64.wrap (bits .and .u64 x 4294967295 * (y / 4294967296))) / 4294967296) = x * y / 18446744073709551616 := by
  rw [mask32 x x0 x1, mask32 y y0 y1, mask32 (IntKind.u64.wrap _) (wrap_u64_nonneg _) (by rw [IntKind.wrap_u64]; omega)]
  have e := school (x / 4294967296) (x % 4294967296) (y / 4294967296) (y % 4294967296)
  have ex : x / 4294967296 * 4294967296 + x % 4294967296 = x := by omega
  have ey : y / 4294967296 * 4294967296 + y % 4294967296 = y := by omega
  rw [ex, ey] at e
  rw [e]
  have b1 := half_mul (x / 4294967296) (y / 4294967296) (by omega) (by omega) (by omega) (by omega)
  have b2 := half_mul (x / 4294967296) (y % 4294967296) (by omega) (by omega) (by omega) (by omega)
  have b3 := half_mul (x % 4294967296) (y / 4294967296) (by omega) (by omega) (by omega) (by omega)
  have b4 := half_mul (x % 4294967296) (y % 4294967296) (by omega) (by omega) (by omega) (by omega)
  clear e ex ey
  generalize x / 4294967296 * (y / 4294967296) = p1 at *
  generalize x / 4294967296 * (y % 4294967296) = p2 at *
  generalize x % 4294967296 * (y / 4294967296) = p3 at *
  generalize x % 4294967296 * (y % 4294967296) = p4 at *
  simp only [IntKind.wrap_u64]
  omega

/-- What is left of a product of two words that were taken without their signs. -/
theorem mul_lo (a b : Int) : IntKind.u64.wrap a * IntKind.u64.wrap b % 18446744073709551616 = lo (a * b) := by
  rw [IntKind.wrap_u64, IntKind.wrap_u64]; unfold lo; exact (Int.mul_emod a b _).symm
theorem ret_tup2 {k l : IntKind} {a b c d : Int} (h : a = c) (h' : b = d) : Ending.returned (.tuple #[.int k a, .int l b]) = .returned (.tuple #[.int k c, .int l d]) := by rw [h, h']
theorem ret_int {k : IntKind} {a b : Int} (h : a = b) : Ending.returned (.int k a) = .returned (.int k b) := by rw [h]

/-- Division by ten of a number of two words, as math/bits.Div64 does it: the divisor stands at the top of its word, and its lower half is empty. -/
theorem div_q (r l : Int) (r0 : 0 ≤ r) (r1 : r < 10) (l0 : 0 ≤ l) (l1 : l < 18446744073709551616) : 0 ≤ r * 1152921504606846976 + l / 16 ∧ r * 1152921504606846976 + l / 16 < 11529215046068469760 := by omega
theorem bd_i64 {x : Int} (h : (Lit.int .i64 x).wf = true) : -9223372036854775808 ≤ x ∧ x ≤ 9223372036854775807 := by
  simp [Lit.wf, IntKind.min, IntKind.max, IntKind.signed, IntKind.bits] at h
  exact ⟨by omega, by omega⟩
theorem bd_u64 {x : Int} (h : (Lit.int .u64 x).wf = true) : 0 ≤ x ∧ x ≤ 18446744073709551615 := by
  simp [Lit.wf, IntKind.min, IntKind.max, IntKind.signed, IntKind.bits] at h
  exact ⟨by omega, by omega⟩
/-- -1, 0, 1: how two numbers lie. -/
def cmpI (x y : Int) : Int := if x < y then -1 else if y < x then 1 else 0
end Go.Proofs.Ytnemailhijkemaa.lw

namespace Go.Proofs.Ytnemailhijkemaa.lw
open Go.RowKit

theorem add64 (x y c : Int) (hx : 0 ≤ x) (hy : 0 ≤ y) (hc0 : 0 ≤ c) (hc : c ≤ 1) (w : World) : (callFunc 54 #[.int .u64 x, .int .u64 y, .int .u64 c]).run Try.prog w =
    .ok (.value (.tuple #[.int .u64 ((x + y + c) % 18446744073709551616), .int .u64 ((x + y + c) / 18446744073709551616)])) w := by
  rw [run_callFunc_extern Try.func54 (by kernel_rfl) (by kernel_rfl) (by kernel_rfl) (e := add64Entry) (by kernel_rfl), run_add64 x y c hx hy hc0 hc]
  rfl
theorem add64_0 (x y : Int) (hx : 0 ≤ x) (hy : 0 ≤ y) (w : World) : (callFunc 54 #[.int .u64 x, .int .u64 y, .int .u64 0]).run Try.prog w =
    .ok (.value (.tuple #[.int .u64 ((x + y) % 18446744073709551616), .int .u64 ((x + y) / 18446744073709551616)])) w := by
  simpa using add64 x y 0 hx hy (Int.le_refl 0) (by decide) w
theorem sub64 (x y b : Int) (hx : 0 ≤ x) (hy : 0 ≤ y) (hy' : y < 18446744073709551616) (hb0 : 0 ≤ b) (hb : b ≤ 1) (w : World) : (callFunc 66 #[.int .u64 x, .int .u64 y, .int .u64 b]).run Try.prog w =
    .ok (.value (.tuple #[.int .u64 ((x - y - b) % 18446744073709551616), .int .u64 (bor x (y + b))])) w := by
  obtain ⟨x, rfl⟩ := Int.eq_ofNat_of_zero_le hx
  obtain ⟨y, rfl⟩ := Int.eq_ofNat_of_zero_le hy
  obtain ⟨b, rfl⟩ := Int.eq_ofNat_of_zero_le hb0
  have e1 : (((x + 18446744073709551616 - y - b) % 18446744073709551616 : Nat) : Int) = ((x : Int) - y - b) % 18446744073709551616 := by omega
  have e2 : ((if x < y + b then 1 else 0 : Nat) : Int) = bor x (y + b) := by unfold bor; split <;> split <;> omega
  rw [← e1, ← e2, run_callFunc_extern Try.func66 (by kernel_rfl) (by kernel_rfl) (by kernel_rfl) (e := sub64Entry) (by kernel_rfl), run_sub64 x y b (by omega)]
  rfl
theorem sub64_0 (x y : Int) (hx : 0 ≤ x) (hy : 0 ≤ y) (hy' : y < 18446744073709551616) (w : World) : (callFunc 66 #[.int .u64 x, .int .u64 y, .int .u64 0]).run Try.prog w =
    .ok (.value (.tuple #[.int .u64 ((x - y) % 18446744073709551616), .int .u64 (bor x y)])) w := by
  simpa using sub64 x y 0 hx hy hy' (Int.le_refl 0) (by decide) w

theorem add_any {ah al bh bl : Int} (a b : Int) (ha : ah = hi a) (hl : al = lo a) (hb : bh = hi b) (hm : bl = lo b) (w : World) :
    Calls Try.prog 51 #[.agg #[.int .i64 ah, .int .u64 al], .agg #[.int .i64 bh, .int .u64 bl]] w fun e w' =>
      e = .returned (.agg #[.int .i64 (hi (a + b)), .int .u64 (lo (a + b))]) ∧ Below w.heap.size w w' := by
  subst ha hl hb hm
  obtain ⟨a1, a2⟩ := lo_range a; obtain ⟨b1, b2⟩ := lo_range b
  have k0 : 0 ≤ (lo a + lo b) / 18446744073709551616 := by omega
  have k1 : (lo a + lo b) / 18446744073709551616 ≤ 1 := by omega
  have k2 := wrap_u64_nonneg (hi a)
  have k3 := wrap_u64_nonneg (hi b)
  go_enter Try.func51, Try.ntmps51
  go_wp2_with (first | simp only [add64_0 (lo a) (lo b) a1 b1] | simp only [add64 _ _ _ k2 k3 k0 k1])
  refine bodyPost_ret (v := .agg #[.int .i64 (hi (a + b)), .int .u64 (lo (a + b))]) (by simp [results, Try.results51, go_sem, add_lo, add_hi]) rfl ⟨rfl, ?_⟩
  exact (((Below.refl _ _).alloc (Nat.le_refl _) _).alloc (by simp) _).alloc (by simp; omega) _

theorem sub_any {ah al bh bl : Int} (a b : Int) (ha : ah = hi a) (hl : al = lo a) (hb : bh = hi b) (hm : bl = lo b) (w : World) :
    Calls Try.prog 53 #[.agg #[.int .i64 ah, .int .u64 al], .agg #[.int .i64 bh, .int .u64 bl]] w fun e w' =>
      e = .returned (.agg #[.int .i64 (hi (a - b)), .int .u64 (lo (a - b))]) ∧ Below w.heap.size w w' := by
  subst ha hl hb hm
  obtain ⟨a1, a2⟩ := lo_range a; obtain ⟨b1, b2⟩ := lo_range b
  obtain ⟨k0, k1⟩ := bor_range (lo a) (lo b)
  have k2 := wrap_u64_nonneg (hi a)
  have k3 := wrap_u64_nonneg (hi b)
  have k4 : IntKind.u64.wrap (hi b) < 18446744073709551616 := by rw [IntKind.wrap_u64]; omega
  go_enter Try.func53, Try.ntmps53
  go_wp2_with (first | simp only [sub64_0 (lo a) (lo b) a1 b1 b2] | simp only [sub64 _ _ _ k2 k3 k4 k0 k1])
  refine bodyPost_ret (v := .agg #[.int .i64 (hi (a - b)), .int .u64 (lo (a - b))]) (by simp [results, Try.results53, go_sem, sub_lo, sub_hi]) rfl ⟨rfl, ?_⟩
  exact (((Below.refl _ _).alloc (Nat.le_refl _) _).alloc (by simp) _).alloc (by simp; omega) _

theorem mul64_any (x y : Int) (x0 : 0 ≤ x) (x1 : x < 18446744073709551616) (y0 : 0 ≤ y) (y1 : y < 18446744073709551616) (w : World) :
    Calls Try.prog 67 #[.int .u64 x, .int .u64 y] w fun e w' => e = .returned (.tuple #[.int .u64 (x * y / 18446744073709551616), .int .u64 (x * y % 18446744073709551616)]) ∧ w' = w := by
  go_enter Try.func67, Try.ntmps67
  go_wp2
  go_ret2
  exact ⟨ret_tup2 (mul64_hi x y x0 x1 y0 y1) (IntKind.wrap_u64 _), rfl⟩

theorem cmpI64_any (x y : Int) (w : World) :
    Calls Try.prog 56 #[.int .i64 x, .int .i64 y] w fun e w' => e = .returned (.int .i64 (cmpI x y)) ∧ w' = w := by
  unfold cmpI
  go_enter Try.func56, Try.ntmps56
  go_wp2
  all_goals (go_ret; exact ⟨rfl, rfl⟩)
theorem cmpU64_any (x y : Int) (w : World) :
    Calls Try.prog 64 #[.int .u64 x, .int .u64 y] w fun e w' => e = .returned (.int .i64 (cmpI x y)) ∧ w' = w := by
  unfold cmpI
  go_enter Try.func64, Try.ntmps64
  go_wp2
  all_goals (go_ret; exact ⟨rfl, rfl⟩)
end Go.Proofs.Ytnemailhijkemaa.lw

namespace Go.Proofs.Ytnemailhijkemaa.lw
open Go.RowKit
set_option linter.unusedVariables false
theorem or60 (r l : Int) (r0 : 0 ≤ r) (r1 : r < 10) (l0 : 0 ≤ l) (l1 : l < 18446744073709551616) : bits .or .u64 (r * 1152921504606846976) (l / 16) = r * 1152921504606846976 + l / 16 := by
  obtain ⟨r, rfl⟩ := Int.eq_ofNat_of_zero_le r0
  obtain ⟨l, rfl⟩ := Int.eq_ofNat_of_zero_le l0
  have h := bits_or_u64_nat (r * 1152921504606846976) (l / 16) (by omega) (by omega)
  have e := Nat.shiftLeft_add_eq_or_of_lt (i := 60) (b := l / 16) (by omega) r
  rw [Nat.shiftLeft_eq] at e
  have e2 : r * 1152921504606846976 ||| l / 16 = r * 1152921504606846976 + l / 16 := e.symm
  rw [e2] at h
  refine Eq.trans ?_ (h.trans (by omega))
  congr 1
theorem div10 (r l U q1 L V q0 : Int) (r0 : 0 ≤ r) (r1 : r < 10) (l0 : 0 ≤ l) (l1 : l < 18446744073709551616) (hU : U = r * 1152921504606846976 + l / 16) (hL : L = l % 16 * 1152921504606846976) (hq : q1 = U / 2684354560)
    (hV : V = (U - q1 * 2684354560) * 4294967296 + L / 4294967296) (hq0 : q0 = V / 2684354560) :
    q1 * 4294967296 + q0 = (r * 18446744073709551616 + l) / 10 ∧ (V - q0 * 2684354560) * 4294967296 / 1152921504606846976 = (r * 18446744073709551616 + l) % 10 := by omega
theorem rem_fin (V q0 : Int) (v0 : 0 ≤ V) (v1 : V < 11529215046068469760) (b2 : 0 ≤ V - q0 * 2684354560) (b3 : V - q0 * 2684354560 < 2684354560) :
    IntKind.u64.wrap (IntKind.u64.wrap (IntKind.u64.wrap (V * 4294967296)) - IntKind.u64.wrap (q0 * 11529215046068469760)) / 1152921504606846976 = (V - q0 * 2684354560) * 4294967296 / 1152921504606846976 := by
  simp only [IntKind.wrap_u64]; omega
theorem divTen_words (h l : Int) (h0 : 0 ≤ h) (h1 : h < 18446744073709551616) (l0 : 0 ≤ l) (l1 : l < 18446744073709551616) :
    h / 10 = (h * 18446744073709551616 + l) / 10 / 18446744073709551616 ∧ (h % 10 * 18446744073709551616 + l) / 10 = (h * 18446744073709551616 + l) / 10 % 18446744073709551616 ∧ (h % 10 * 18446744073709551616 + l) % 10 = (h * 18446744073709551616 + l) % 10 := by omega
theorem ret_tup3 {k : IntKind} {a b c d e f : Int} (h : a = d) (h' : b = e) (h'' : c = f) : Ending.returned (.tuple #[.int k a, .int k b, .int k c]) = .returned (.tuple #[.int k d, .int k e, .int k f]) := by rw [h, h', h'']
end Go.Proofs.Ytnemailhijkemaa.lw

namespace Go.Proofs.Ytnemailhijkemaa.lw

/-- The last k decimal digits of m, as bytes, the highest first. -/
def digs : Nat → Nat → List Int
  | 0, _ => []
  | k + 1, m => (48 + (m / 10 ^ k % 10 : Nat) : Int) :: digs k m
theorem digs_length (k m : Nat) : (digs k m).length = k := by induction k with | zero => rfl | succ k ih => simp [digs, ih]
theorem digs_snoc (k m : Nat) : digs (k + 1) m = digs k (m / 10) ++ [(48 + (m % 10 : Nat) : Int)] := by
  induction k with
  | zero => simp [digs]
  | succ k ih =>
    rw [digs, ih, digs, List.cons_append, Nat.div_div_eq_div_mul, Nat.pow_succ, Nat.mul_comm 10]
/-- m has k digits: nought has one. -/
def IsLen (m k : Nat) : Prop := 1 ≤ k ∧ m < 10 ^ k ∧ (k = 1 ∨ 10 ^ (k - 1) ≤ m)
theorem isLen_one {m k k' : Nat} (h : IsLen m k) (h' : IsLen m k') : k = k' := by
  obtain ⟨a, b, c⟩ := h
  obtain ⟨a', b', c'⟩ := h'
  rcases Nat.lt_trichotomy k k' with e | e | e
  · rcases c' with c' | c'
    · omega
    · have := Nat.pow_le_pow_right (n := 10) (by decide) (show k ≤ k' - 1 by omega)
      omega
  · exact e
  · rcases c with c | c
    · omega
    · have := Nat.pow_le_pow_right (n := 10) (by decide) (show k' ≤ k - 1 by omega)
      omega
/-- How many digits m has, looked for up to so many. -/
def ndigF : Nat → Nat → Nat
  | 0, _ => 1
  | f + 1, m => if m < 10 then 1 else ndigF f (m / 10) + 1
def ndig (m : Nat) : Nat := ndigF 60 m
theorem isLen_ndigF : ∀ f m : Nat, m < 10 ^ (f + 1) → IsLen m (ndigF f m)
  | 0, m, h => ⟨Nat.le_refl _, h, Or.inl rfl⟩
  | f + 1, m, h => by
    unfold ndigF
    by_cases hm : m < 10
    · rw [if_pos hm]; exact ⟨Nat.le_refl _, hm, Or.inl rfl⟩
    · rw [if_neg hm]
      obtain ⟨a, b, c⟩ := isLen_ndigF f (m / 10) (by rw [Nat.pow_succ] at h; omega)
      refine ⟨by omega, ?_, Or.inr ?_⟩
      · rw [Nat.pow_succ]; omega
      · rcases c with c | c
        · rw [c]; simp; omega
        · have e : ndigF f (m / 10) + 1 - 1 = ndigF f (m / 10) - 1 + 1 := by omega
          rw [e, Nat.pow_succ]; omega
theorem isLen_ndig (m : Nat) (h : m < 10 ^ 61) : IsLen m (ndig m) := isLen_ndigF 60 m h
theorem ndig_eq {m k : Nat} (hm : m < 10 ^ 61) (h : IsLen m k) : ndig m = k := isLen_one (isLen_ndig m hm) h
/-- The text of a number, as bytes. -/
def showI (a : Int) : List Int := (if a < 0 then [45] else []) ++ digs (ndig a.natAbs) a.natAbs
def showS (a : Int) : ByteArray := strOfNums (showI a)

/-- What the array of 40 bytes holds when it is written from place p + 1 on. -/
def cellsD (p : Nat) (l : List Int) : List Value := List.replicate p (.int .u8 0) ++ l.map (Value.int .u8)
theorem cellsD_length (p : Nat) (l : List Int) : (cellsD p l).length = p + l.length := by simp [cellsD]
theorem set_replicate {α : Type} (z d : α) (n : Nat) (l : List α) : (List.replicate (n + 1) z ++ l).set n d = List.replicate n z ++ d :: l := by
  rw [List.replicate_succ', List.append_assoc, List.set_append_right _ _ (by simp)]
  simp
theorem cellsD_set (p : Nat) (l : List Int) (d : Int) : (cellsD (p + 1) l).set p (.int .u8 d) = cellsD p (d :: l) := by
  unfold cellsD
  rw [set_replicate, List.map_cons]
theorem cellsD_at (p : Nat) (l : List Int) : (cellsD (p + 1) l)[p]? = some (.int .u8 0) := by
  unfold cellsD
  rw [List.getElem?_append_left (by simp), List.getElem?_replicate, if_pos (by omega)]
theorem cellsD_read (p : Nat) (l : List Int) (i : Nat) (h : i < l.length) : (cellsD p l)[p + i]? = some (.int .u8 (l.getD i 0)) := by
  unfold cellsD
  rw [List.getElem?_append_right (by simp)]
  simp [h, List.getD]
theorem pow39 (m k : Nat) (h : m ≤ 170141183460469231731687303715884105728) (hk : 39 ≤ k) : m / 10 ^ k = 0 := by
  refine Nat.div_eq_of_lt ?_
  have := Nat.pow_le_pow_right (n := 10) (by decide) hk
  omega
/-- The digits gathered so far, when the division has come to nought: the whole text. -/
theorem isLen_of {m k : Nat} (h1 : 1 ≤ k) (hq : m / 10 ^ k = 0) (hl : k ≤ 1 ∨ 10 ^ (k - 1) ≤ m) : IsLen m k := by
  refine ⟨h1, ?_, ?_⟩
  · rcases (Nat.div_eq_zero_iff).1 hq with h | h
    · have := Nat.pow_pos (n := k) (show 0 < 10 by decide); omega
    · exact h
  · rcases hl with h | h
    · exact Or.inl (by omega)
    · exact Or.inr h
theorem le_of_div_ne {m k q : Nat} (hq : q = m / 10 ^ k) (h : q ≠ 0) : 10 ^ k ≤ m := by
  rcases Nat.lt_or_ge m (10 ^ k) with l | l
  · rw [Nat.div_eq_of_lt l] at hq; omega
  · exact l
end Go.Proofs.Ytnemailhijkemaa.lw

namespace Go.Proofs.Ytnemailhijkemaa.lw
open Go.RowKit
set_option linter.unusedVariables false
set_option maxRecDepth 100000

theorem mag_words_neg (a : Int) (h0 : -170141183460469231731687303715884105728 ≤ a) (h1 : a < 0) : IntKind.u64.wrap (hi (-a)) = (a.natAbs : Int) / 18446744073709551616 ∧ lo (-a) = (a.natAbs : Int) % 18446744073709551616 := by
  rw [IntKind.wrap_u64]; unfold hi lo; omega
theorem mag_words_pos (a : Int) (h0 : 0 ≤ a) (h1 : a < 170141183460469231731687303715884105728) : IntKind.u64.wrap (hi a) = (a.natAbs : Int) / 18446744073709551616 ∧ lo a = (a.natAbs : Int) % 18446744073709551616 := by
  rw [IntKind.wrap_u64]; unfold hi lo; omega
theorem hi_neg (a : Int) (h0 : -170141183460469231731687303715884105728 ≤ a) (h1 : a < 0) : hi a < 0 := by unfold hi; omega
theorem hi_pos (a : Int) (h0 : 0 ≤ a) (h1 : a < 170141183460469231731687303715884105728) : ¬ hi a < 0 := by unfold hi; omega

end Go.Proofs.Ytnemailhijkemaa.lw

namespace Go.Proofs.Ytnemailhijkemaa.lw
open Go.RowKit
set_option linter.unusedVariables false
set_option maxRecDepth 100000

theorem ret_string {a b : ByteArray} (h : a = b) : Ending.returned (.string a) = .returned (.string b) := by rw [h]
/-- What holds at the head of each round of Show's loop. -/
def ShowRel (w1 : World) (m : Nat) (x y f : Value) (wr : World) : Prop := ∃ p q : Nat, p ≤ 39 ∧ q = m / 10 ^ (39 - p) ∧ x = .int .u64 ((q : Int) / 18446744073709551616) ∧ y = .int .u64 ((q : Int) % 18446744073709551616) ∧ f = .int .i64 ((p : Int) + 1) ∧
  Row wr w1.heap.size (cellsD (p + 1) (digs (39 - p) m)) ∧ Below w1.heap.size w1 wr ∧ (39 - p ≤ 1 ∨ 10 ^ (39 - p - 1) ≤ m)
theorem showRel_next (w1 wr : World) (m p q n : Nat) (hp : p + 1 ≤ 39) (hq : q = m / 10 ^ (39 - (p + 1))) (hrow : Row wr w1.heap.size (cellsD (p + 1 + 1) (digs (39 - (p + 1)) m))) (hb : Below w1.heap.size w1 wr) (hgo : 39 - (p + 1) = 0 ∨ q ≠ 0) :
    ShowRel w1 m (.int .u64 ((q : Int) / 10 / 18446744073709551616)) (.int .u64 ((q : Int) / 10 % 18446744073709551616)) (.int .i64 ((p : Int) + 1)) ((wr.drewN n).setCell ⟨w1.heap.size, p + 1, none⟩ (.int .u8 (48 + (q : Int) % 10))) := by
  have e : 39 - p = 39 - (p + 1) + 1 := by omega
  refine ⟨p, q / 10, by omega, ?_, by simp, by simp, rfl, ?_, (below_drewN hb n).setCell (Nat.le_refl _) _, ?_⟩
  · rw [hq, Nat.div_div_eq_div_mul, e, Nat.pow_succ]
  · have h := (hrow.drewN n).set (p + 1) (.int .u8 (48 + (q : Int) % 10)) (by rw [cellsD_length, digs_length]; omega)
    rw [cellsD_set] at h
    rw [e, digs, ← hq]
    have e2 : ((48 : Int) + ((q % 10 : Nat) : Int)) = 48 + (q : Int) % 10 := by simp
    rw [e2]
    exact h
  · rcases hgo with h | h
    · exact Or.inl (by omega)
    · right
      have := le_of_div_ne hq h
      have e3 : 39 - p - 1 = 39 - (p + 1) := by omega
      rw [e3]; exact this
/-- What the text is when the loop is left. -/
theorem showRel_text {m p : Nat} {a : Int} (hm : a.natAbs = m) (hm' : m ≤ 170141183460469231731687303715884105728) (hp : p < 39) (hq : 0 = m / 10 ^ (39 - p)) (hl : 39 - p ≤ 1 ∨ 10 ^ (39 - p - 1) ≤ m) :
    showI a = (if a < 0 then [45] else []) ++ digs (39 - p) m := by
  unfold showI
  rw [hm, ndig_eq (by omega) (isLen_of (by omega) hq.symm hl)]

end Go.Proofs.Ytnemailhijkemaa.lw
