/-
  Joined texts, part 1:
  Rows of values in one block of memory: what is read of them behind a store, a draw, a new block, a call that leaves old memory alone. It imports nothing of the program.
  Slices in memory, wherever they begin in their block: what is read of them behind a store, a draw, a new block, a call. It imports nothing of the program.
  Objects that calls change in place: which blocks a call may write (Keep F: all others stay), lists of ints in memory of one's own, append onto them. It imports nothing of the program.
  The numbers of an arena: those that are lent and those that came back are all below its top, each once. It imports nothing of the program.
  Numbers as digits to the base 4294967296: which digits a sum, a difference, a product has. It imports nothing of the program.
  How many digits a number needs, to the base 4294967296, and its digits without noughts at the end. It imports nothing of the program.
  The arithmetic of a difference, and of a division by a small number, digit by digit. It imports nothing of the program.
  The arithmetic of a product, digit by digit. It imports nothing of the program.
  Digits to the base 4294967296, cut, joined, held against each other. It imports nothing of the program.
  What nat's strip and wordAt answer.
  What nat's Trim and Of answer; sums and differences of words.
  Sums and differences of words.
  What nat's Add answers.
  What nat's addTimes and Mul answer.
  What nat's divideByWord answers.
  What nat's subTimes and addBack answer.
  What nat's DivMod answers, where the divisor is nought, longer, or one word.
  Numbers as digits to the base 2: which digits a sum, a difference, a product has. It imports nothing of the program.
  How many digits a number needs, to the base 2, and its digits without noughts at the end. It imports nothing of the program.
  How many bits a number needs: math/bits.Len32 off the shelf, nat's Bits, and zelligeref03's Half and Bits.
  What nat's shiftUp and shiftDown answer, and math/bits.LeadingZeros32.
  What nat's guess answers: right, or one too high.
  What nat's shiftDown and takeOff answer.
  What nat's divideLong answers, and DivMod where the divisor has two words at least.
  What nat's DivMod answers.
  slices.Backward over a nat: what a loop over it is handed.
  A region whose order is open, an operation at a time: one that is wanted and yields in every world of interest, one that is not wanted, a call. It imports nothing of the program.
  What nat's Cmp answers.
  What nat's Cmp answers where both numbers have the same length.
  What nat's Sub answers.
  Decimal digits of numbers of any length, and bytes of texts as numbers. It imports nothing of the program.
  Numbers as digits to the base 1000000000: which digits a sum, a difference, a product has. It imports nothing of the program.
  How many digits a number needs, to the base 1000000000, and its digits without noughts at the end. It imports nothing of the program.
  What nat's piecesOf answers.
  strings.TrimLeft at the cutset "0".
  What nat's Show answers.
  What nat answers, with letters for the lengths: the contracts of the other texts, said once more for those who call nat.
  Slices apart from a block, so that what is stored there leaves them as they are; and what nat answers, apart from all that was there before.
  Whole numbers in memory; what package whole's signed and plus answer.
  What package whole's Add, Sub, Neg, Norm and Mul answer.
  What package whole's Of, Sign and Show answer.
  What package whole's Floor answers.
  Points over a torus: which can be, where they lie, in which order. It imports nothing of the program.
  Areas, squares of distances, the circle's determinant: how great they are, what becomes of them when points are put for one another or moved. It imports nothing of the program.
  Meshes as lists: vertices and faces by their numbers, edges, what is put and taken. It imports nothing of the program.
-/
import Derived.WalkKit
import Derived.WalkSmall
import Derived.Laws.OwnMore
import Derived.Test.YtjdeehffbgpenaaRows
import Derived.WalkSpells
import Derived.Deep.QuietTactic
import Derived.BigQuiet
import Derived.RegionTactic
import Derived.ChangeAlike
import Derived.OwnWalk
import Derived.Laws.AppendOwnNone
import Derived.Maps.AppendAt
import Derived.Laws.BitsAllLaws
import Derived.Deep.RegionWith
import Derived.Shelf.Small.Bits
import Derived.Shelf.Abstract
import Derived.Lib.ItoaNum
import Derived.RangeFuncNested
import Derived.RangeFuncBound
import Derived.RangeFuncCalls
import Derived.RangeFuncLeaves
import Derived.RangeFuncBox
import Derived.Shelf.RegionOpen
import Derived.OwnWalkIn
import Derived.TacticsInMore
import Derived.LoopNIn
import Derived.LoopIn
import Derived.Deep.RegionHeld3
import Derived.Laws.BytesArg
import Derived.Deep.AppendLies
import Derived.Lib.IndexBytes
namespace Go.Proofs.Ytjdeehffbgpenaa
open Go.RowKit

/-- Block b holds the values xs from its head on, and none of these cells is frozen. -/
def Row (w : World) (b : Nat) (xs : List Value) : Prop := ∀ j v, xs[j]? = some v → w.cell? ⟨b, j, none⟩ = some v ∧ w.frozen? ⟨b, j, none⟩ = false
theorem Row.cell {w : World} {b : Nat} {xs : List Value} (h : Row w b xs) (j : Nat) (v : Value) (hj : xs[j]? = some v) : w.cell? ⟨b, j, none⟩ = some v := (h j v hj).1
theorem Row.free {w : World} {b : Nat} {xs : List Value} (h : Row w b xs) (j : Nat) (hj : j < xs.length) : w.frozen? ⟨b, j, none⟩ = false := (h j xs[j] (List.getElem?_eq_getElem hj)).2
theorem Row.drewN {w : World} {b : Nat} {xs : List Value} (h : Row w b xs) (n : Nat) : Row (w.drewN n) b xs := h
theorem Row.drew {w : World} {b : Nat} {xs : List Value} (h : Row w b xs) : Row w.drew b xs := h
theorem Row.set {w : World} {b : Nat} {xs : List Value} (h : Row w b xs) (i : Nat) (v : Value) (hi : i < xs.length) : Row (w.setCell ⟨b, i, none⟩ v) b (xs.set i v) := by
  intro j u hu
  rw [World.frozen?_setCell]
  by_cases e : i = j
  · subst e
    rw [List.getElem?_set_self hi] at hu
    simp only [Option.some.injEq] at hu
    subst hu
    exact ⟨World.cell?_setCell_same _ _ _ (h.cell i xs[i] (List.getElem?_eq_getElem hi)), h.free i hi⟩
  · rw [List.getElem?_set_ne e] at hu
    rw [World.cell?_setCell_other _ _ _ _ (by intro q; simp only [Addr.mk.injEq] at q; omega)]
    exact h j u hu
theorem Row.below {w w' : World} {b B : Nat} {xs : List Value} (h : Row w b xs) (hb : Below B w w') (hB : b < B) : Row w' b xs := by
  intro j u hu
  rw [hb.cell (p := ⟨b, j, none⟩) hB, hb.frozen (p := ⟨b, j, none⟩) hB]
  exact h j u hu
theorem Row.other {w : World} {b c i : Nat} {xs : List Value} (h : Row w b xs) (v : Value) (hc : c ≠ b) : Row (w.setCell ⟨c, i, none⟩ v) b xs := by
  intro j u hu
  rw [World.frozen?_setCell, World.cell?_setCell_other _ _ _ _ (by intro q; simp only [Addr.mk.injEq] at q; omega)]
  exact h j u hu
theorem Row.new (w : World) (xs : List Value) (t : TypeId) : Row (w.alloc (.cells xs.toArray t)) w.heap.size xs := by
  intro j u hu
  rw [World.cell?_alloc_new, World.frozen?_alloc_new]
  exact ⟨by simpa using hu, rfl⟩
theorem Row.alloc {w : World} {b : Nat} {xs : List Value} (h : Row w b xs) (o : Obj) (hb : b < w.heap.size) : Row (w.alloc o) b xs :=
  h.below (((Below.refl _ _).alloc (Nat.le_refl _) o)) hb
end Go.Proofs.Ytjdeehffbgpenaa

namespace Go.Proofs.Ytjdeehffbgpenaa
open Go.RowKit
set_option linter.unusedVariables false

/-- Block b holds the values xs from offset o on, and none of these cells is frozen. -/
def Seg (w : World) (b o : Nat) (xs : List Value) : Prop := ∀ j v, xs[j]? = some v → w.cell? ⟨b, o + j, none⟩ = some v ∧ w.frozen? ⟨b, o + j, none⟩ = false
theorem Seg.cell {w : World} {b o : Nat} {xs : List Value} (h : Seg w b o xs) (j : Nat) (v : Value) (hj : xs[j]? = some v) : w.cell? ⟨b, o + j, none⟩ = some v := (h j v hj).1
theorem Seg.free {w : World} {b o : Nat} {xs : List Value} (h : Seg w b o xs) (j : Nat) (hj : j < xs.length) : w.frozen? ⟨b, o + j, none⟩ = false := (h j xs[j] (List.getElem?_eq_getElem hj)).2
theorem Seg.drewN {w : World} {b o : Nat} {xs : List Value} (h : Seg w b o xs) (n : Nat) : Seg (w.drewN n) b o xs := h
theorem Seg.drew {w : World} {b o : Nat} {xs : List Value} (h : Seg w b o xs) : Seg w.drew b o xs := h
theorem Seg.nil (w : World) (b o : Nat) : Seg w b o [] := by intro j v h; simp at h
theorem Seg.set {w : World} {b o : Nat} {xs : List Value} (h : Seg w b o xs) (i : Nat) (v : Value) (hi : i < xs.length) : Seg (w.setCell ⟨b, o + i, none⟩ v) b o (xs.set i v) := by
  intro j u hu
  rw [World.frozen?_setCell]
  by_cases e : i = j
  · subst e
    rw [List.getElem?_set_self hi] at hu
    simp only [Option.some.injEq] at hu
    subst hu
    exact ⟨World.cell?_setCell_same _ _ _ (h.cell i xs[i] (List.getElem?_eq_getElem hi)), h.free i hi⟩
  · rw [List.getElem?_set_ne e] at hu
    rw [World.cell?_setCell_other _ _ _ _ (by intro q; simp only [Addr.mk.injEq] at q; omega)]
    exact h j u hu
theorem Seg.other {w : World} {b c o i : Nat} {xs : List Value} (h : Seg w b o xs) (v : Value) (hc : c ≠ b) : Seg (w.setCell ⟨c, i, none⟩ v) b o xs := by
  intro j u hu
  rw [World.frozen?_setCell, World.cell?_setCell_other _ _ _ _ (by intro q; simp only [Addr.mk.injEq] at q; omega)]
  exact h j u hu
theorem Seg.block {w w' : World} {b o : Nat} {xs : List Value} (h : Seg w b o xs) (hb : w'.heap[b]? = w.heap[b]?) : Seg w' b o xs := by
  intro j u hu
  rw [World.cell?_of_block (w := w) (a := ⟨b, o + j, none⟩) hb, World.frozen?_of_block (w := w) (a := ⟨b, o + j, none⟩) hb]
  exact h j u hu
theorem Seg.below {w w' : World} {b o B : Nat} {xs : List Value} (h : Seg w b o xs) (hb : Below B w w') (hB : b < B) : Seg w' b o xs := h.block (hb.block b hB)
theorem Seg.take {w : World} {b o : Nat} {xs : List Value} (h : Seg w b o xs) (n : Nat) : Seg w b o (xs.take n) := by
  intro j u hu
  rw [List.getElem?_take] at hu
  split at hu
  · exact h j u hu
  · cases hu
theorem Seg.drop {w : World} {b o : Nat} {xs : List Value} (h : Seg w b o xs) (n : Nat) : Seg w b (o + n) (xs.drop n) := by
  intro j u hu
  rw [List.getElem?_drop] at hu
  have := h (n + j) u hu
  rwa [show o + n + j = o + (n + j) by omega]
theorem Seg.append {w : World} {b o : Nat} {xs ys : List Value} (h : Seg w b o xs) (k : Seg w b (o + xs.length) ys) : Seg w b o (xs ++ ys) := by
  intro j u hu
  by_cases e : j < xs.length
  · rw [List.getElem?_append_left e] at hu
    exact h j u hu
  · rw [List.getElem?_append_right (by omega)] at hu
    have := k _ u hu
    rwa [show o + xs.length + (j - xs.length) = o + j by omega] at this
theorem Row.seg {w : World} {b : Nat} {xs : List Value} (h : Row w b xs) : Seg w b 0 xs := by
  intro j u hu
  rw [Nat.zero_add]
  exact h j u hu

/-- The slice (a, n, cap) holds the values xs. -/
structure Sl (w : World) (a : Option Addr) (n cap : Nat) (xs : List Value) : Prop where
  len : xs.length = n
  room : n ≤ cap
  big : cap ≤ maxLen
  nil : a = none → n = 0 ∧ cap = 0
  seg : n = 0 ∨ ∃ b o, a = some ⟨b, o, none⟩ ∧ b < w.heap.size ∧ Seg w b o xs
theorem Sl.below {w w' : World} {a : Option Addr} {n cap : Nat} {xs : List Value} (h : Sl w a n cap xs) (hb : Below w.heap.size w w') : Sl w' a n cap xs := by
  refine ⟨h.len, h.room, h.big, h.nil, h.seg.imp id ?_⟩
  rintro ⟨b, o, e, hlt, hs⟩
  exact ⟨b, o, e, Nat.lt_of_lt_of_le hlt hb.size, hs.below hb hlt⟩
/-- Where a slice has an element k, its address is known. -/
theorem Sl.at {w : World} {a : Option Addr} {n cap : Nat} {xs : List Value} (h : Sl w a n cap xs) (hn : 0 < n) : ∃ b o, a = some ⟨b, o, none⟩ ∧ b < w.heap.size ∧ Seg w b o xs := h.seg.resolve_left (by omega)
theorem Sl.take {w : World} {b o n cap m : Nat} {xs : List Value} (h : Sl w (some ⟨b, o, none⟩) n cap xs) (hm : m ≤ n) : Sl w (some ⟨b, o, none⟩) m cap (xs.take m) := by
  refine ⟨by rw [List.length_take, h.len]; omega, by have := h.room; omega, h.big, (by intro e; cases e), ?_⟩
  rcases Nat.eq_zero_or_pos m with e | e
  · exact Or.inl e
  · obtain ⟨b', o', e1, h1, h2⟩ := h.at (by omega)
    cases e1
    exact Or.inr ⟨b, o, rfl, h1, h2.take m⟩
theorem sl_nil (w : World) : Sl w none 0 0 [] := ⟨rfl, Nat.le_refl _, Nat.zero_le _, fun _ => ⟨rfl, rfl⟩, Or.inl rfl⟩

/-- A slice in memory of the call's own, from base on. -/
abbrev Own (w : World) (base : Nat) (T : TypeId) (a : Option Addr) (n cap : Nat) (xs : List Value) : Prop := w.ownsRow base T 1 (.slice a n cap) n xs
theorem Own.sl {w : World} {base n cap : Nat} {T : TypeId} {a : Option Addr} {xs : List Value} (h : Own w base T a n cap xs) : Sl w a n cap xs := by
  obtain ⟨hl, ⟨h1, h2⟩ | ⟨g, cap', cur, hv, hb, hg, h1, h2, h3, h4⟩⟩ := h
  · cases h1
    refine ⟨by omega, Nat.le_refl _, Nat.zero_le _, fun _ => ⟨rfl, rfl⟩, Or.inl rfl⟩
  · cases hv
    refine ⟨by omega, h1, h2, (by intro e; cases e), Or.inr ⟨g, 0, rfl, (Array.getElem?_eq_some_iff.1 hg).1, ?_⟩⟩
    intro j u hu
    have hj : j < n := by
      have := (List.getElem?_eq_some_iff.1 hu).1
      omega
    rw [← h4, Nat.mul_one, List.getElem?_take, if_pos hj] at hu
    refine ⟨by simp [World.cell?, hg]; simpa using hu, by simp [World.frozen?, hg]⟩
theorem Own.form {w : World} {base n : Nat} {T : TypeId} {v : Value} {xs : List Value} (h : w.ownsRow base T 1 v n xs) : ∃ a cap, v = .slice a n cap ∧ Own w base T a n cap xs := by
  obtain ⟨hl, ⟨h1, h2⟩ | ⟨g, cap', cur, hv, hb, hg, h1, h2, h3, h4⟩⟩ := h
  · subst h1 h2
    exact ⟨none, 0, rfl, hl, Or.inl ⟨rfl, rfl⟩⟩
  · subst hv
    exact ⟨_, _, rfl, hl, Or.inr ⟨g, cap', cur, rfl, hb, hg, h1, h2, h3, h4⟩⟩
theorem Own.mono {w : World} {base base' n cap : Nat} {T : TypeId} {a : Option Addr} {xs : List Value} (h : Own w base T a n cap xs) (hb : base' ≤ base) : Own w base' T a n cap xs := by
  obtain ⟨hl, h1 | ⟨g, cap', cur, hv, hb', r⟩⟩ := h
  · exact ⟨hl, Or.inl h1⟩
  · exact ⟨hl, Or.inr ⟨g, cap', cur, hv, by omega, r⟩⟩
theorem Own.below {w w' : World} {base n cap : Nat} {T : TypeId} {a : Option Addr} {xs : List Value} (h : Own w base T a n cap xs) (hb : Below w.heap.size w w') : Own w' base T a n cap xs := by
  obtain ⟨hl, h1 | ⟨g, cap', cur, hv, hb', hg, r⟩⟩ := h
  · exact ⟨hl, Or.inl h1⟩
  · exact ⟨hl, Or.inr ⟨g, cap', cur, hv, hb', by rw [hb.block g (Array.getElem?_eq_some_iff.1 hg).1]; exact hg, r⟩⟩
/-- Cut at its end. -/
theorem Own.take {w : World} {base n cap m : Nat} {T : TypeId} {a : Option Addr} {xs : List Value} (h : Own w base T a n cap xs) (hm : m ≤ n) : Own w base T a m cap (xs.take m) := by
  obtain ⟨hl, ⟨h1, h2⟩ | ⟨g, cap', cur, hv, hb', hg, h1, h2, h3, h4⟩⟩ := h
  · subst h2
    obtain rfl : m = 0 := by omega
    cases h1
    exact ⟨by simp, Or.inl ⟨rfl, rfl⟩⟩
  · cases hv
    refine ⟨by rw [List.length_take, hl]; omega, Or.inr ⟨g, cap, cur, rfl, hb', hg, by omega, h2, h3, ?_⟩⟩
    rw [← h4, List.take_take, Nat.mul_one, Nat.mul_one, Nat.min_eq_left hm]
theorem Own.at {w : World} {base n cap : Nat} {T : TypeId} {a : Option Addr} {xs : List Value} (h : Own w base T a n cap xs) (hn : 0 < n) : ∃ b, a = some ⟨b, 0, none⟩ ∧ b < w.heap.size ∧ base ≤ b ∧ Seg w b 0 xs := by
  obtain ⟨b, o, e, h1, h2⟩ := h.sl.at hn
  subst e
  obtain ⟨hl, ⟨h1', _⟩ | ⟨g, cap', cur, hv, hb', r⟩⟩ := h
  · cases h1'
  · cases hv
    exact ⟨b, rfl, h1, hb', h2⟩

/-- w' is w but for new blocks and for the cells of block b from lo on, ahead of hi. -/
structure Wr (w w' : World) (b lo hi : Nat) : Prop where
  grown : w.grownBy w' (some b)
  cells : ∀ c t f, w.heap[b]? = some (.cells c t f) → ∃ c', w'.heap[b]? = some (.cells c' t f) ∧ c'.size = c.size ∧ ∀ o, (o < lo ∨ hi ≤ o) → c'[o]? = c[o]?
theorem Wr.refl (w : World) (b lo hi : Nat) : Wr w w b lo hi := ⟨World.grownBy.refl _ _, fun c t f h => ⟨c, h, rfl, fun _ _ => rfl⟩⟩
theorem Wr.trans {w w' w'' : World} {b lo hi : Nat} (h : Wr w w' b lo hi) (k : Wr w' w'' b lo hi) : Wr w w'' b lo hi := by
  refine ⟨⟨k.grown.os.trans h.grown.os, k.grown.tape.trans h.grown.tape, k.grown.output.trans h.grown.output, Nat.le_trans h.grown.size k.grown.size, fun i hi hne => (k.grown.block i (Nat.lt_of_lt_of_le hi h.grown.size) hne).trans (h.grown.block i hi hne)⟩, fun c t f hc => ?_⟩
  obtain ⟨c1, e1, s1, o1⟩ := h.cells c t f hc
  obtain ⟨c2, e2, s2, o2⟩ := k.cells c1 t f e1
  exact ⟨c2, e2, s2.trans s1, fun o ho => (o2 o ho).trans (o1 o ho)⟩
theorem Wr.mono {w w' : World} {b lo hi lo' hi' : Nat} (h : Wr w w' b lo hi) (h1 : lo' ≤ lo) (h2 : hi ≤ hi') : Wr w w' b lo' hi' :=
  ⟨h.grown, fun c t f hc => by obtain ⟨c1, e1, s1, o1⟩ := h.cells c t f hc; exact ⟨c1, e1, s1, fun o ho => o1 o (by omega)⟩⟩
theorem Wr.drewN {w w' : World} {b lo hi : Nat} (h : Wr w w' b lo hi) (n : Nat) : Wr w (w'.drewN n) b lo hi := ⟨⟨h.grown.os, h.grown.tape, h.grown.output, h.grown.size, h.grown.block⟩, h.cells⟩
theorem Wr.drew {w w' : World} {b lo hi : Nat} (h : Wr w w' b lo hi) : Wr w w'.drew b lo hi := ⟨⟨h.grown.os, h.grown.tape, h.grown.output, h.grown.size, h.grown.block⟩, h.cells⟩
theorem Wr.set {w w' : World} {b lo hi i : Nat} (h : Wr w w' b lo hi) (v : Value) (h1 : lo ≤ i) (h2 : i < hi) : Wr w (w'.setCell ⟨b, i, none⟩ v) b lo hi := by
  refine h.trans ⟨⟨rfl, rfl, rfl, by simp, fun k hk hne => Below.heap_setCell _ _ _ _ (by simpa using hne)⟩, fun c t f hc => ?_⟩
  refine ⟨c.setIfInBounds i v, ?_, by simp, fun o ho => ?_⟩
  · simp [World.setCell, Array.getElem?_modify, hc]
  · rw [Array.getElem?_setIfInBounds_ne (by omega)]
/-- A call that leaves old memory alone. -/
theorem Wr.below {w w' w'' : World} {b lo hi : Nat} (h : Wr w w' b lo hi) (hb : Below w'.heap.size w' w'') (hlt : b < w.heap.size) : Wr w w'' b lo hi := by
  refine h.trans ⟨⟨hb.os, hb.tape, hb.output, hb.size, fun k hk _ => hb.block k hk⟩, fun c t f hc => ⟨c, ?_, rfl, fun _ _ => rfl⟩⟩
  rw [hb.block b (Nat.lt_of_lt_of_le hlt h.grown.size)]
  exact hc
theorem Wr.to_below {w w' : World} {b lo hi B : Nat} (h : Wr w w' b lo hi) (hB : B ≤ b) (hs : B ≤ w.heap.size) : Below B w w' :=
  ⟨h.grown.os, h.grown.tape, h.grown.output, h.grown.size, fun k hk => h.grown.block k (by omega) (by simp; omega)⟩
theorem Wr.after {w0 w w' : World} {b lo hi B : Nat} (h : Wr w w' b lo hi) (h0 : Below B w0 w) (hB : B ≤ b) (hs : B ≤ w0.heap.size) : Below B w0 w' :=
  h0.trans (h.to_below hB (Nat.le_trans hs h0.size))
/-- Another block's cells stay. -/
theorem Wr.seg {w w' : World} {b lo hi c o : Nat} {xs : List Value} (h : Wr w w' b lo hi) (hs : Seg w c o xs) (hlt : c < w.heap.size) (hne : c ≠ b) : Seg w' c o xs :=
  hs.block (h.grown.block c hlt (by simpa using hne))
/-- The same block's cells outside what was written stay. -/
theorem Wr.out {w w' : World} {b lo hi o : Nat} {xs : List Value} (h : Wr w w' b lo hi) (hs : Seg w b o xs) (hout : o + xs.length ≤ lo ∨ hi ≤ o) : Seg w' b o xs := by
  intro j u hu
  have hj := (List.getElem?_eq_some_iff.1 hu).1
  obtain ⟨h1, h2⟩ := hs j u hu
  unfold World.cell? at h1 ⊢
  unfold World.frozen? at h2 ⊢
  dsimp only at h1 h2 ⊢
  split at h1
  · rename_i c t f hc
    obtain ⟨c', e, s, ho⟩ := h.cells c t f hc
    rw [hc] at h2
    rw [e]
    simp only [Option.isSome_none, Bool.false_eq_true, if_false] at h1 ⊢
    exact ⟨by rw [ho _ (by omega)]; exact h1, h2⟩
  · cases h1
theorem Wr.sl {w w' : World} {b lo hi n cap : Nat} {a : Option Addr} {xs : List Value} (h : Wr w w' b lo hi) (hs : Sl w a n cap xs) (hne : ∀ o, a ≠ some ⟨b, o, none⟩) : Sl w' a n cap xs := by
  refine ⟨hs.len, hs.room, hs.big, hs.nil, hs.seg.imp id ?_⟩
  rintro ⟨c, o, e, hlt, hseg⟩
  exact ⟨c, o, e, Nat.lt_of_lt_of_le hlt h.grown.size, h.seg hseg hlt (fun e' => hne o (by rw [e, e']))⟩
theorem Wr.own {w w' : World} {b lo hi n cap base : Nat} {T : TypeId} {a : Option Addr} {xs : List Value} (h : Wr w w' b lo hi) (hs : Own w base T a n cap xs) (hne : ∀ o, a ≠ some ⟨b, o, none⟩) : Own w' base T a n cap xs := by
  obtain ⟨hl, h1 | ⟨g, cap', cur, hv, hb', hg, r⟩⟩ := hs
  · exact ⟨hl, Or.inl h1⟩
  · cases hv
    exact ⟨hl, Or.inr ⟨g, cap, cur, rfl, hb', by rw [h.grown.block g (Array.getElem?_eq_some_iff.1 hg).1 (fun e => hne 0 (by cases e; rfl))]; exact hg, r⟩⟩
/-- What one owns, written over. -/
theorem Wr.owned {w w' : World} {b lo hi n cap base : Nat} {T : TypeId} {xs ys : List Value} (h : Wr w w' b lo hi) (hs : Own w base T (some ⟨b, 0, none⟩) n cap xs) (hy : ys.length = n) (hseg : Seg w' b 0 ys) : Own w' base T (some ⟨b, 0, none⟩) n cap ys := by
  obtain ⟨hl, ⟨h1, _⟩ | ⟨g, cap', cur, hv, hb', hg, h1, h2, h3, h4⟩⟩ := hs
  · cases h1
  · cases hv
    obtain ⟨c', e, s, ho⟩ := h.cells _ _ _ hg
    refine ⟨by omega, Or.inr ⟨b, cap, c', rfl, hb', e, h1, h2, by omega, ?_⟩⟩
    refine List.ext_getElem? fun j => ?_
    rw [List.getElem?_take, Nat.mul_one]
    by_cases hj : j < n
    · rw [if_pos hj]
      have := (hseg j ys[j] (List.getElem?_eq_getElem (by omega))).1
      simp [World.cell?, e] at this
      rw [Array.getElem?_toList, this, List.getElem?_eq_getElem (by omega)]
    · rw [if_neg hj, List.getElem?_eq_none (by omega)]
/-- What was made just now: so many noughts. -/
theorem seg_of_own {w : World} {base b n cap : Nat} {T : TypeId} {xs : List Value} (h : Own w base T (some ⟨b, 0, none⟩) n cap xs) : Seg w b 0 xs ∧ b < w.heap.size ∧ base ≤ b := by
  obtain ⟨hl, ⟨h1, _⟩ | ⟨g, cap', cur, hv, hb', hg, h1, h2, h3, h4⟩⟩ := h
  · cases h1
  · cases hv
    refine ⟨?_, (Array.getElem?_eq_some_iff.1 hg).1, hb'⟩
    intro j u hu
    have hj := (List.getElem?_eq_some_iff.1 hu).1
    rw [← h4, Nat.mul_one, List.getElem?_take, if_pos (by omega)] at hu
    rw [Nat.zero_add]
    refine ⟨by simp [World.cell?, hg]; simpa using hu, by simp [World.frozen?, hg]⟩
end Go.Proofs.Ytjdeehffbgpenaa

namespace Go.Proofs.Ytjdeehffbgpenaa
open Go.RowKit
set_option linter.unusedVariables false

/-- Of w's blocks only those of F may have turned. -/
structure Keep (F : Nat → Prop) (w w' : World) : Prop where
  os : w'.os = w.os
  tape : w'.tape = w.tape
  output : w'.output = w.output
  size : w.heap.size ≤ w'.heap.size
  block : ∀ k, k < w.heap.size → ¬ F k → w'.heap[k]? = w.heap[k]?
theorem Keep.refl (F : Nat → Prop) (w : World) : Keep F w w := ⟨rfl, rfl, rfl, Nat.le_refl _, fun _ _ _ => rfl⟩
theorem Keep.trans {F G : Nat → Prop} {a b c : World} (h : Keep F a b) (k : Keep G b c) (hG : ∀ i, G i → F i ∨ a.heap.size ≤ i) : Keep F a c :=
  ⟨k.os.trans h.os, k.tape.trans h.tape, k.output.trans h.output, Nat.le_trans h.size k.size, fun i hi hF => (k.block i (Nat.lt_of_lt_of_le hi h.size) (fun g => (hG i g).elim hF (fun x => by omega))).trans (h.block i hi hF)⟩
theorem Keep.of {F : Nat → Prop} {w w' : World} (h : Below w.heap.size w w') : Keep F w w' := ⟨h.os, h.tape, h.output, h.size, fun k hk _ => h.block k hk⟩
theorem Keep.to {F : Nat → Prop} {a b c : World} (h : Keep F a b) (k : Below b.heap.size b c) : Keep F a c := h.trans (Keep.of (F := fun _ => False) k) (fun _ x => x.elim)
theorem Keep.drew {F : Nat → Prop} {a w : World} (h : Keep F a w) : Keep F a w.drew := ⟨h.os, h.tape, h.output, h.size, h.block⟩
theorem Keep.alloc {F : Nat → Prop} {a w : World} (h : Keep F a w) (o : Obj) : Keep F a (w.alloc o) := h.to ((Below.refl _ _).alloc (Nat.le_refl _) o)
theorem Keep.set {F : Nat → Prop} {a w : World} (h : Keep F a w) {p : Addr} (hp : F p.block ∨ a.heap.size ≤ p.block) (u : Value) : Keep F a (w.setCell p u) :=
  h.trans (G := fun k => k = p.block) ⟨rfl, rfl, rfl, by simp [World.setCell], fun k _ hk => Below.heap_setCell _ _ _ _ hk⟩ (fun i hi => by subst hi; exact hp)
theorem Keep.grown {F : Nat → Prop} {a w w' : World} {row : Option Nat} (h : Keep F a w) (hg : w.grownBy w' row) (hr : ∀ k, row = some k → F k ∨ a.heap.size ≤ k) : Keep F a w' :=
  h.trans (G := fun k => row = some k) ⟨hg.os, hg.tape, hg.output, hg.size, fun k hk hn => hg.block k hk (fun e => hn e.symm)⟩ hr
theorem Keep.below {F : Nat → Prop} {w w' : World} {B : Nat} (h : Keep F w w') (hB : B ≤ w.heap.size) (hF : ∀ k, F k → B ≤ k) : Below B w w' :=
  ⟨h.os, h.tape, h.output, h.size, fun k hk => h.block k (by omega) (fun f => by have := hF k f; omega)⟩
theorem Keep.mono {F G : Nat → Prop} {w w' : World} (h : Keep F w w') (hG : ∀ k, F k → G k) : Keep G w w' := ⟨h.os, h.tape, h.output, h.size, fun k hk hn => h.block k hk (fun f => hn (hG k f))⟩
theorem Row.keep {F : Nat → Prop} {w w' : World} {b : Nat} {xs : List Value} (h : Row w b xs) (hk : Keep F w w') (hb : b < w.heap.size) (hF : ¬ F b) : Row w' b xs := by
  intro j u hu
  rw [World.cell?_of_block (w := w) (a := ⟨b, j, none⟩) (hk.block b hb hF), World.frozen?_of_block (w := w) (a := ⟨b, j, none⟩) (hk.block b hb hF)]
  exact h j u hu
/-- The blocks in which a slice lies. -/
def Slot (a : Option Addr) (k : Nat) : Prop := ∃ o, a = some ⟨k, o, none⟩
theorem Own.keep {F : Nat → Prop} {w w' : World} {base n cap : Nat} {T : TypeId} {a : Option Addr} {xs : List Value} (h : Own w base T a n cap xs) (hk : Keep F w w') (hF : ∀ k, Slot a k → ¬ F k) : Own w' base T a n cap xs := by
  obtain ⟨hl, h1 | ⟨g, cap', cur, hv, hb', hg, r⟩⟩ := h
  · exact ⟨hl, Or.inl h1⟩
  · refine ⟨hl, Or.inr ⟨g, cap', cur, hv, hb', ?_, r⟩⟩
    rw [hk.block g (Array.getElem?_eq_some_iff.1 hg).1 (hF g (by cases hv; exact ⟨0, rfl⟩))]
    exact hg
theorem Own.lt {w : World} {base n cap : Nat} {T : TypeId} {a : Option Addr} {xs : List Value} (h : Own w base T a n cap xs) {k : Nat} (hk : Slot a k) : k < w.heap.size ∧ base ≤ k := by
  obtain ⟨o, rfl⟩ := hk
  obtain ⟨hl, ⟨h1, _⟩ | ⟨g, cap', cur, hv, hb', hg, r⟩⟩ := h
  · cases h1
  · cases hv
    exact ⟨(Array.getElem?_eq_some_iff.1 hg).1, hb'⟩
theorem Own.put {w : World} {base n cap k i : Nat} {T : TypeId} {a : Option Addr} {xs : List Value} (h : Own w base T a n cap xs) (hk : ¬ Slot a k) (u : Value) : Own (w.setCell ⟨k, i, none⟩ u) base T a n cap xs :=
  h.keep ((Keep.refl (fun x => x = k) w).set (Or.inl rfl) u) (fun j hj e => hk (e ▸ hj))
theorem Row.lt {w : World} {b : Nat} {x : Value} {xs : List Value} (h : Row w b (x :: xs)) : b < w.heap.size := by
  have h0 := (h 0 x rfl).1
  refine Nat.lt_of_not_le fun hle => ?_
  unfold World.cell? at h0
  rw [Array.getElem?_eq_none hle] at h0
  simp at h0
theorem own_slot {w : World} {base n cap : Nat} {T : TypeId} {a : Option Addr} {xs : List Value} (h : Own w base T a n cap xs) {k : Nat} (e : (Value.slice a n cap).ownBlock = some k) : Slot a k := by
  cases a with
  | none => cases e
  | some q => obtain ⟨_, ⟨h5, _⟩ | ⟨g, _, _, hv, _⟩⟩ := h; cases h5; cases hv; cases e; exact ⟨0, rfl⟩
/-- The cells of a list of ints. -/
def ints (L : List Int) : List Value := L.map fun x => .int .i64 x
theorem ints_append (L M : List Int) : ints (L ++ M) = ints L ++ ints M := by simp [ints]
theorem ints_one (L : List Int) : ∀ v ∈ ints L, v.oneCell' = true := by
  intro v hv
  simp only [ints, List.mem_map] at hv
  obtain ⟨x, _, rfl⟩ := hv
  rfl
theorem own_none (w : World) (base : Nat) (T : TypeId) : Own w base T none 0 0 [] := ⟨rfl, Or.inl ⟨rfl, rfl⟩⟩
/-- append onto what one owns: its answer lies in the old block, or in a new one. -/
theorem app_at {P : Program} (w : World) {ops : Array Oper} {rest : List Oper} {o : Oper} {a : Act} {Q : Exit → Act → World → Prop} (hgd : o.guard = none) (s x : Operand) (t : TypeId)
    (ho : o.op = .call { callee := .builtin .append, args := #[s, x], argTypes := #[t, t] })
    (base : Nat) (e : TypeId) (i : TypeInfo) (z : Value) (bytes : Nat) (ht : P.underlying t = some (.slice e)) (hi : P.info? e = some i) (hz : i.zero = some z)
    (hsize : i.size = 1) (hby : i.bytes = bytes) (hzs : z.cells.size = 1)
    (a0 : Option Addr) (n0 c0 : Nat) (xs : List Value) (hs : a.eval s = .slice a0 n0 c0) (hown : Own w base e a0 n0 c0 xs)
    (ao : Option Addr) (m c : Nat) (news : List Value) (hx : a.eval x = .slice ao m c) (hsl : Sl w ao m c news) (h1 : ∀ u ∈ news, u.oneCell' = true)
    (h63 : n0 + m ≤ maxLen) (hbytes : (n0 + m) * bytes ≤ 140737488355328) (hbase : base ≤ w.heap.size)
    (h : ∀ a' cap' w', Own w' base e a' (n0 + m) cap' (xs ++ news) → w.grownBy w' (Value.slice a0 n0 c0).ownBlock → (∀ k, Slot a' k → Slot a0 k ∨ w.heap.size ≤ k) → wpList P ops Q rest (a.put o.dst (.slice a' (n0 + m) cap')) w') : wpList P ops Q (o :: rest) a w := by
  cases ao with
  | none =>
    obtain ⟨rfl, rfl⟩ := hsl.nil rfl
    obtain rfl : news = [] := List.eq_nil_of_length_eq_zero hsl.len
    refine wpList_append_own_none hgd s x t ho base e i 1 ht hi _ n0 xs hs hown hx ?_
    exact h a0 c0 w (by simpa using hown) (World.grownBy.refl _ _) (fun k hk => Or.inl hk)
  | some ad =>
    refine wpList_append_own_at w hgd s x t ho base e i z 1 bytes ht hi hz hsize hby hzs (by decide) _ n0 xs hs hown ad m c news hx (by rw [hsl.len]; omega) ?_ h1 h63 hbytes hbase ?_
    · intro j u hu
      have hj := (List.getElem?_eq_some_iff.1 hu).1
      obtain ⟨b, off, e1, hb, hseg⟩ := hsl.at (by have := hsl.len; omega)
      cases e1
      rw [Addr.add_lit]
      exact hseg.cell j u hu
    · intro v' w' h1 h2 _ h4
      obtain ⟨a', cap', rfl, h3⟩ := Own.form h1
      refine h a' cap' w' h3 h2 ?_
      rintro k ⟨q, rfl⟩
      rcases h4 with h4 | h4
      · cases a0 with
        | none => cases h4
        | some b0 =>
          have : k = b0.block := by simpa [Value.ownBlock] using h4
          subst this
          obtain ⟨hl, ⟨h5, _⟩ | ⟨g, cap', cur, hv, r⟩⟩ := hown
          · cases h5
          · cases hv; exact Or.inl ⟨0, rfl⟩
      · have : k = w.heap.size := by simpa [Value.ownBlock] using h4
        exact Or.inr (by omega)
theorem infoI : (Try.prog.info? 3).map (fun i => (i.zero, i.size, i.bytes)) = some (some (.int .i64 0), 1, 8) := by kernel_rfl
theorem info_of {P : Program} {t : TypeId} {z : Value} {s b : Nat} (h : (P.info? t).map (fun i => (i.zero, i.size, i.bytes)) = some (some z, s, b)) : ∃ i, P.info? t = some i ∧ i.zero = some z ∧ i.size = s ∧ i.bytes = b := by
  cases hi : P.info? t with
  | none => rw [hi] at h; cases h
  | some i =>
    rw [hi] at h
    simp only [Option.map_some, Option.some.injEq, Prod.mk.injEq] at h
    exact ⟨i, rfl, h.1, h.2.1, h.2.2⟩
/-- One int in a block of its own. -/
theorem sl_one (w : World) (x : Int) (T : TypeId) : Sl (w.alloc (.cells #[.int .i64 x] T)) (some ⟨w.heap.size, 0, none⟩) 1 1 [.int .i64 x] :=
  ⟨rfl, Nat.le_refl _, by unfold maxLen; omega, (by intro e; cases e), Or.inr ⟨_, _, rfl, by simp, (Row.new w [.int .i64 x] T).seg⟩⟩
end Go.Proofs.Ytjdeehffbgpenaa

namespace Go.Proofs.Ytjdeehffbgpenaa
open Go.RowKit
set_option linter.unusedVariables false

/-- The number that is lent next, and how many there are then. -/
def tkN (B : List Int) (T : Nat) : Int := match B.getLast? with | some x => x | none => (T : Int)
def tkT (B : List Int) (T : Nat) : Nat := if B = [] then T + 1 else T
theorem tkN_nil (T : Nat) : tkN [] T = (T : Int) := rfl
theorem tkN_last (B : List Int) (x : Int) (T : Nat) : tkN (B ++ [x]) T = x := by simp [tkN]
theorem tkT_last (B : List Int) (x : Int) (T : Nat) : tkT (B ++ [x]) T = T := by simp [tkT]
theorem nil_or_last (B : List Int) : B = [] ∨ ∃ B' x, B = B' ++ [x] := by
  by_cases h : B = []
  · exact Or.inl h
  · exact Or.inr ⟨B.dropLast, B.getLast h, (List.dropLast_concat_getLast h).symm⟩
/-- Those that are lent, rising. -/
def allN (L : List Int) (k : Nat) : List Int := ((List.range k).map (fun i : Nat => (i : Int))).filter (fun y => decide (y ∈ L))
theorem allN_next (L : List Int) (k : Nat) : allN L (k + 1) = allN L k ++ (if (k : Int) ∈ L then [(k : Int)] else []) := by
  unfold allN
  rw [List.range_succ, List.map_append, List.filter_append]
  by_cases e : (k : Int) ∈ L <;> simp [e]
theorem allN_len (L : List Int) (k : Nat) : (allN L k).length ≤ k := by
  unfold allN
  exact Nat.le_trans (List.length_filter_le _ _) (by simp)
theorem allN_mem {L : List Int} {k : Nat} {x : Int} (h : x ∈ allN L k) : x ∈ L ∧ 0 ≤ x ∧ x < k := by
  unfold allN at h
  rw [List.mem_filter, List.mem_map] at h
  obtain ⟨⟨i, hi, rfl⟩, h2⟩ := h
  rw [List.mem_range] at hi
  exact ⟨by simpa using h2, by omega, by omega⟩
structure ArOk (L B : List Int) (T : Nat) : Prop where
  num : L.length + B.length = T
  nd : (L ++ B).Nodup
  rg : ∀ x ∈ L ++ B, 0 ≤ x ∧ x < T
theorem allN_nodup (L : List Int) (k : Nat) : (allN L k).Nodup := by
  have h : List.Pairwise (fun a b : Int => a ≠ b) ((List.range k).map (fun i : Nat => (i : Int))) := by
    rw [List.pairwise_map]
    refine List.Pairwise.imp (R := fun a b : Nat => a ≠ b) ?_ (List.nodup_range (n := k))
    intro a b h e
    exact h (by omega)
  exact List.Pairwise.filter _ h
theorem mem_allN {L : List Int} {k : Nat} {x : Int} (h : x ∈ L) (h0 : 0 ≤ x) (h1 : x < k) : x ∈ allN L k := by
  unfold allN
  rw [List.mem_filter, List.mem_map]
  exact ⟨⟨x.toNat, by rw [List.mem_range]; omega, by omega⟩, by simpa using h⟩
theorem ArOk.count {L B : List Int} {T : Nat} (h : ArOk L B T) : (allN L T).length = L.length := by
  refine ((List.perm_ext_iff_of_nodup (allN_nodup L T) (List.nodup_append.1 h.nd).1).2 fun x => ⟨fun m => (allN_mem m).1, fun m => ?_⟩).length_eq
  have := h.rg x (List.mem_append_left _ m)
  exact mem_allN m this.1 this.2
theorem ArOk.new : ArOk [] [] 0 := ⟨rfl, by simp, fun x h => by simp at h⟩
theorem ArOk.take {L B : List Int} {T : Nat} (h : ArOk L B T) : ArOk (L ++ [tkN B T]) B.dropLast (tkT B T) ∧ ¬ tkN B T ∈ L := by
  rcases nil_or_last B with rfl | ⟨B', x, rfl⟩
  · have hn : ¬ (T : Int) ∈ L := fun m => by have := h.rg _ (List.mem_append_left _ m); omega
    refine ⟨⟨?_, ?_, ?_⟩, hn⟩
    · have := h.num; simp [tkT] at *; exact this
    · have := h.nd
      simp only [List.append_nil, List.dropLast_nil, tkN_nil] at *
      rw [List.nodup_append]
      exact ⟨this, by simp, fun a ha b hb => by simp at hb; subst hb; exact fun e => hn (e ▸ ha)⟩
    · intro x hx
      simp only [List.append_nil, List.dropLast_nil, tkN_nil, List.mem_append, List.mem_singleton] at hx
      have ht : tkT [] T = T + 1 := rfl
      rw [ht]
      rcases hx with hx | rfl
      · have := h.rg x (List.mem_append_left _ hx); omega
      · omega
  · rw [tkN_last, tkT_last, List.dropLast_concat]
    have hp : (L ++ [x] ++ B').Perm (L ++ (B' ++ [x])) := by
      rw [List.append_assoc]
      exact List.Perm.append_left _ List.perm_append_comm
    have hn : ¬ x ∈ L := fun m => by
      have := (List.nodup_append.1 h.nd).2.2 x m x (by simp)
      exact this rfl
    refine ⟨⟨?_, hp.nodup_iff.2 h.nd, fun y hy => h.rg y (hp.mem_iff.1 hy)⟩, hn⟩
    have := h.num
    simp at *
    omega
theorem filter_ne_perm {L : List Int} {n : Int} (hd : L.Nodup) (hn : n ∈ L) : (L.filter (fun y => decide (y ≠ n)) ++ [n]).Perm L := by
  induction L with
  | nil => cases hn
  | cons a L ih =>
    rw [List.nodup_cons] at hd
    by_cases e : a = n
    · subst e
      have hf : L.filter (fun y => decide (y ≠ a)) = L := by
        rw [List.filter_eq_self]
        intro y hy
        exact decide_eq_true (fun e => hd.1 (e ▸ hy))
      rw [List.filter_cons_of_neg (by simp), hf]
      exact List.perm_append_comm
    · rw [List.filter_cons_of_pos (by simp [e]), List.cons_append]
      exact (ih hd.2 (List.mem_of_ne_of_mem (fun q => e q.symm) hn)).cons a
theorem ArOk.free {L B : List Int} {T : Nat} {n : Int} (h : ArOk L B T) (hn : n ∈ L) : ArOk (L.filter (fun y => decide (y ≠ n))) (B ++ [n]) T := by
  have hp : (L.filter (fun y => decide (y ≠ n)) ++ (B ++ [n])).Perm (L ++ B) := by
    have h1 := filter_ne_perm (List.nodup_append.1 h.nd).1 hn
    have h2 : (L.filter (fun y => decide (y ≠ n)) ++ (B ++ [n])).Perm (L.filter (fun y => decide (y ≠ n)) ++ ([n] ++ B)) := List.Perm.append_left _ List.perm_append_comm
    rw [← List.append_assoc _ [n] B] at h2
    exact h2.trans (h1.append_right B)
  refine ⟨?_, hp.nodup_iff.2 h.nd, fun y hy => h.rg y (hp.mem_iff.1 hy)⟩
  have := hp.length_eq
  have := h.num
  simp only [List.length_append] at *
  omega
end Go.Proofs.Ytjdeehffbgpenaa

namespace Go.Proofs.Ytjdeehffbgpenaa.wd
open Go.RowKit

/-- Digit i of v, to the base 4294967296 (of a number below nought: of v modulo as many digits as you like). -/
def dg (v : Int) (i : Nat) : Int := v / 4294967296 ^ i % 4294967296
def dcells (n : Nat) (v : Int) : List Value := (List.range n).map fun j => .int .u32 (dg v j)
end Go.Proofs.Ytjdeehffbgpenaa.wd

namespace Go.Proofs.Ytjdeehffbgpenaa.wd
open Go.RowKit
set_option linter.unusedVariables false

/-- v needs n digits: none for nought. -/
def IsLen (v n : Nat) : Prop := v < 4294967296 ^ n ∧ (n = 0 ∨ 4294967296 ^ (n - 1) ≤ v)
theorem isLen_one {v n m : Nat} (h : IsLen v n) (h' : IsLen v m) : n = m := by
  obtain ⟨a, b⟩ := h
  obtain ⟨a', b'⟩ := h'
  rcases Nat.lt_trichotomy n m with e | e | e
  · rcases b' with b' | b'
    · omega
    · have := Nat.pow_le_pow_right (n := 4294967296) (by decide) (show n ≤ m - 1 by omega)
      omega
  · exact e
  · rcases b with b | b
    · omega
    · have := Nat.pow_le_pow_right (n := 4294967296) (by decide) (show m ≤ n - 1 by omega)
      omega
/-- A number below 4294967296^n has a length of n at most, and is found by cutting noughts off the end. -/
theorem isLen_cut : ∀ (n v : Nat), v < 4294967296 ^ n → ∃ m, m ≤ n ∧ IsLen v m
  | 0, v, h => ⟨0, Nat.le_refl _, h, Or.inl rfl⟩
  | n + 1, v, h => by
    by_cases c : v < 4294967296 ^ n
    · obtain ⟨m, h1, h2⟩ := isLen_cut n v c
      exact ⟨m, by omega, h2⟩
    · exact ⟨n + 1, Nat.le_refl _, h, Or.inr (by simp; omega)⟩
/-- How many digits v needs. -/
def nlen (v : Nat) : Nat := if h : v = 0 then 0 else nlen (v / 4294967296) + 1
  termination_by v
  decreasing_by exact Nat.div_lt_self (Nat.pos_of_ne_zero h) (by decide)
theorem nlen_is (v : Nat) : IsLen v (nlen v) := by
  induction v using Nat.strongRecOn with
  | ind v ih =>
    unfold nlen
    split
    · rename_i h
      rw [h]
      exact ⟨by decide, Or.inl rfl⟩
    · rename_i h
      obtain ⟨h1, h2⟩ := ih (v / 4294967296) (Nat.div_lt_self (Nat.pos_of_ne_zero h) (by decide))
      refine ⟨?_, Or.inr ?_⟩
      · rw [Nat.pow_succ]
        exact (Nat.div_lt_iff_lt_mul (by decide)).1 h1
      · rw [Nat.add_sub_cancel]
        rcases h2 with h2 | h2
        · rw [h2]
          exact Nat.pos_of_ne_zero h
        · rcases Nat.eq_zero_or_pos (nlen (v / 4294967296)) with h3 | h3
          · rw [h3]
            exact Nat.pos_of_ne_zero h
          · have h4 := (Nat.le_div_iff_mul_le (by decide)).1 h2
            rw [← Nat.pow_succ] at h4
            rwa [show (nlen (v / 4294967296) - 1).succ = nlen (v / 4294967296) by omega] at h4
theorem nlen_eq {v n : Nat} (h : IsLen v n) : nlen v = n := isLen_one (nlen_is v) h
theorem nlen_le {v n : Nat} (h : v < 4294967296 ^ n) : nlen v ≤ n := by
  obtain ⟨m, h1, h2⟩ := isLen_cut n v h
  rw [nlen_eq h2]; exact h1
theorem nlen_zero : nlen 0 = 0 := nlen_eq ⟨by decide, Or.inl rfl⟩
theorem nlen_lt (v : Nat) : v < 4294967296 ^ nlen v := (nlen_is v).1
theorem nlen_pos {v : Nat} (h : 0 < v) : 0 < nlen v := by
  rcases Nat.lt_or_ge 0 (nlen v) with l | l
  · exact l
  · have := nlen_lt v
    rw [show nlen v = 0 by omega] at this
    simp at this
    omega
end Go.Proofs.Ytjdeehffbgpenaa.wd

namespace Go.Proofs.Ytjdeehffbgpenaa.wd
open Go.RowKit
set_option linter.unusedVariables false

/-- The borrow, under a name. -/
def bor (x y : Int) : Int := if x < y then 1 else 0
end Go.Proofs.Ytjdeehffbgpenaa.wd

namespace Go.Proofs.Ytjdeehffbgpenaa.wd
set_option linter.unusedVariables false

/-- What stands below place i + k, and over it, when k digits of y have been taken times digit i of x. -/
def tk (O xi y : Int) (i k : Nat) : Int := O % 4294967296 ^ (i + k) + xi * 4294967296 ^ i * (y % 4294967296 ^ k)
def cy (O xi y : Int) (i k : Nat) : Int := tk O xi y i k / 4294967296 ^ (i + k)
end Go.Proofs.Ytjdeehffbgpenaa.wd

namespace Go.Proofs.Ytjdeehffbgpenaa.wd
open Go.RowKit
set_option linter.unusedVariables false

theorem dcells_take (n m : Nat) (v : Int) (h : m ≤ n) : (dcells n v).take m = dcells m v := by
  unfold dcells
  rw [← List.map_take, List.take_range, Nat.min_eq_left h]
end Go.Proofs.Ytjdeehffbgpenaa.wd

namespace Go.Proofs.Ytjdeehffbgpenaa
open Go.RowKit
set_option linter.unusedVariables false

/-- What is left of a slice when noughts at its end are cut off: nil where all is nought, else its first m. -/
def Cut (a : Option Addr) (l cap : Nat) (a' : Option Addr) (m cap' : Nat) : Prop := (m = 0 ∧ a' = none ∧ cap' = 0) ∨ (0 < m ∧ m ≤ l ∧ a' = a ∧ cap' = cap)
theorem Cut.sl {a a' : Option Addr} {l cap m cap' : Nat} {w : World} {u : Int} (h : Cut a l cap a' m cap') (hs : Sl w a l cap (wd.dcells l u)) : Sl w a' m cap' (wd.dcells m u) := by
  rcases h with ⟨rfl, rfl, rfl⟩ | ⟨h1, h2, rfl, rfl⟩
  · exact sl_nil w
  · obtain ⟨b, o, rfl, _, _⟩ := hs.at (by omega)
    have := hs.take h2
    rwa [wd.dcells_take _ _ _ h2] at this
theorem Cut.own {a a' : Option Addr} {l cap m cap' base : Nat} {T : TypeId} {w : World} {u : Int} (h : Cut a l cap a' m cap') (hs : Own w base T a l cap (wd.dcells l u)) : Own w base T a' m cap' (wd.dcells m u) := by
  rcases h with ⟨rfl, rfl, rfl⟩ | ⟨h1, h2, rfl, rfl⟩
  · exact World.ownsRow_nil _ _ _ _
  · have := Own.take hs h2
    rwa [wd.dcells_take _ _ _ h2] at this

end Go.Proofs.Ytjdeehffbgpenaa

namespace Go.Proofs.Ytjdeehffbgpenaa
open Go.RowKit
set_option linter.unusedVariables false

theorem Below.to {w w' : World} (h : w.grownBy w' none) : Below w.heap.size w w' := (Below.refl _ w).grown h (Nat.le_refl _) (fun k e => by cases e)

end Go.Proofs.Ytjdeehffbgpenaa

namespace Go.Proofs.Ytjdeehffbgpenaa
open Go.RowKit
set_option linter.unusedVariables false

end Go.Proofs.Ytjdeehffbgpenaa

namespace Go.Proofs.Ytjdeehffbgpenaa
open Go.RowKit
set_option linter.unusedVariables false

theorem Own.set {w : World} {base b n cap i : Nat} {T : TypeId} {xs : List Value} (h : Own w base T (some ⟨b, 0, none⟩) n cap xs) (v : Value) (hi : i < n) : Own (w.setCell ⟨b, i, none⟩ v) base T (some ⟨b, 0, none⟩) n cap (xs.set i v) := by
  have hs := (seg_of_own h).1.set i v (by have := h.sl.len; omega)
  rw [Nat.zero_add] at hs
  exact ((Wr.refl w b 0 n).set v (Nat.zero_le _) hi).owned h (by rw [List.length_set]; exact h.sl.len) hs
theorem Own.cell {w : World} {base b n cap : Nat} {T : TypeId} {xs : List Value} (h : Own w base T (some ⟨b, 0, none⟩) n cap xs) (j : Nat) (v : Value) (hj : xs[j]? = some v) : w.cell? ⟨b, j, none⟩ = some v := by
  have := (seg_of_own h).1.cell j v hj
  rwa [Nat.zero_add] at this
theorem Own.free {w : World} {base b n cap : Nat} {T : TypeId} {xs : List Value} (h : Own w base T (some ⟨b, 0, none⟩) n cap xs) (j : Nat) (hj : j < n) : w.frozen? ⟨b, j, none⟩ = false := by
  have := (seg_of_own h).1.free j (by have := h.sl.len; omega)
  rwa [Nat.zero_add] at this

end Go.Proofs.Ytjdeehffbgpenaa

namespace Go.Proofs.Ytjdeehffbgpenaa
open Go.RowKit
set_option linter.unusedVariables false

theorem Cut.ne {a a' : Option Addr} {l cap m cap' : Nat} {w : World} {u : Int} (h : Cut a l cap a' m cap') (hs : Sl w a l cap (wd.dcells l u)) : ∀ o b, w.heap.size ≤ b → a' ≠ some ⟨b, o, none⟩ := by
  intro o b hb e
  rcases h with ⟨rfl, rfl, rfl⟩ | ⟨h1, h2, rfl, rfl⟩
  · cases e
  · obtain ⟨b', o', e', hlt, _⟩ := hs.at (by omega)
    rw [e'] at e
    cases e
    omega

end Go.Proofs.Ytjdeehffbgpenaa

namespace Go.Proofs.Ytjdeehffbgpenaa
open Go.RowKit
set_option linter.unusedVariables false

end Go.Proofs.Ytjdeehffbgpenaa

namespace Go.Proofs.Ytjdeehffbgpenaa
open Go.RowKit
set_option linter.unusedVariables false

end Go.Proofs.Ytjdeehffbgpenaa

namespace Go.Proofs.Ytjdeehffbgpenaa
open Go.RowKit
set_option linter.unusedVariables false

end Go.Proofs.Ytjdeehffbgpenaa

namespace Go.Proofs.Ytjdeehffbgpenaa.bt
open Go.RowKit

/-- Digit i of v, to the base 2 (of a number below nought: of v modulo as many digits as you like). -/
def dg (v : Int) (i : Nat) : Int := v / 2 ^ i % 2
def dcells (n : Nat) (v : Int) : List Value := (List.range n).map fun j => .int .i64 (dg v j)
end Go.Proofs.Ytjdeehffbgpenaa.bt

namespace Go.Proofs.Ytjdeehffbgpenaa.bt
open Go.RowKit
set_option linter.unusedVariables false

/-- v needs n digits: none for nought. -/
def IsLen (v n : Nat) : Prop := v < 2 ^ n ∧ (n = 0 ∨ 2 ^ (n - 1) ≤ v)
theorem isLen_one {v n m : Nat} (h : IsLen v n) (h' : IsLen v m) : n = m := by
  obtain ⟨a, b⟩ := h
  obtain ⟨a', b'⟩ := h'
  rcases Nat.lt_trichotomy n m with e | e | e
  · rcases b' with b' | b'
    · omega
    · have := Nat.pow_le_pow_right (n := 2) (by decide) (show n ≤ m - 1 by omega)
      omega
  · exact e
  · rcases b with b | b
    · omega
    · have := Nat.pow_le_pow_right (n := 2) (by decide) (show m ≤ n - 1 by omega)
      omega
/-- A number below 2^n has a length of n at most, and is found by cutting noughts off the end. -/
theorem isLen_cut : ∀ (n v : Nat), v < 2 ^ n → ∃ m, m ≤ n ∧ IsLen v m
  | 0, v, h => ⟨0, Nat.le_refl _, h, Or.inl rfl⟩
  | n + 1, v, h => by
    by_cases c : v < 2 ^ n
    · obtain ⟨m, h1, h2⟩ := isLen_cut n v c
      exact ⟨m, by omega, h2⟩
    · exact ⟨n + 1, Nat.le_refl _, h, Or.inr (by simp; omega)⟩
/-- How many digits v needs. -/
def nlen (v : Nat) : Nat := if h : v = 0 then 0 else nlen (v / 2) + 1
  termination_by v
  decreasing_by exact Nat.div_lt_self (Nat.pos_of_ne_zero h) (by decide)
theorem nlen_is (v : Nat) : IsLen v (nlen v) := by
  induction v using Nat.strongRecOn with
  | ind v ih =>
    unfold nlen
    split
    · rename_i h
      rw [h]
      exact ⟨by decide, Or.inl rfl⟩
    · rename_i h
      obtain ⟨h1, h2⟩ := ih (v / 2) (Nat.div_lt_self (Nat.pos_of_ne_zero h) (by decide))
      refine ⟨?_, Or.inr ?_⟩
      · rw [Nat.pow_succ]
        exact (Nat.div_lt_iff_lt_mul (by decide)).1 h1
      · rw [Nat.add_sub_cancel]
        rcases h2 with h2 | h2
        · rw [h2]
          exact Nat.pos_of_ne_zero h
        · rcases Nat.eq_zero_or_pos (nlen (v / 2)) with h3 | h3
          · rw [h3]
            exact Nat.pos_of_ne_zero h
          · have h4 := (Nat.le_div_iff_mul_le (by decide)).1 h2
            rw [← Nat.pow_succ] at h4
            rwa [show (nlen (v / 2) - 1).succ = nlen (v / 2) by omega] at h4
theorem nlen_eq {v n : Nat} (h : IsLen v n) : nlen v = n := isLen_one (nlen_is v) h
theorem nlen_le {v n : Nat} (h : v < 2 ^ n) : nlen v ≤ n := by
  obtain ⟨m, h1, h2⟩ := isLen_cut n v h
  rw [nlen_eq h2]; exact h1
theorem nlen_zero : nlen 0 = 0 := nlen_eq ⟨by decide, Or.inl rfl⟩
theorem nlen_lt (v : Nat) : v < 2 ^ nlen v := (nlen_is v).1
theorem nlen_pos {v : Nat} (h : 0 < v) : 0 < nlen v := by
  rcases Nat.lt_or_ge 0 (nlen v) with l | l
  · exact l
  · have := nlen_lt v
    rw [show nlen v = 0 by omega] at this
    simp at this
    omega
end Go.Proofs.Ytjdeehffbgpenaa.bt

namespace Go.Proofs.Ytjdeehffbgpenaa
open Go.RowKit Go.Shelf
set_option linter.unusedVariables false

end Go.Proofs.Ytjdeehffbgpenaa

namespace Go.Proofs.Ytjdeehffbgpenaa
open Go.RowKit
set_option linter.unusedVariables false

end Go.Proofs.Ytjdeehffbgpenaa

namespace Go.Proofs.Ytjdeehffbgpenaa
open Go.RowKit
set_option linter.unusedVariables false

end Go.Proofs.Ytjdeehffbgpenaa

namespace Go.Proofs.Ytjdeehffbgpenaa
open Go.RowKit
set_option linter.unusedVariables false

end Go.Proofs.Ytjdeehffbgpenaa

namespace Go.Proofs.Ytjdeehffbgpenaa
open Go.RowKit
set_option linter.unusedVariables false

end Go.Proofs.Ytjdeehffbgpenaa

namespace Go.Proofs.Ytjdeehffbgpenaa
open Go.RowKit
set_option linter.unusedVariables false

end Go.Proofs.Ytjdeehffbgpenaa

namespace Go.Proofs.Ytjdeehffbgpenaa
open Go.RowKit Go.Shelf
set_option linter.unusedVariables false
attribute [local go_sem] Oper.semAt_some

end Go.Proofs.Ytjdeehffbgpenaa

namespace Go.Proofs.Ytjdeehffbgpenaa
variable {P : Program} {md : Region.Mode} {Q : Exit → Act → World → Prop} {S : World → Prop}

theorem take_yes {l : List Oper} {i : Nat} {oi : Oper} {v : Value} {fuel : Nat} {listed : Array Bool} {a : Act} {w : World} (hi : l[i]? = some oi)
    (hs : Region.noSelect l.toArray = true) (hf : Region.free md l.toArray listed i = true) (hr : (Region.ready md l.toArray listed).contains i = true)
    (hQ : ∀ c a w, Q (.panic c) (a.put oi.dst v) w → Q (.panic c) a w) (hw : Region.wanted oi (yielded l.toArray a.tmps) = true) (hS : S w)
    (hy : ∀ w, S w → (execOp a.eval oi).run P w = .ok (.value v) w)
    (h : wpAnyH P md l.toArray Q S fuel (listed.setIfInBounds i true) (a.put oi.dst v) w) : wpAnyH P md l.toArray Q S (fuel + 1) listed a w :=
  wpAnyH_take (by simpa using hi) hs hf hr hQ (Or.inl ⟨hw, hy⟩) hS h
theorem take_no {l : List Oper} {i : Nat} {oi : Oper} {fuel : Nat} {listed : Array Bool} {a : Act} {w : World} (hi : l[i]? = some oi)
    (hs : Region.noSelect l.toArray = true) (hf : Region.free md l.toArray listed i = true) (hr : (Region.ready md l.toArray listed).contains i = true)
    (hQ : ∀ c a w, Q (.panic c) (a.put oi.dst undef) w → Q (.panic c) a w) (hw : Region.wanted oi (yielded l.toArray a.tmps) = false) (hS : S w)
    (h : wpAnyH P md l.toArray Q S fuel (listed.setIfInBounds i true) (a.put oi.dst undef) w) : wpAnyH P md l.toArray Q S (fuel + 1) listed a w :=
  wpAnyH_take (v := undef) (by simpa using hi) hs hf hr hQ (Or.inr ⟨hw, rfl⟩) hS h
theorem take_call {l : List Oper} {i : Nat} {o : Oper} {fuel : Nat} {listed : Array Bool} {a : Act} {w : World} (ho : l[i]? = some o) (hr : Region.ready md l.toArray listed = [i])
    (h : ∀ K' : Act → World → Prop, Shut (∀ a w, S w → (S w → wpAnyH P md l.toArray Q S fuel (listed.setIfInBounds i true) a w) → K' a w) → if Region.wanted o (yielded l.toArray a.tmps) = true then Oper.wp P o a w K' Q else K' (a.put o.dst undef) w) :
    wpAnyH P md l.toArray Q S (fuel + 1) listed a w :=
  wpAnyH_ready hr (by simp) (AllReadyH.cons (by simpa using ho) h AllReadyH.nil)
end Go.Proofs.Ytjdeehffbgpenaa

namespace Go.Proofs.Ytjdeehffbgpenaa
open Go.RowKit Go.Shelf
set_option linter.unusedVariables false
attribute [local go_sem] Oper.semAt_some

/-- -1, 0 or 1. -/
def cmpI (x y : Int) : Int := if x < y then -1 else if y < x then 1 else 0
end Go.Proofs.Ytjdeehffbgpenaa

namespace Go.Proofs.Ytjdeehffbgpenaa
open Go.RowKit Go.Shelf
set_option linter.unusedVariables false
attribute [local go_sem] Oper.semAt_some

end Go.Proofs.Ytjdeehffbgpenaa

namespace Go.Proofs.Ytjdeehffbgpenaa
open Go.RowKit
set_option linter.unusedVariables false

end Go.Proofs.Ytjdeehffbgpenaa

namespace Go.Proofs.Ytjdeehffbgpenaa

end Go.Proofs.Ytjdeehffbgpenaa

namespace Go.Proofs.Ytjdeehffbgpenaa.pc
open Go.RowKit

/-- Digit i of v, to the base 1000000000 (of a number below nought: of v modulo as many digits as you like). -/
def dg (v : Int) (i : Nat) : Int := v / 1000000000 ^ i % 1000000000
def dcells (n : Nat) (v : Int) : List Value := (List.range n).map fun j => .int .u32 (dg v j)
end Go.Proofs.Ytjdeehffbgpenaa.pc

namespace Go.Proofs.Ytjdeehffbgpenaa.pc
open Go.RowKit
set_option linter.unusedVariables false

/-- v needs n digits: none for nought. -/
def IsLen (v n : Nat) : Prop := v < 1000000000 ^ n ∧ (n = 0 ∨ 1000000000 ^ (n - 1) ≤ v)
theorem isLen_one {v n m : Nat} (h : IsLen v n) (h' : IsLen v m) : n = m := by
  obtain ⟨a, b⟩ := h
  obtain ⟨a', b'⟩ := h'
  rcases Nat.lt_trichotomy n m with e | e | e
  · rcases b' with b' | b'
    · omega
    · have := Nat.pow_le_pow_right (n := 1000000000) (by decide) (show n ≤ m - 1 by omega)
      omega
  · exact e
  · rcases b with b | b
    · omega
    · have := Nat.pow_le_pow_right (n := 1000000000) (by decide) (show m ≤ n - 1 by omega)
      omega
/-- A number below 1000000000^n has a length of n at most, and is found by cutting noughts off the end. -/
theorem isLen_cut : ∀ (n v : Nat), v < 1000000000 ^ n → ∃ m, m ≤ n ∧ IsLen v m
  | 0, v, h => ⟨0, Nat.le_refl _, h, Or.inl rfl⟩
  | n + 1, v, h => by
    by_cases c : v < 1000000000 ^ n
    · obtain ⟨m, h1, h2⟩ := isLen_cut n v c
      exact ⟨m, by omega, h2⟩
    · exact ⟨n + 1, Nat.le_refl _, h, Or.inr (by simp; omega)⟩
/-- How many digits v needs. -/
def nlen (v : Nat) : Nat := if h : v = 0 then 0 else nlen (v / 1000000000) + 1
  termination_by v
  decreasing_by exact Nat.div_lt_self (Nat.pos_of_ne_zero h) (by decide)
theorem nlen_is (v : Nat) : IsLen v (nlen v) := by
  induction v using Nat.strongRecOn with
  | ind v ih =>
    unfold nlen
    split
    · rename_i h
      rw [h]
      exact ⟨by decide, Or.inl rfl⟩
    · rename_i h
      obtain ⟨h1, h2⟩ := ih (v / 1000000000) (Nat.div_lt_self (Nat.pos_of_ne_zero h) (by decide))
      refine ⟨?_, Or.inr ?_⟩
      · rw [Nat.pow_succ]
        exact (Nat.div_lt_iff_lt_mul (by decide)).1 h1
      · rw [Nat.add_sub_cancel]
        rcases h2 with h2 | h2
        · rw [h2]
          exact Nat.pos_of_ne_zero h
        · rcases Nat.eq_zero_or_pos (nlen (v / 1000000000)) with h3 | h3
          · rw [h3]
            exact Nat.pos_of_ne_zero h
          · have h4 := (Nat.le_div_iff_mul_le (by decide)).1 h2
            rw [← Nat.pow_succ] at h4
            rwa [show (nlen (v / 1000000000) - 1).succ = nlen (v / 1000000000) by omega] at h4
theorem nlen_eq {v n : Nat} (h : IsLen v n) : nlen v = n := isLen_one (nlen_is v) h
theorem nlen_le {v n : Nat} (h : v < 1000000000 ^ n) : nlen v ≤ n := by
  obtain ⟨m, h1, h2⟩ := isLen_cut n v h
  rw [nlen_eq h2]; exact h1
theorem nlen_zero : nlen 0 = 0 := nlen_eq ⟨by decide, Or.inl rfl⟩
theorem nlen_lt (v : Nat) : v < 1000000000 ^ nlen v := (nlen_is v).1
theorem nlen_pos {v : Nat} (h : 0 < v) : 0 < nlen v := by
  rcases Nat.lt_or_ge 0 (nlen v) with l | l
  · exact l
  · have := nlen_lt v
    rw [show nlen v = 0 by omega] at this
    simp at this
    omega
end Go.Proofs.Ytjdeehffbgpenaa.pc

namespace Go.Proofs.Ytjdeehffbgpenaa
open Go.RowKit
set_option linter.unusedVariables false

end Go.Proofs.Ytjdeehffbgpenaa

namespace Go.Proofs.Ytjdeehffbgpenaa
open Go.RowKit
set_option linter.unusedVariables false

end Go.Proofs.Ytjdeehffbgpenaa

namespace Go.Proofs.Ytjdeehffbgpenaa
open Go.RowKit
set_option linter.unusedVariables false

end Go.Proofs.Ytjdeehffbgpenaa

namespace Go.Proofs.Ytjdeehffbgpenaa
open Go.RowKit
set_option linter.unusedVariables false

/-- The slice is the number u, without noughts at its end. -/
structure ND (w : World) (a : Option Addr) (l c u : Nat) : Prop where
  sl : Sl w a l c (wd.dcells l (u : Int))
  len : l = wd.nlen u
/-- The slice is the number u, and not too long. -/
structure NI (w : World) (a : Option Addr) (l c u : Nat) : Prop where
  sl : Sl w a l c (wd.dcells l (u : Int))
  lt : u < 4294967296 ^ l
  few : l ≤ 1000000
theorem ND.below {w w' : World} {a : Option Addr} {l c u : Nat} (h : ND w a l c u) (hb : Below w.heap.size w w') : ND w' a l c u := ⟨h.sl.below hb, h.len⟩
theorem NI.below {w w' : World} {a : Option Addr} {l c u : Nat} (h : NI w a l c u) (hb : Below w.heap.size w w') : NI w' a l c u := ⟨h.sl.below hb, h.lt, h.few⟩
theorem ND.lt {w : World} {a : Option Addr} {l c u : Nat} (h : ND w a l c u) : u < 4294967296 ^ l := by rw [h.len]; exact wd.nlen_lt u
theorem ND.ni {w : World} {a : Option Addr} {l c u : Nat} (h : ND w a l c u) (K : Nat) (hK : K ≤ 1000000) (hu : u < 4294967296 ^ K) : NI w a l c u := ⟨h.sl, h.lt, by rw [h.len]; exact Nat.le_trans (wd.nlen_le hu) hK⟩
theorem ND.to {w : World} {a : Option Addr} {l c u : Nat} (h : ND w a l c u) (hl : l ≤ 1000000) : NI w a l c u := ⟨h.sl, h.lt, hl⟩
end Go.Proofs.Ytjdeehffbgpenaa

namespace Go.Proofs.Ytjdeehffbgpenaa
open Go.RowKit
set_option linter.unusedVariables false

/-- The slice has nothing in block k. -/
def NA (k : Nat) (a : Option Addr) (l : Nat) : Prop := l = 0 ∨ ∀ o, a ≠ some ⟨k, o, none⟩
/-- The slice has nothing in the blocks ahead of base. -/
def Far (base : Nat) (a : Option Addr) (l : Nat) : Prop := ∀ k, k < base → NA k a l
theorem Far.mono {base base' : Nat} {a : Option Addr} {l : Nat} (h : Far base a l) (hb : base' ≤ base) : Far base' a l := fun k hk => h k (by omega)
theorem Sl.na {w : World} {a : Option Addr} {l c k : Nat} {xs : List Value} (h : Sl w a l c xs) (hk : w.heap.size ≤ k) : NA k a l := by
  rcases Nat.eq_zero_or_pos l with e | e
  · exact Or.inl e
  · obtain ⟨b, o, rfl, hb, _⟩ := h.at e
    exact Or.inr fun o' e' => by cases e'; omega
theorem Sl.put {w : World} {a : Option Addr} {l c b : Nat} {xs : List Value} (h : Sl w a l c xs) (hn : NA b a l) (i : Nat) (v : Value) : Sl (w.setCell ⟨b, i, none⟩ v) a l c xs := by
  refine ⟨h.len, h.room, h.big, h.nil, ?_⟩
  rcases hn with e | hn
  · exact Or.inl e
  · refine h.seg.imp id ?_
    rintro ⟨k, o, e, hk, hs⟩
    exact ⟨k, o, e, by simpa using hk, hs.other v (by rintro rfl; exact hn o e)⟩
theorem Own.far {w : World} {base n cap : Nat} {T : TypeId} {a : Option Addr} {xs : List Value} (h : Own w base T a n cap xs) : Far base a n := by
  intro k hk
  right
  intro o e
  obtain ⟨hl, ⟨h1, _⟩ | ⟨g, cap', cur, hv, hb', r⟩⟩ := h
  · rw [e] at h1
    cases h1
  · rw [e] at hv
    cases hv
    omega
theorem ND.put {w : World} {a : Option Addr} {l c u b : Nat} (h : ND w a l c u) (hn : NA b a l) (i : Nat) (v : Value) : ND (w.setCell ⟨b, i, none⟩ v) a l c u := ⟨h.sl.put hn i v, h.len⟩
theorem NI.put {w : World} {a : Option Addr} {l c u b : Nat} (h : NI w a l c u) (hn : NA b a l) (i : Nat) (v : Value) : NI (w.setCell ⟨b, i, none⟩ v) a l c u := ⟨h.sl.put hn i v, h.lt, h.few⟩
theorem cell_on {w w' : World} {p : Addr} {v : Value} (hb : Below w.heap.size w w') (h : w.cell? p = some v) : w'.cell? p = some v := by
  refine (hb.cell (p := p) ?_).trans h
  refine Nat.lt_of_not_le fun hle => ?_
  unfold World.cell? at h
  rw [Array.getElem?_eq_none hle] at h
  simp at h
theorem free_on {w w' : World} {p : Addr} {v : Value} {f : Bool} (hb : Below w.heap.size w w') (h : w.cell? p = some v) (hf : w.frozen? p = f) : w'.frozen? p = f := by
  refine (hb.frozen (p := p) ?_).trans hf
  refine Nat.lt_of_not_le fun hle => ?_
  unfold World.cell? at h
  rw [Array.getElem?_eq_none hle] at h
  simp at h
/-- A block of two cells: what they hold, and that they can be written. -/
structure Bx (w : World) (b : Nat) (x y : Value) : Prop where
  c0 : w.cell? ⟨b, 0, none⟩ = some x
  c1 : w.cell? ⟨b, 1, none⟩ = some y
  f0 : w.frozen? ⟨b, 0, none⟩ = false
  f1 : w.frozen? ⟨b, 1, none⟩ = false
theorem Bx.on {w w' : World} {b : Nat} {x y : Value} (h : Bx w b x y) (hb : Below w.heap.size w w') : Bx w' b x y := ⟨cell_on hb h.c0, cell_on hb h.c1, free_on hb h.c0 h.f0, free_on hb h.c1 h.f1⟩
theorem bx_new (w : World) (x y : Value) (t : TypeId) : Bx (w.alloc (.cells #[x, y] t)) w.heap.size x y := by
  have h := Row.new w [x, y] t
  exact ⟨h.cell 0 _ rfl, h.cell 1 _ rfl, h.free 0 (by simp), h.free 1 (by simp)⟩
theorem Bx.put {w : World} {b k i : Nat} {x y v : Value} (h : Bx w b x y) (hk : k ≠ b) : Bx (w.setCell ⟨k, i, none⟩ v) b x y := by
  have hne : ∀ j, (⟨k, i, none⟩ : Addr) ≠ ⟨b, j, none⟩ := fun j e => by cases e; exact hk rfl
  refine ⟨?_, ?_, by rw [World.frozen?_setCell]; exact h.f0, by rw [World.frozen?_setCell]; exact h.f1⟩
  · rw [World.cell?_setCell_other _ _ _ _ (by intro q; simp only [Addr.mk.injEq] at q; omega)]; exact h.c0
  · rw [World.cell?_setCell_other _ _ _ _ (by intro q; simp only [Addr.mk.injEq] at q; omega)]; exact h.c1
theorem Bx.set {w : World} {b : Nat} {x y u v : Value} (h : Bx w b x y) : Bx ((w.setCell ⟨b, 0, none⟩ u).setCell ⟨b, 1, none⟩ v) b u v := by
  refine ⟨?_, ?_, by rw [World.frozen?_setCell, World.frozen?_setCell]; exact h.f0, by rw [World.frozen?_setCell, World.frozen?_setCell]; exact h.f1⟩
  · rw [World.cell?_setCell_other _ _ _ _ (by intro q; simp only [Addr.mk.injEq] at q; omega)]
    exact World.cell?_setCell_same _ _ _ h.c0
  · have h1 : (w.setCell ⟨b, 0, none⟩ u).cell? ⟨b, 1, none⟩ = some y := by
      rw [World.cell?_setCell_other _ _ _ _ (by intro q; simp only [Addr.mk.injEq] at q; omega)]
      exact h.c1
    exact World.cell?_setCell_same _ _ _ h1
end Go.Proofs.Ytjdeehffbgpenaa

namespace Go.Proofs.Ytjdeehffbgpenaa
open Go.RowKit
set_option linter.unusedVariables false

/-- A whole number as it comes: a sign, which does not count of nought, and how much. -/
structure WI (w : World) (n : Bool) (a : Option Addr) (l c : Nat) (z : Int) : Prop where
  ni : NI w a l c z.natAbs
  neg : n = true → z ≤ 0
  pos : n = false → 0 ≤ z
/-- A whole number in its one form. -/
structure WN (w : World) (n : Bool) (a : Option Addr) (l c : Nat) (z : Int) : Prop where
  nd : ND w a l c z.natAbs
  sg : n = decide (z < 0)
theorem WI.below {w w' : World} {n : Bool} {a : Option Addr} {l c : Nat} {z : Int} (h : WI w n a l c z) (hb : Below w.heap.size w w') : WI w' n a l c z := ⟨h.ni.below hb, h.neg, h.pos⟩
theorem WN.below {w w' : World} {n : Bool} {a : Option Addr} {l c : Nat} {z : Int} (h : WN w n a l c z) (hb : Below w.heap.size w w') : WN w' n a l c z := ⟨h.nd.below hb, h.sg⟩
/-- The number of a sign and how much. -/
def sgz (n : Bool) (u : Nat) : Int := if n then -(u : Int) else u
theorem WI.is {w : World} {n : Bool} {a : Option Addr} {l c : Nat} {z : Int} (h : WI w n a l c z) : z = sgz n z.natAbs := by
  have h1 := h.neg
  have h2 := h.pos
  unfold sgz
  cases n
  · have := h2 rfl; simp; omega
  · have := h1 rfl; simp; omega
theorem WN.put {w : World} {n : Bool} {a : Option Addr} {l c b : Nat} {z : Int} (h : WN w n a l c z) (hn : NA b a l) (i : Nat) (v : Value) : WN (w.setCell ⟨b, i, none⟩ v) n a l c z := ⟨h.nd.put hn i v, h.sg⟩
theorem WI.put {w : World} {n : Bool} {a : Option Addr} {l c b : Nat} {z : Int} (h : WI w n a l c z) (hn : NA b a l) (i : Nat) (v : Value) : WI (w.setCell ⟨b, i, none⟩ v) n a l c z := ⟨h.ni.put hn i v, h.neg, h.pos⟩
theorem below_put2 {B b : Nat} {w w' : World} (h : Below B w w') (hb : B ≤ b) (u v : Value) : Below B w ((w'.setCell ⟨b, 0, none⟩ u).setCell ⟨b, 1, none⟩ v) := (h.setCell hb _).setCell hb _
theorem also {w w1 w2 : World} (h : Below w.heap.size w w1) (k : Below w1.heap.size w1 w2) : Below w.heap.size w w2 := h.trans (k.mono h.size)

end Go.Proofs.Ytjdeehffbgpenaa

namespace Go.Proofs.Ytjdeehffbgpenaa
open Go.RowKit
set_option linter.unusedVariables false

theorem Bx.drew {w : World} {b : Nat} {x y : Value} (h : Bx w b x y) : Bx w.drew b x y := ⟨h.c0, h.c1, h.f0, h.f1⟩
end Go.Proofs.Ytjdeehffbgpenaa

namespace Go.Proofs.Ytjdeehffbgpenaa
open Go.RowKit
set_option linter.unusedVariables false

end Go.Proofs.Ytjdeehffbgpenaa

namespace Go.Proofs.Ytjdeehffbgpenaa
open Go.RowKit
set_option linter.unusedVariables false

theorem ND.drew {w : World} {a : Option Addr} {l c u : Nat} (h : ND w a l c u) : ND w.drew a l c u := h.below ((Below.refl _ _).drew)
end Go.Proofs.Ytjdeehffbgpenaa

namespace Go.Proofs.Ytjdeehffbgpenaa
open Go.RowKit
set_option linter.unusedVariables false

theorem bd_i64 {x : Int} (h : (Lit.int .i64 x).wf = true) : -9223372036854775808 ≤ x ∧ x ≤ 9223372036854775807 := by
  simp [Lit.wf, IntKind.min, IntKind.max, IntKind.signed, IntKind.bits] at h
  exact ⟨by omega, by omega⟩
/-- A number that a point may have; a side that a torus may have. -/
def inC (c : Int) : Bool := decide (-1099511627776 ≤ c ∧ c ≤ 1099511627776)
def sideC (s : Int) : Bool := decide (1 ≤ s ∧ s ≤ 1099511627776)
def canC (x y : Int) : Bool := inC x && inC y
/-- Whether the point i sides to the right of x, y and k above can be. -/
def atC (x y i k s : Int) : Bool := sideC s && (canC x y && (inC (x + i * s) && inC (y + k * s)))
theorem inC_true {c : Int} : inC c = true ↔ (-1099511627776 ≤ c ∧ c ≤ 1099511627776) := by unfold inC; exact decide_eq_true_iff
theorem sideC_true {s : Int} : sideC s = true ↔ (1 ≤ s ∧ s ≤ 1099511627776) := by unfold sideC; exact decide_eq_true_iff
theorem canC_true {x y : Int} : canC x y = true ↔ (inC x = true ∧ inC y = true) := by unfold canC; exact Bool.and_eq_true_iff
theorem atC_true {x y i k s : Int} : atC x y i k s = true ↔ (sideC s = true ∧ canC x y = true ∧ inC (x + i * s) = true ∧ inC (y + k * s) = true) := by unfold atC; rw [Bool.and_eq_true_iff, Bool.and_eq_true_iff, Bool.and_eq_true_iff]
/-- How many sides lie between the ends. -/
def reachC (i s : Int) : Bool := decide (-(2199023255552 / s) ≤ i ∧ i ≤ 2199023255552 / s)
theorem reach_prod {i s : Int} (hs : sideC s = true) (h : reachC i s = true) : -2199023255552 ≤ i * s ∧ i * s ≤ 2199023255552 := by
  obtain ⟨s1, s2⟩ := sideC_true.1 hs
  obtain ⟨h1, h2⟩ := decide_eq_true_iff.1 h
  have e := Int.mul_ediv_add_emod 2199023255552 s
  have m := Int.emod_nonneg 2199023255552 (b := s) (by omega)
  have p1 : i * s ≤ 2199023255552 / s * s := Int.mul_le_mul_of_nonneg_right h2 (by omega)
  have p2 : -(2199023255552 / s) * s ≤ i * s := Int.mul_le_mul_of_nonneg_right h1 (by omega)
  rw [Int.neg_mul] at p2
  rw [Int.mul_comm] at e
  exact ⟨by omega, by omega⟩
theorem reach_in {x i s : Int} (hs : sideC s = true) (hx : inC x = true) (h : inC (x + i * s) = true) : reachC i s = true := by
  obtain ⟨s1, s2⟩ := sideC_true.1 hs
  obtain ⟨x1, x2⟩ := inC_true.1 hx
  obtain ⟨h1, h2⟩ := inC_true.1 h
  refine decide_eq_true_iff.2 ⟨?_, ?_⟩
  · have : -i ≤ 2199023255552 / s := (Int.le_ediv_iff_mul_le (by omega)).2 (by rw [Int.neg_mul]; omega)
    omega
  · exact (Int.le_ediv_iff_mul_le (by omega)).2 (by omega)
theorem wrap_in {x : Int} (h1 : -9223372036854775808 ≤ x) (h2 : x ≤ 9223372036854775807) : wrap64 x = x := by unfold wrap64; omega
theorem wrap_i64 (x : Int) : IntKind.i64.wrap x = wrap64 x := by unfold wrap64; simp [IntKind.wrap, IntKind.signed, IntKind.bits]; try omega
theorem tdiv_big {s : Int} (hs : 0 < s) : (2199023255552 : Int).tdiv s = 2199023255552 / s := Int.tdiv_eq_ediv_of_nonneg (by decide)
end Go.Proofs.Ytjdeehffbgpenaa

namespace Go.Proofs.Ytjdeehffbgpenaa
open Go.RowKit
set_option linter.unusedVariables false

/-- Twice a triangle's area: (b - a) across (c - a). -/
def areaP (ax ay bx by' cx cy : Int) : Int := (bx - ax) * (cy - ay) - (by' - ay) * (cx - ax)
theorem area_turn (ax ay bx by' cx cy : Int) : areaP bx by' cx cy ax ay = areaP ax ay bx by' cx cy := by unfold areaP; grind
theorem prod_abs {x y : Int} {A B : Nat} (hx : x.natAbs ≤ A) (hy : y.natAbs ≤ B) : (x * y).natAbs ≤ A * B := by
  rw [Int.natAbs_mul]; exact Nat.mul_le_mul hx hy
/-- How great they are, of points that differ by at most D. -/
theorem cross_abs {p q r s : Int} {D : Nat} (h1 : p.natAbs ≤ D) (h2 : q.natAbs ≤ D) (h3 : r.natAbs ≤ D) (h4 : s.natAbs ≤ D) : (p * q - r * s).natAbs ≤ 2 * (D * D) := by
  have a := prod_abs h1 h2
  have b := prod_abs h3 h4
  omega
theorem area_abs {ax ay bx by' cx cy : Int} {D : Nat} (h1 : (bx - ax).natAbs ≤ D) (h2 : (by' - ay).natAbs ≤ D) (h3 : (cx - ax).natAbs ≤ D) (h4 : (cy - ay).natAbs ≤ D) : (areaP ax ay bx by' cx cy).natAbs ≤ 2 * (D * D) := cross_abs h1 h4 h2 h3
/-- Points that can be differ by at most 2^41. -/
theorem can_diff {x y : Int} (hx : inC x = true) (hy : inC y = true) : (x - y).natAbs ≤ 2199023255552 := by
  have := inC_true.1 hx
  have := inC_true.1 hy
  omega
/-- The sign as it is told. -/
theorem cmp_sign (x : Int) : cmpI x 0 = x.sign := by
  unfold cmpI
  rcases Int.lt_trichotomy x 0 with h | h | h
  · rw [if_pos h, Int.sign_eq_neg_one_of_neg h]
  · subst h; rfl
  · rw [if_neg (by omega), if_pos h, Int.sign_eq_one_of_pos h]
end Go.Proofs.Ytjdeehffbgpenaa

namespace Go.Proofs.Ytjdeehffbgpenaa
open Go.RowKit
set_option linter.unusedVariables false

/-- An arena: what is lent, what came back, how many there were. -/
structure Ar where
  L : List Int
  B : List Int
  T : Nat
def Ar.num (A : Ar) : Int := tkN A.B A.T
def Ar.took (A : Ar) : Ar := ⟨A.L ++ [A.num], A.B.dropLast, tkT A.B A.T⟩
def Ar.freed (A : Ar) (n : Int) : Ar := ⟨A.L.filter (fun y => decide (y ≠ n)), A.B ++ [n], A.T⟩
/-- A vertex, a face, a face with its number. -/
structure Vt where
  no : Int
  x : Int
  y : Int
  id : Int
structure Tr where
  v0 : Int
  v1 : Int
  v2 : Int
  x0 : Int
  y0 : Int
  x1 : Int
  y1 : Int
  x2 : Int
  y2 : Int
structure Ce where
  no : Int
  t : Tr
def Tr.v (t : Tr) (i : Nat) : Int := if i = 0 then t.v0 else if i = 1 then t.v1 else t.v2
def Tr.x (t : Tr) (i : Nat) : Int := if i = 0 then t.x0 else if i = 1 then t.x1 else t.x2
def Tr.y (t : Tr) (i : Nat) : Int := if i = 0 then t.y0 else if i = 1 then t.y1 else t.y2
def nx (i : Nat) : Nat := (i + 1) % 3
def trL (t : Tr) : List Int := [t.v0, t.v1, t.v2, t.x0, t.y0, t.x1, t.y1, t.x2, t.y2]
/-- A mesh. -/
structure Ms where
  n : Int
  av : Ar
  af : Ar
  V : List Vt
  C : List Ce
/-- The place of the first that has a number, from k on; -1: none. -/
def fAt {α : Type} (f : α → Int) (v : Int) : List α → Int → Int
  | [], _ => -1
  | a :: l, k => if f a = v then k else fAt f v l (k + 1)
/-- Where the first one stands. -/
theorem fAt_spec {α : Type} (f : α → Int) (v : Int) (L : List α) (k : Int) (hk : 0 ≤ k) : (fAt f v L k = -1 ∧ ∀ a ∈ L, f a ≠ v) ∨ ∃ (i : Nat) (a : α), fAt f v L k = k + i ∧ L[i]? = some a ∧ f a = v := by
  induction L generalizing k with
  | nil => exact Or.inl ⟨rfl, fun a h => by cases h⟩
  | cons b L ih =>
    by_cases e : f b = v
    · exact Or.inr ⟨0, b, by rw [fAt, if_pos e]; simp, rfl, e⟩
    · rcases ih (k + 1) (by omega) with ⟨h1, h2⟩ | ⟨i, a, h1, h2, h3⟩
      · refine Or.inl ⟨by rw [fAt, if_neg e]; exact h1, fun a ha => ?_⟩
        rcases List.mem_cons.1 ha with rfl | ha
        · exact e
        · exact h2 a ha
      · exact Or.inr ⟨i + 1, a, by rw [fAt, if_neg e, h1]; omega, by simpa using h2, h3⟩
theorem fAt_cases {α : Type} (f : α → Int) (v : Int) (L : List α) : (fAt f v L 0 = -1 ∧ ∀ a ∈ L, f a ≠ v) ∨ ∃ (i : Nat) (a : α), fAt f v L 0 = (i : Int) ∧ L[i]? = some a ∧ f a = v := by
  rcases fAt_spec f v L 0 (by omega) with h | ⟨i, a, h1, h⟩
  · exact Or.inl h
  · exact Or.inr ⟨i, a, by rw [h1]; omega, h⟩
/-- Put ahead of the first that has a greater number. -/
def insBy {α : Type} (f : α → Int) (x : α) : List α → List α
  | [] => [x]
  | a :: l => if f x < f a then x :: a :: l else a :: insBy f x l
theorem insBy_mem {α : Type} {f : α → Int} {x : α} {L : List α} {y : α} : y ∈ insBy f x L ↔ y = x ∨ y ∈ L := by
  induction L with
  | nil => simp [insBy]
  | cons a L ih =>
    unfold insBy
    split
    · simp
    · simp only [List.mem_cons, ih]
      exact ⟨fun h => h.elim (fun h => Or.inr (Or.inl h)) (fun h => h.elim Or.inl (fun h => Or.inr (Or.inr h))), fun h => h.elim (fun h => Or.inr (Or.inl h)) (fun h => h.elim Or.inl (fun h => Or.inr (Or.inr h)))⟩
/-- Without the one at a place. -/
def cut {α : Type} (L : List α) (i : Nat) : List α := L.take i ++ L.drop (i + 1)
/-- Whether a face has a vertex; the faces that have it. -/
def has (t : Tr) (v : Int) : Bool := decide (t.v0 = v ∨ t.v1 = v ∨ t.v2 = v)
def around (C : List Ce) (v : Int) : List Int := (C.filter (fun c => has c.t v)).map (fun c => c.no)
/-- An edge of one is one of the other, the same way; the other way round. -/
def same (a : Tr) (i : Nat) (b : Tr) (k : Nat) : Bool := decide (a.v i = b.v k ∧ a.v (nx i) = b.v (nx k) ∧ a.x (nx i) - a.x i = b.x (nx k) - b.x k ∧ a.y (nx i) - a.y i = b.y (nx k) - b.y k)
def opp (a : Tr) (i : Nat) (b : Tr) (k : Nat) : Bool := decide (a.v i = b.v (nx k) ∧ a.v (nx i) = b.v k ∧ a.x (nx i) - a.x i = b.x k - b.x (nx k) ∧ a.y (nx i) - a.y i = b.y k - b.y (nx k))
/-- Whether an edge of a face is there. -/
def twin (t : Tr) (c : Ce) (x : Nat) : Bool := same t (x / 3) c.t (x % 3)
def there (t : Tr) (C : List Ce) : Bool := C.any fun c => (List.range 9).any fun x => twin t c x
/-- Where a vertex lies. -/
def pos (V : List Vt) (v : Int) : Int × Int := match V.find? (fun a => decide (a.no = v)) with | some a => (a.x, a.y) | none => (0, 0)
def plOk (S : Ms) (t : Tr) (i : Nat) : Bool := atC (pos S.V (t.v i)).1 (pos S.V (t.v i)).2 (t.x i) (t.y i) S.n
def plX (S : Ms) (t : Tr) (i : Nat) : Int := if plOk S t i then (pos S.V (t.v i)).1 + t.x i * S.n else 0
def plY (S : Ms) (t : Tr) (i : Nat) : Int := if plOk S t i then (pos S.V (t.v i)).2 + t.y i * S.n else 0
def isV (S : Ms) (v : Int) : Bool := decide (0 ≤ fAt Vt.no v S.V 0)
def isF (S : Ms) (f : Int) : Bool := decide (0 ≤ fAt Ce.no f S.C 0)
def areaT (S : Ms) (t : Tr) : Int := areaP (plX S t 0) (plY S t 0) (plX S t 1) (plY S t 1) (plX S t 2) (plY S t 2)
/-- What is wrong with a face that is to be put: 0, ErrArg, ErrMesh. -/
def fErr (S : Ms) (t : Tr) : Int :=
  if isV S t.v0 = false ∨ isV S t.v1 = false ∨ isV S t.v2 = false then 1
  else if plOk S t 0 = false ∨ plOk S t 1 = false ∨ plOk S t 2 = false ∨ (areaT S t).sign ≠ 1 ∨ there t S.C = true then 6 else 0
def inSq (S : Ms) (x y : Int) : Bool := decide (0 ≤ x ∧ x < S.n ∧ 0 ≤ y ∧ y < S.n)
/-- What is done to a mesh. -/
def Ms.addV (S : Ms) (x y id : Int) : Ms := { S with av := S.av.took, V := insBy Vt.no ⟨S.av.num, x, y, id⟩ S.V }
def Ms.addF (S : Ms) (t : Tr) : Ms := { S with af := S.af.took, C := insBy Ce.no ⟨S.af.num, t⟩ S.C }
def Ms.dropV (S : Ms) (v : Int) (i : Nat) : Ms := { S with av := S.av.freed v, V := cut S.V i }
def Ms.dropF (S : Ms) (f : Int) (i : Nat) : Ms := { S with af := S.af.freed f, C := cut S.C i }
/-- The face across from an edge, and its edge. -/
def acr (t : Tr) (a : Nat) : List Ce → Option (Ce × Nat)
  | [] => none
  | c :: l => if opp t a c.t 0 = true then some (c, 0) else if opp t a c.t 1 = true then some (c, 1) else if opp t a c.t 2 = true then some (c, 2) else acr t a l
def corner (i : Int) : Nat := (i % 3).toNat
def crossed (S : Ms) (f i : Int) : Option (Tr × Ce × Nat) := match S.C.find? (fun c => decide (c.no = f)) with
  | none => none
  | some c => match acr c.t (nx (corner i)) S.C with
    | none => none
    | some r => some (c.t, r)
def whole (S : Ms) : Bool := (S.C.all fun c => (List.range 3).all fun k => (crossed S c.no (k : Int)).isSome) && ((S.V.all fun a => !(around S.C a.no).isEmpty) && decide ((S.C.map fun c => areaT S c.t).sum = 2 * (S.n * S.n)))
end Go.Proofs.Ytjdeehffbgpenaa
