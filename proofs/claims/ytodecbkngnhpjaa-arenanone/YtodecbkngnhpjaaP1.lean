/-
  Joined texts, part 1:
  Rows of values in one block of memory: what is read of them behind a store, a draw, a new block, a call that leaves old memory alone. It imports nothing of the program.
  Slices in memory, wherever they begin in their block: what is read of them behind a store, a draw, a new block, a call. It imports nothing of the program.
  Objects that calls change in place: which blocks a call may write (Keep F: all others stay), lists of ints in memory of one's own, append onto them. It imports nothing of the program.
  A slice of ints that comes as an argument, opened.
  What zelligeref10's in, Without and Ints answer.
  The numbers of an arena: those that are lent and those that came back are all below its top, each once. It imports nothing of the program.
  What zelligeref10's Live, Take and Free do.
  What zelligeref10's Free does, and what its All and Ints answer.
  What the program's arena must do (its own shape in memory is left open: AP): the laws of layer 10 are walked over this. The law's own look.
  A region whose order is open, an operation at a time: one that is wanted and yields in every world of interest, one that is not wanted, a call. It imports nothing of the program.
-/
import Derived.WalkKit
import Derived.WalkSmall
import Derived.Laws.OwnMore
import Derived.Test.YtodecbkngnhpjaaRows
import Derived.WalkSpells
import Derived.Deep.QuietTactic
import Derived.BigQuiet
import Derived.RegionTactic
import Derived.ChangeAlike
import Derived.OwnWalk
import Derived.Laws.AppendOwnNone
import Derived.Maps.AppendAt
import Derived.ProofKit
import Derived.OpenShut
import Derived.ChangeSlices
import Derived.Lib.SmallJoins
import Derived.Deep.RegionHeld3
namespace Go.Proofs.Ytodecbkngnhpjaa
open Go.RowKit

/-- Block b holds the values xs from its head on, and none of these cells is frozen. -/
def Row (w : World) (b : Nat) (xs : List Value) : Prop := ∀ j v, xs[j]? = some v → w.cell? ⟨b, j, none⟩ = some v ∧ w.frozen? ⟨b, j, none⟩ = false
theorem Row.cell {w : World} {b : Nat} {xs : List Value} (h : Row w b xs) (j : Nat) (v : Value) (hj : xs[j]? = some v) : w.cell? ⟨b, j, none⟩ = some v := (h j v hj).1
theorem Row.free {w : World} {b : Nat} {xs : List Value} (h : Row w b xs) (j : Nat) (hj : j < xs.length) : w.frozen? ⟨b, j, none⟩ = false := (h j xs[j] (List.getElem?_eq_getElem hj)).2
theorem Row.drewN {w : World} {b : Nat} {xs : List Value} (h : Row w b xs) (n : Nat) : Row (w.drewN n) b xs := h
theorem Row.drew {w : World} {b : Nat} {xs : List Value} (h : Row w b xs) : Row w.drew b xs := h
theorem Row.set {w : World} {b : Nat} {xs : List Value} (h : Row w b xs) (i : Nat) (v : Value) (hi : i < xs.length) : Row (w.setCell ⟨b, i, none⟩ v) b (xs.set i v) := by
  intro j u hu
  rw [World.frozen?_setCell]
  by_cases e : i = j
  · subst e
    rw [List.getElem?_set_self hi] at hu
    simp only [Option.some.injEq] at hu
    subst hu
    exact ⟨World.cell?_setCell_same _ _ _ (h.cell i xs[i] (List.getElem?_eq_getElem hi)), h.free i hi⟩
  · rw [List.getElem?_set_ne e] at hu
    rw [World.cell?_setCell_other _ _ _ _ (by intro q; simp only [Addr.mk.injEq] at q; omega)]
    exact h j u hu
theorem Row.below {w w' : World} {b B : Nat} {xs : List Value} (h : Row w b xs) (hb : Below B w w') (hB : b < B) : Row w' b xs := by
  intro j u hu
  rw [hb.cell (p := ⟨b, j, none⟩) hB, hb.frozen (p := ⟨b, j, none⟩) hB]
  exact h j u hu
theorem Row.other {w : World} {b c i : Nat} {xs : List Value} (h : Row w b xs) (v : Value) (hc : c ≠ b) : Row (w.setCell ⟨c, i, none⟩ v) b xs := by
  intro j u hu
  rw [World.frozen?_setCell, World.cell?_setCell_other _ _ _ _ (by intro q; simp only [Addr.mk.injEq] at q; omega)]
  exact h j u hu
theorem Row.new (w : World) (xs : List Value) (t : TypeId) : Row (w.alloc (.cells xs.toArray t)) w.heap.size xs := by
  intro j u hu
  rw [World.cell?_alloc_new, World.frozen?_alloc_new]
  exact ⟨by simpa using hu, rfl⟩
theorem Row.alloc {w : World} {b : Nat} {xs : List Value} (h : Row w b xs) (o : Obj) (hb : b < w.heap.size) : Row (w.alloc o) b xs :=
  h.below (((Below.refl _ _).alloc (Nat.le_refl _) o)) hb
end Go.Proofs.Ytodecbkngnhpjaa

namespace Go.Proofs.Ytodecbkngnhpjaa
open Go.RowKit
set_option linter.unusedVariables false

/-- Block b holds the values xs from offset o on, and none of these cells is frozen. -/
def Seg (w : World) (b o : Nat) (xs : List Value) : Prop := ∀ j v, xs[j]? = some v → w.cell? ⟨b, o + j, none⟩ = some v ∧ w.frozen? ⟨b, o + j, none⟩ = false
theorem Seg.cell {w : World} {b o : Nat} {xs : List Value} (h : Seg w b o xs) (j : Nat) (v : Value) (hj : xs[j]? = some v) : w.cell? ⟨b, o + j, none⟩ = some v := (h j v hj).1
theorem Seg.free {w : World} {b o : Nat} {xs : List Value} (h : Seg w b o xs) (j : Nat) (hj : j < xs.length) : w.frozen? ⟨b, o + j, none⟩ = false := (h j xs[j] (List.getElem?_eq_getElem hj)).2
theorem Seg.drewN {w : World} {b o : Nat} {xs : List Value} (h : Seg w b o xs) (n : Nat) : Seg (w.drewN n) b o xs := h
theorem Seg.drew {w : World} {b o : Nat} {xs : List Value} (h : Seg w b o xs) : Seg w.drew b o xs := h
theorem Seg.nil (w : World) (b o : Nat) : Seg w b o [] := by intro j v h; simp at h
theorem Seg.set {w : World} {b o : Nat} {xs : List Value} (h : Seg w b o xs) (i : Nat) (v : Value) (hi : i < xs.length) : Seg (w.setCell ⟨b, o + i, none⟩ v) b o (xs.set i v) := by
  intro j u hu
  rw [World.frozen?_setCell]
  by_cases e : i = j
  · subst e
    rw [List.getElem?_set_self hi] at hu
    simp only [Option.some.injEq] at hu
    subst hu
    exact ⟨World.cell?_setCell_same _ _ _ (h.cell i xs[i] (List.getElem?_eq_getElem hi)), h.free i hi⟩
  · rw [List.getElem?_set_ne e] at hu
    rw [World.cell?_setCell_other _ _ _ _ (by intro q; simp only [Addr.mk.injEq] at q; omega)]
    exact h j u hu
theorem Seg.other {w : World} {b c o i : Nat} {xs : List Value} (h : Seg w b o xs) (v : Value) (hc : c ≠ b) : Seg (w.setCell ⟨c, i, none⟩ v) b o xs := by
  intro j u hu
  rw [World.frozen?_setCell, World.cell?_setCell_other _ _ _ _ (by intro q; simp only [Addr.mk.injEq] at q; omega)]
  exact h j u hu
theorem Seg.block {w w' : World} {b o : Nat} {xs : List Value} (h : Seg w b o xs) (hb : w'.heap[b]? = w.heap[b]?) : Seg w' b o xs := by
  intro j u hu
  rw [World.cell?_of_block (w := w) (a := ⟨b, o + j, none⟩) hb, World.frozen?_of_block (w := w) (a := ⟨b, o + j, none⟩) hb]
  exact h j u hu
theorem Seg.below {w w' : World} {b o B : Nat} {xs : List Value} (h : Seg w b o xs) (hb : Below B w w') (hB : b < B) : Seg w' b o xs := h.block (hb.block b hB)
theorem Seg.take {w : World} {b o : Nat} {xs : List Value} (h : Seg w b o xs) (n : Nat) : Seg w b o (xs.take n) := by
  intro j u hu
  rw [List.getElem?_take] at hu
  split at hu
  · exact h j u hu
  · cases hu
theorem Seg.drop {w : World} {b o : Nat} {xs : List Value} (h : Seg w b o xs) (n : Nat) : Seg w b (o + n) (xs.drop n) := by
  intro j u hu
  rw [List.getElem?_drop] at hu
  have := h (n + j) u hu
  rwa [show o + n + j = o + (n + j) by omega]
theorem Seg.append {w : World} {b o : Nat} {xs ys : List Value} (h : Seg w b o xs) (k : Seg w b (o + xs.length) ys) : Seg w b o (xs ++ ys) := by
  intro j u hu
  by_cases e : j < xs.length
  · rw [List.getElem?_append_left e] at hu
    exact h j u hu
  · rw [List.getElem?_append_right (by omega)] at hu
    have := k _ u hu
    rwa [show o + xs.length + (j - xs.length) = o + j by omega] at this
theorem Row.seg {w : World} {b : Nat} {xs : List Value} (h : Row w b xs) : Seg w b 0 xs := by
  intro j u hu
  rw [Nat.zero_add]
  exact h j u hu

/-- The slice (a, n, cap) holds the values xs. -/
structure Sl (w : World) (a : Option Addr) (n cap : Nat) (xs : List Value) : Prop where
  len : xs.length = n
  room : n ≤ cap
  big : cap ≤ maxLen
  nil : a = none → n = 0 ∧ cap = 0
  seg : n = 0 ∨ ∃ b o, a = some ⟨b, o, none⟩ ∧ b < w.heap.size ∧ Seg w b o xs
theorem Sl.below {w w' : World} {a : Option Addr} {n cap : Nat} {xs : List Value} (h : Sl w a n cap xs) (hb : Below w.heap.size w w') : Sl w' a n cap xs := by
  refine ⟨h.len, h.room, h.big, h.nil, h.seg.imp id ?_⟩
  rintro ⟨b, o, e, hlt, hs⟩
  exact ⟨b, o, e, Nat.lt_of_lt_of_le hlt hb.size, hs.below hb hlt⟩
/-- Where a slice has an element k, its address is known. -/
theorem Sl.at {w : World} {a : Option Addr} {n cap : Nat} {xs : List Value} (h : Sl w a n cap xs) (hn : 0 < n) : ∃ b o, a = some ⟨b, o, none⟩ ∧ b < w.heap.size ∧ Seg w b o xs := h.seg.resolve_left (by omega)
theorem Sl.take {w : World} {b o n cap m : Nat} {xs : List Value} (h : Sl w (some ⟨b, o, none⟩) n cap xs) (hm : m ≤ n) : Sl w (some ⟨b, o, none⟩) m cap (xs.take m) := by
  refine ⟨by rw [List.length_take, h.len]; omega, by have := h.room; omega, h.big, (by intro e; cases e), ?_⟩
  rcases Nat.eq_zero_or_pos m with e | e
  · exact Or.inl e
  · obtain ⟨b', o', e1, h1, h2⟩ := h.at (by omega)
    cases e1
    exact Or.inr ⟨b, o, rfl, h1, h2.take m⟩
/-- A slice in memory of the call's own, from base on. -/
abbrev Own (w : World) (base : Nat) (T : TypeId) (a : Option Addr) (n cap : Nat) (xs : List Value) : Prop := w.ownsRow base T 1 (.slice a n cap) n xs
theorem Own.sl {w : World} {base n cap : Nat} {T : TypeId} {a : Option Addr} {xs : List Value} (h : Own w base T a n cap xs) : Sl w a n cap xs := by
  obtain ⟨hl, ⟨h1, h2⟩ | ⟨g, cap', cur, hv, hb, hg, h1, h2, h3, h4⟩⟩ := h
  · cases h1
    refine ⟨by omega, Nat.le_refl _, Nat.zero_le _, fun _ => ⟨rfl, rfl⟩, Or.inl rfl⟩
  · cases hv
    refine ⟨by omega, h1, h2, (by intro e; cases e), Or.inr ⟨g, 0, rfl, (Array.getElem?_eq_some_iff.1 hg).1, ?_⟩⟩
    intro j u hu
    have hj : j < n := by
      have := (List.getElem?_eq_some_iff.1 hu).1
      omega
    rw [← h4, Nat.mul_one, List.getElem?_take, if_pos hj] at hu
    refine ⟨by simp [World.cell?, hg]; simpa using hu, by simp [World.frozen?, hg]⟩
theorem Own.form {w : World} {base n : Nat} {T : TypeId} {v : Value} {xs : List Value} (h : w.ownsRow base T 1 v n xs) : ∃ a cap, v = .slice a n cap ∧ Own w base T a n cap xs := by
  obtain ⟨hl, ⟨h1, h2⟩ | ⟨g, cap', cur, hv, hb, hg, h1, h2, h3, h4⟩⟩ := h
  · subst h1 h2
    exact ⟨none, 0, rfl, hl, Or.inl ⟨rfl, rfl⟩⟩
  · subst hv
    exact ⟨_, _, rfl, hl, Or.inr ⟨g, cap', cur, rfl, hb, hg, h1, h2, h3, h4⟩⟩
theorem Own.mono {w : World} {base base' n cap : Nat} {T : TypeId} {a : Option Addr} {xs : List Value} (h : Own w base T a n cap xs) (hb : base' ≤ base) : Own w base' T a n cap xs := by
  obtain ⟨hl, h1 | ⟨g, cap', cur, hv, hb', r⟩⟩ := h
  · exact ⟨hl, Or.inl h1⟩
  · exact ⟨hl, Or.inr ⟨g, cap', cur, hv, by omega, r⟩⟩
theorem Own.below {w w' : World} {base n cap : Nat} {T : TypeId} {a : Option Addr} {xs : List Value} (h : Own w base T a n cap xs) (hb : Below w.heap.size w w') : Own w' base T a n cap xs := by
  obtain ⟨hl, h1 | ⟨g, cap', cur, hv, hb', hg, r⟩⟩ := h
  · exact ⟨hl, Or.inl h1⟩
  · exact ⟨hl, Or.inr ⟨g, cap', cur, hv, hb', by rw [hb.block g (Array.getElem?_eq_some_iff.1 hg).1]; exact hg, r⟩⟩
/-- Cut at its end. -/
theorem Own.take {w : World} {base n cap m : Nat} {T : TypeId} {a : Option Addr} {xs : List Value} (h : Own w base T a n cap xs) (hm : m ≤ n) : Own w base T a m cap (xs.take m) := by
  obtain ⟨hl, ⟨h1, h2⟩ | ⟨g, cap', cur, hv, hb', hg, h1, h2, h3, h4⟩⟩ := h
  · subst h2
    obtain rfl : m = 0 := by omega
    cases h1
    exact ⟨by simp, Or.inl ⟨rfl, rfl⟩⟩
  · cases hv
    refine ⟨by rw [List.length_take, hl]; omega, Or.inr ⟨g, cap, cur, rfl, hb', hg, by omega, h2, h3, ?_⟩⟩
    rw [← h4, List.take_take, Nat.mul_one, Nat.mul_one, Nat.min_eq_left hm]
theorem Own.at {w : World} {base n cap : Nat} {T : TypeId} {a : Option Addr} {xs : List Value} (h : Own w base T a n cap xs) (hn : 0 < n) : ∃ b, a = some ⟨b, 0, none⟩ ∧ b < w.heap.size ∧ base ≤ b ∧ Seg w b 0 xs := by
  obtain ⟨b, o, e, h1, h2⟩ := h.sl.at hn
  subst e
  obtain ⟨hl, ⟨h1', _⟩ | ⟨g, cap', cur, hv, hb', r⟩⟩ := h
  · cases h1'
  · cases hv
    exact ⟨b, rfl, h1, hb', h2⟩

/-- w' is w but for new blocks and for the cells of block b from lo on, ahead of hi. -/
structure Wr (w w' : World) (b lo hi : Nat) : Prop where
  grown : w.grownBy w' (some b)
  cells : ∀ c t f, w.heap[b]? = some (.cells c t f) → ∃ c', w'.heap[b]? = some (.cells c' t f) ∧ c'.size = c.size ∧ ∀ o, (o < lo ∨ hi ≤ o) → c'[o]? = c[o]?
theorem Wr.refl (w : World) (b lo hi : Nat) : Wr w w b lo hi := ⟨World.grownBy.refl _ _, fun c t f h => ⟨c, h, rfl, fun _ _ => rfl⟩⟩
theorem Wr.trans {w w' w'' : World} {b lo hi : Nat} (h : Wr w w' b lo hi) (k : Wr w' w'' b lo hi) : Wr w w'' b lo hi := by
  refine ⟨⟨k.grown.os.trans h.grown.os, k.grown.tape.trans h.grown.tape, k.grown.output.trans h.grown.output, Nat.le_trans h.grown.size k.grown.size, fun i hi hne => (k.grown.block i (Nat.lt_of_lt_of_le hi h.grown.size) hne).trans (h.grown.block i hi hne)⟩, fun c t f hc => ?_⟩
  obtain ⟨c1, e1, s1, o1⟩ := h.cells c t f hc
  obtain ⟨c2, e2, s2, o2⟩ := k.cells c1 t f e1
  exact ⟨c2, e2, s2.trans s1, fun o ho => (o2 o ho).trans (o1 o ho)⟩
theorem Wr.mono {w w' : World} {b lo hi lo' hi' : Nat} (h : Wr w w' b lo hi) (h1 : lo' ≤ lo) (h2 : hi ≤ hi') : Wr w w' b lo' hi' :=
  ⟨h.grown, fun c t f hc => by obtain ⟨c1, e1, s1, o1⟩ := h.cells c t f hc; exact ⟨c1, e1, s1, fun o ho => o1 o (by omega)⟩⟩
theorem Wr.drewN {w w' : World} {b lo hi : Nat} (h : Wr w w' b lo hi) (n : Nat) : Wr w (w'.drewN n) b lo hi := ⟨⟨h.grown.os, h.grown.tape, h.grown.output, h.grown.size, h.grown.block⟩, h.cells⟩
theorem Wr.drew {w w' : World} {b lo hi : Nat} (h : Wr w w' b lo hi) : Wr w w'.drew b lo hi := ⟨⟨h.grown.os, h.grown.tape, h.grown.output, h.grown.size, h.grown.block⟩, h.cells⟩
theorem Wr.set {w w' : World} {b lo hi i : Nat} (h : Wr w w' b lo hi) (v : Value) (h1 : lo ≤ i) (h2 : i < hi) : Wr w (w'.setCell ⟨b, i, none⟩ v) b lo hi := by
  refine h.trans ⟨⟨rfl, rfl, rfl, by simp, fun k hk hne => Below.heap_setCell _ _ _ _ (by simpa using hne)⟩, fun c t f hc => ?_⟩
  refine ⟨c.setIfInBounds i v, ?_, by simp, fun o ho => ?_⟩
  · simp [World.setCell, Array.getElem?_modify, hc]
  · rw [Array.getElem?_setIfInBounds_ne (by omega)]
/-- A call that leaves old memory alone. -/
theorem Wr.below {w w' w'' : World} {b lo hi : Nat} (h : Wr w w' b lo hi) (hb : Below w'.heap.size w' w'') (hlt : b < w.heap.size) : Wr w w'' b lo hi := by
  refine h.trans ⟨⟨hb.os, hb.tape, hb.output, hb.size, fun k hk _ => hb.block k hk⟩, fun c t f hc => ⟨c, ?_, rfl, fun _ _ => rfl⟩⟩
  rw [hb.block b (Nat.lt_of_lt_of_le hlt h.grown.size)]
  exact hc
/-- Another block's cells stay. -/
theorem Wr.seg {w w' : World} {b lo hi c o : Nat} {xs : List Value} (h : Wr w w' b lo hi) (hs : Seg w c o xs) (hlt : c < w.heap.size) (hne : c ≠ b) : Seg w' c o xs :=
  hs.block (h.grown.block c hlt (by simpa using hne))
/-- The same block's cells outside what was written stay. -/
theorem Wr.out {w w' : World} {b lo hi o : Nat} {xs : List Value} (h : Wr w w' b lo hi) (hs : Seg w b o xs) (hout : o + xs.length ≤ lo ∨ hi ≤ o) : Seg w' b o xs := by
  intro j u hu
  have hj := (List.getElem?_eq_some_iff.1 hu).1
  obtain ⟨h1, h2⟩ := hs j u hu
  unfold World.cell? at h1 ⊢
  unfold World.frozen? at h2 ⊢
  dsimp only at h1 h2 ⊢
  split at h1
  · rename_i c t f hc
    obtain ⟨c', e, s, ho⟩ := h.cells c t f hc
    rw [hc] at h2
    rw [e]
    simp only [Option.isSome_none, Bool.false_eq_true, if_false] at h1 ⊢
    exact ⟨by rw [ho _ (by omega)]; exact h1, h2⟩
  · cases h1
theorem Wr.sl {w w' : World} {b lo hi n cap : Nat} {a : Option Addr} {xs : List Value} (h : Wr w w' b lo hi) (hs : Sl w a n cap xs) (hne : ∀ o, a ≠ some ⟨b, o, none⟩) : Sl w' a n cap xs := by
  refine ⟨hs.len, hs.room, hs.big, hs.nil, hs.seg.imp id ?_⟩
  rintro ⟨c, o, e, hlt, hseg⟩
  exact ⟨c, o, e, Nat.lt_of_lt_of_le hlt h.grown.size, h.seg hseg hlt (fun e' => hne o (by rw [e, e']))⟩
theorem Wr.own {w w' : World} {b lo hi n cap base : Nat} {T : TypeId} {a : Option Addr} {xs : List Value} (h : Wr w w' b lo hi) (hs : Own w base T a n cap xs) (hne : ∀ o, a ≠ some ⟨b, o, none⟩) : Own w' base T a n cap xs := by
  obtain ⟨hl, h1 | ⟨g, cap', cur, hv, hb', hg, r⟩⟩ := hs
  · exact ⟨hl, Or.inl h1⟩
  · cases hv
    exact ⟨hl, Or.inr ⟨g, cap, cur, rfl, hb', by rw [h.grown.block g (Array.getElem?_eq_some_iff.1 hg).1 (fun e => hne 0 (by cases e; rfl))]; exact hg, r⟩⟩
end Go.Proofs.Ytodecbkngnhpjaa

namespace Go.Proofs.Ytodecbkngnhpjaa
open Go.RowKit
set_option linter.unusedVariables false

/-- Of w's blocks only those of F may have turned. -/
structure Keep (F : Nat → Prop) (w w' : World) : Prop where
  os : w'.os = w.os
  tape : w'.tape = w.tape
  output : w'.output = w.output
  size : w.heap.size ≤ w'.heap.size
  block : ∀ k, k < w.heap.size → ¬ F k → w'.heap[k]? = w.heap[k]?
theorem Keep.refl (F : Nat → Prop) (w : World) : Keep F w w := ⟨rfl, rfl, rfl, Nat.le_refl _, fun _ _ _ => rfl⟩
theorem Keep.trans {F G : Nat → Prop} {a b c : World} (h : Keep F a b) (k : Keep G b c) (hG : ∀ i, G i → F i ∨ a.heap.size ≤ i) : Keep F a c :=
  ⟨k.os.trans h.os, k.tape.trans h.tape, k.output.trans h.output, Nat.le_trans h.size k.size, fun i hi hF => (k.block i (Nat.lt_of_lt_of_le hi h.size) (fun g => (hG i g).elim hF (fun x => by omega))).trans (h.block i hi hF)⟩
theorem Keep.of {F : Nat → Prop} {w w' : World} (h : Below w.heap.size w w') : Keep F w w' := ⟨h.os, h.tape, h.output, h.size, fun k hk _ => h.block k hk⟩
theorem Keep.to {F : Nat → Prop} {a b c : World} (h : Keep F a b) (k : Below b.heap.size b c) : Keep F a c := h.trans (Keep.of (F := fun _ => False) k) (fun _ x => x.elim)
theorem Keep.drew {F : Nat → Prop} {a w : World} (h : Keep F a w) : Keep F a w.drew := ⟨h.os, h.tape, h.output, h.size, h.block⟩
theorem Keep.alloc {F : Nat → Prop} {a w : World} (h : Keep F a w) (o : Obj) : Keep F a (w.alloc o) := h.to ((Below.refl _ _).alloc (Nat.le_refl _) o)
theorem Keep.set {F : Nat → Prop} {a w : World} (h : Keep F a w) {p : Addr} (hp : F p.block ∨ a.heap.size ≤ p.block) (u : Value) : Keep F a (w.setCell p u) :=
  h.trans (G := fun k => k = p.block) ⟨rfl, rfl, rfl, by simp [World.setCell], fun k _ hk => Below.heap_setCell _ _ _ _ hk⟩ (fun i hi => by subst hi; exact hp)
theorem Keep.grown {F : Nat → Prop} {a w w' : World} {row : Option Nat} (h : Keep F a w) (hg : w.grownBy w' row) (hr : ∀ k, row = some k → F k ∨ a.heap.size ≤ k) : Keep F a w' :=
  h.trans (G := fun k => row = some k) ⟨hg.os, hg.tape, hg.output, hg.size, fun k hk hn => hg.block k hk (fun e => hn e.symm)⟩ hr
theorem Keep.below {F : Nat → Prop} {w w' : World} {B : Nat} (h : Keep F w w') (hB : B ≤ w.heap.size) (hF : ∀ k, F k → B ≤ k) : Below B w w' :=
  ⟨h.os, h.tape, h.output, h.size, fun k hk => h.block k (by omega) (fun f => by have := hF k f; omega)⟩
theorem Keep.mono {F G : Nat → Prop} {w w' : World} (h : Keep F w w') (hG : ∀ k, F k → G k) : Keep G w w' := ⟨h.os, h.tape, h.output, h.size, fun k hk hn => h.block k hk (fun f => hn (hG k f))⟩
theorem Row.keep {F : Nat → Prop} {w w' : World} {b : Nat} {xs : List Value} (h : Row w b xs) (hk : Keep F w w') (hb : b < w.heap.size) (hF : ¬ F b) : Row w' b xs := by
  intro j u hu
  rw [World.cell?_of_block (w := w) (a := ⟨b, j, none⟩) (hk.block b hb hF), World.frozen?_of_block (w := w) (a := ⟨b, j, none⟩) (hk.block b hb hF)]
  exact h j u hu
/-- The blocks in which a slice lies. -/
def Slot (a : Option Addr) (k : Nat) : Prop := ∃ o, a = some ⟨k, o, none⟩
theorem Own.keep {F : Nat → Prop} {w w' : World} {base n cap : Nat} {T : TypeId} {a : Option Addr} {xs : List Value} (h : Own w base T a n cap xs) (hk : Keep F w w') (hF : ∀ k, Slot a k → ¬ F k) : Own w' base T a n cap xs := by
  obtain ⟨hl, h1 | ⟨g, cap', cur, hv, hb', hg, r⟩⟩ := h
  · exact ⟨hl, Or.inl h1⟩
  · refine ⟨hl, Or.inr ⟨g, cap', cur, hv, hb', ?_, r⟩⟩
    rw [hk.block g (Array.getElem?_eq_some_iff.1 hg).1 (hF g (by cases hv; exact ⟨0, rfl⟩))]
    exact hg
theorem Own.lt {w : World} {base n cap : Nat} {T : TypeId} {a : Option Addr} {xs : List Value} (h : Own w base T a n cap xs) {k : Nat} (hk : Slot a k) : k < w.heap.size ∧ base ≤ k := by
  obtain ⟨o, rfl⟩ := hk
  obtain ⟨hl, ⟨h1, _⟩ | ⟨g, cap', cur, hv, hb', hg, r⟩⟩ := h
  · cases h1
  · cases hv
    exact ⟨(Array.getElem?_eq_some_iff.1 hg).1, hb'⟩
theorem Own.put {w : World} {base n cap k i : Nat} {T : TypeId} {a : Option Addr} {xs : List Value} (h : Own w base T a n cap xs) (hk : ¬ Slot a k) (u : Value) : Own (w.setCell ⟨k, i, none⟩ u) base T a n cap xs :=
  h.keep ((Keep.refl (fun x => x = k) w).set (Or.inl rfl) u) (fun j hj e => hk (e ▸ hj))
theorem Row.lt {w : World} {b : Nat} {x : Value} {xs : List Value} (h : Row w b (x :: xs)) : b < w.heap.size := by
  have h0 := (h 0 x rfl).1
  refine Nat.lt_of_not_le fun hle => ?_
  unfold World.cell? at h0
  rw [Array.getElem?_eq_none hle] at h0
  simp at h0
theorem own_slot {w : World} {base n cap : Nat} {T : TypeId} {a : Option Addr} {xs : List Value} (h : Own w base T a n cap xs) {k : Nat} (e : (Value.slice a n cap).ownBlock = some k) : Slot a k := by
  cases a with
  | none => cases e
  | some q => obtain ⟨_, ⟨h5, _⟩ | ⟨g, _, _, hv, _⟩⟩ := h; cases h5; cases hv; cases e; exact ⟨0, rfl⟩
/-- The cells of a list of ints. -/
def ints (L : List Int) : List Value := L.map fun x => .int .i64 x
theorem ints_length (L : List Int) : (ints L).length = L.length := by simp [ints]
theorem ints_at {L : List Int} {k : Nat} {x : Int} (h : L[k]? = some x) : (ints L)[k]? = some (.int .i64 x) := by simp [ints, h]
theorem ints_append (L M : List Int) : ints (L ++ M) = ints L ++ ints M := by simp [ints]
theorem ints_one (L : List Int) : ∀ v ∈ ints L, v.oneCell' = true := by
  intro v hv
  simp only [ints, List.mem_map] at hv
  obtain ⟨x, _, rfl⟩ := hv
  rfl
theorem own_none (w : World) (base : Nat) (T : TypeId) : Own w base T none 0 0 [] := ⟨rfl, Or.inl ⟨rfl, rfl⟩⟩
theorem own_new (w : World) (base : Nat) (T : TypeId) (hb : base ≤ w.heap.size) : Own (w.alloc (.cells #[] T)) base T (some ⟨w.heap.size, 0, none⟩) 0 0 [] := World.ownsRow_lit w #[] 0 hb (by decide) rfl
/-- append onto what one owns: its answer lies in the old block, or in a new one. -/
theorem app_at {P : Program} (w : World) {ops : Array Oper} {rest : List Oper} {o : Oper} {a : Act} {Q : Exit → Act → World → Prop} (hgd : o.guard = none) (s x : Operand) (t : TypeId)
    (ho : o.op = .call { callee := .builtin .append, args := #[s, x], argTypes := #[t, t] })
    (base : Nat) (e : TypeId) (i : TypeInfo) (z : Value) (bytes : Nat) (ht : P.underlying t = some (.slice e)) (hi : P.info? e = some i) (hz : i.zero = some z)
    (hsize : i.size = 1) (hby : i.bytes = bytes) (hzs : z.cells.size = 1)
    (a0 : Option Addr) (n0 c0 : Nat) (xs : List Value) (hs : a.eval s = .slice a0 n0 c0) (hown : Own w base e a0 n0 c0 xs)
    (ao : Option Addr) (m c : Nat) (news : List Value) (hx : a.eval x = .slice ao m c) (hsl : Sl w ao m c news) (h1 : ∀ u ∈ news, u.oneCell' = true)
    (h63 : n0 + m ≤ maxLen) (hbytes : (n0 + m) * bytes ≤ 140737488355328) (hbase : base ≤ w.heap.size)
    (h : ∀ a' cap' w', Own w' base e a' (n0 + m) cap' (xs ++ news) → w.grownBy w' (Value.slice a0 n0 c0).ownBlock → (∀ k, Slot a' k → Slot a0 k ∨ w.heap.size ≤ k) → wpList P ops Q rest (a.put o.dst (.slice a' (n0 + m) cap')) w') : wpList P ops Q (o :: rest) a w := by
  cases ao with
  | none =>
    obtain ⟨rfl, rfl⟩ := hsl.nil rfl
    obtain rfl : news = [] := List.eq_nil_of_length_eq_zero hsl.len
    refine wpList_append_own_none hgd s x t ho base e i 1 ht hi _ n0 xs hs hown hx ?_
    exact h a0 c0 w (by simpa using hown) (World.grownBy.refl _ _) (fun k hk => Or.inl hk)
  | some ad =>
    refine wpList_append_own_at w hgd s x t ho base e i z 1 bytes ht hi hz hsize hby hzs (by decide) _ n0 xs hs hown ad m c news hx (by rw [hsl.len]; omega) ?_ h1 h63 hbytes hbase ?_
    · intro j u hu
      have hj := (List.getElem?_eq_some_iff.1 hu).1
      obtain ⟨b, off, e1, hb, hseg⟩ := hsl.at (by have := hsl.len; omega)
      cases e1
      rw [Addr.add_lit]
      exact hseg.cell j u hu
    · intro v' w' h1 h2 _ h4
      obtain ⟨a', cap', rfl, h3⟩ := Own.form h1
      refine h a' cap' w' h3 h2 ?_
      rintro k ⟨q, rfl⟩
      rcases h4 with h4 | h4
      · cases a0 with
        | none => cases h4
        | some b0 =>
          have : k = b0.block := by simpa [Value.ownBlock] using h4
          subst this
          obtain ⟨hl, ⟨h5, _⟩ | ⟨g, cap', cur, hv, r⟩⟩ := hown
          · cases h5
          · cases hv; exact Or.inl ⟨0, rfl⟩
      · have : k = w.heap.size := by simpa [Value.ownBlock] using h4
        exact Or.inr (by omega)
theorem infoI : (Try.prog.info? 3).map (fun i => (i.zero, i.size, i.bytes)) = some (some (.int .i64 0), 1, 8) := by kernel_rfl
theorem info_of {P : Program} {t : TypeId} {z : Value} {s b : Nat} (h : (P.info? t).map (fun i => (i.zero, i.size, i.bytes)) = some (some z, s, b)) : ∃ i, P.info? t = some i ∧ i.zero = some z ∧ i.size = s ∧ i.bytes = b := by
  cases hi : P.info? t with
  | none => rw [hi] at h; cases h
  | some i =>
    rw [hi] at h
    simp only [Option.map_some, Option.some.injEq, Prod.mk.injEq] at h
    exact ⟨i, rfl, h.1, h.2.1, h.2.2⟩
/-- One int in a block of its own. -/
theorem sl_one (w : World) (x : Int) (T : TypeId) : Sl (w.alloc (.cells #[.int .i64 x] T)) (some ⟨w.heap.size, 0, none⟩) 1 1 [.int .i64 x] :=
  ⟨rfl, Nat.le_refl _, by unfold maxLen; omega, (by intro e; cases e), Or.inr ⟨_, _, rfl, by simp, (Row.new w [.int .i64 x] T).seg⟩⟩
end Go.Proofs.Ytodecbkngnhpjaa

namespace Go.Proofs.Ytodecbkngnhpjaa
open Go.ChangeShapes Go.WideShapes Go.ChangeAt Go.RowKit
set_option linter.unusedVariables false

theorem cellsI : Try.prog.cellsOf 3 = 1 := by kernel_rfl
theorem laidOutI : laidOutB Try.prog = true := by kernel_rfl
theorem bd_int {x : Int} (h : (Lit.int .i64 x).wf = true) : -9223372036854775808 ≤ x ∧ x ≤ 9223372036854775807 := by
  have h1 : IntKind.i64.min = -9223372036854775808 := rfl
  have h2 : IntKind.i64.max = 9223372036854775807 := rfl
  simp only [Lit.wf, Bool.and_eq_true, decide_eq_true_eq, h1, h2] at h
  omega
theorem sl_none (w : World) : Sl w none 0 0 [] := ⟨rfl, Nat.le_refl _, Nat.zero_le _, fun _ => ⟨rfl, rfl⟩, Or.inl rfl⟩
theorem ints_view {H : Type} {enc : TypeId × Value → H} {W : World} {fuel : Nat} {a0 : Option Addr} {len cap : Nat} {d : DataW H} {p : List MemPlace}
    (hf : DataW.trod enc Try.prog W 0 (fun _ => true) true fuel 22 (Value.slice a0 len cap).cells.toList = some (d, p)) (hfz : W.noneFrozen p) (hlt : ∀ x ∈ p, x.block < W.heap.size) :
    ∃ L : List Int, Sl W a0 len cap (ints L) ∧ ∀ x ∈ L, -9223372036854775808 ≤ x ∧ x ≤ 9223372036854775807 := by
  rcases open_ints Try.underlying22 Try.underlying3 cellsI hf with ⟨hcs, hx⟩ | ⟨a, len', cap', zs, hcs, _, hl, hm, hz, hx, hcell, hwz⟩
  · simp [Value.cells] at hcs
    obtain ⟨rfl, rfl, rfl⟩ := hcs
    exact ⟨[], sl_none W, fun x h => by cases h⟩
  · simp [Value.cells] at hcs
    obtain ⟨rfl, rfl, rfl⟩ := hcs
    simp only [Prod.mk.injEq] at hx
    obtain ⟨rfl, rfl⟩ := hx
    simp only [if_true] at hz
    have hlen : (zs.take len).length = len := by simp; omega
    refine ⟨zs.take len, ⟨by rw [ints_length]; exact hlen, hl, hm, (fun h => by cases h), ?_⟩, fun x hx => bd_int (hwz x (List.mem_of_mem_take hx))⟩
    rcases Nat.eq_zero_or_pos len with h0 | h0
    · exact Or.inl h0
    · right
      have hsp : a.spot = none := by
        have h1 := hcell 0 (by omega)
        rw [show a.add 0 = a from rfl] at h1
        unfold World.cell? at h1
        split at h1
        · split at h1
          · cases h1
          · rename_i hs
            simpa using hs
        · cases h1
      obtain ⟨b, o, sp⟩ := a
      dsimp only at hsp
      subst hsp
      have hmem : ∀ j, j < zs.length → MemPlace.cell b (o + j) ∈ MemPlace.row ⟨b, o, none⟩ zs.length := fun j hj => by
        unfold MemPlace.row
        exact List.mem_map.2 ⟨j, List.mem_range.2 hj, rfl⟩
      refine ⟨b, o, rfl, hlt _ (hmem 0 (by omega)), ?_⟩
      intro j v hv
      have hj := (List.getElem?_eq_some_iff.1 hv).1
      rw [ints_length, hlen] at hj
      refine ⟨?_, hfz _ _ (hmem j (by omega))⟩
      have h1 := hcell j (by omega)
      rw [Addr.add_lit] at h1
      rw [h1]
      unfold ints at hv
      rw [List.getElem?_map, List.getElem?_take, if_pos hj, List.getElem?_eq_getElem (by omega)] at hv
      simp only [Option.map_some, Option.some.injEq] at hv
      rw [← hv, List.getD, List.getElem?_eq_getElem (by omega)]
      rfl
end Go.Proofs.Ytodecbkngnhpjaa

namespace Go.Proofs.Ytodecbkngnhpjaa
open Go.RowKit
set_option linter.unusedVariables false

theorem mem_drop {L : List Int} {k : Nat} {x n : Int} (h : L[k]? = some x) : (n ∈ L.drop k) ↔ (x = n ∨ n ∈ L.drop (k + 1)) := by
  obtain ⟨hk, he⟩ := List.getElem?_eq_some_iff.1 h
  rw [List.drop_eq_getElem_cons hk, he, List.mem_cons]
  exact ⟨fun h => h.imp Eq.symm id, fun h => h.imp Eq.symm id⟩
set_option maxRecDepth 100000 in
theorem anIn (a : Option Addr) (l c : Nat) (L : List Int) (n : Int) (w : World) (hs : Sl w a l c (ints L)) (hl : l ≤ 1000000000) {r : Bool} (hr : r = decide (n ∈ L)) :
    Calls Try.prog 22 #[.slice a l c, .int .i64 n] w fun e w' => e = .returned (.bool r) ∧ Below w.heap.size w w' := by
  have hlen : L.length = l := by have := hs.len; rw [ints_length] at this; exact this
  have HR : Hid _ := hr
  clear hr
  go_enter Try.func22, Try.ntmps22
  go_wp2
  go_loopw [5] (fun i wr => ∃ k : Nat, k ≤ l ∧ i = .int .i64 (k : Int) ∧ (n ∈ L ↔ n ∈ L.drop k) ∧ Below w.heap.size w wr) (fun i _ => l - (intOf i).toNat)
  case atStart => exact ⟨0, by omega, rfl, by simp, Below.refl _ _⟩
  case round =>
    obtain ⟨k, hk, rfl, hd, bel⟩ := hrel
    by_cases hlt : k < l
    · obtain ⟨x, hx⟩ : ∃ x, L[k]? = some x := ⟨L[k], List.getElem?_eq_getElem (by omega)⟩
      obtain ⟨b, o, rfl, hb, hseg⟩ := (hs.below bel).at (by omega)
      have hroom := hs.room
      have q := hseg.cell k _ (ints_at hx)
      rw [mem_drop hx] at hd
      have HD : Hid _ := hd
      clear hd hs hx
      by_cases hxn : x = n
      · have hxn' : (x == n) = true := by simpa using hxn
        go_wp2
        go_ret
        exact ⟨by rw [HR.out, decide_eq_true (HD.out.2 (Or.inl hxn))]; rfl, bel⟩
      · have hxn' : (x == n) = false := by simpa using hxn
        go_wp2
        go_roundw
        case rel => exact ⟨k + 1, by omega, by simp, HD.out.trans ⟨fun h => h.resolve_left hxn, Or.inr⟩, bel⟩
        case measure => simp [intOf]; omega
    · obtain rfl : k = l := by omega
      have hno : ¬ n ∈ L := by rw [hd, ← hlen, List.drop_length]; simp
      go_wp2
      go_ret
      exact ⟨by rw [HR.out, decide_eq_false hno]; rfl, bel⟩
theorem filter_next {L : List Int} {k : Nat} {x n : Int} (h : L[k]? = some x) : (L.take (k + 1)).filter (fun y => decide (y ≠ n)) = (L.take k).filter (fun y => decide (y ≠ n)) ++ (if x = n then [] else [x]) := by
  rw [List.take_add_one, h, List.filter_append]
  by_cases e : x = n <;> simp [e]
/-- A new list of ints in memory of the call's own. -/
def GotL (w : World) (L : List Int) (e : Ending) (w' : World) : Prop := ∃ (a : Option Addr) (c : Nat), e = .returned (.slice a L.length c) ∧ Own w' w.heap.size 3 a L.length c (ints L) ∧ Below w.heap.size w w'
/-- What has been put so far. -/
def Put (w : World) (L M : List Int) (s i : Value) (wr : World) (k : Nat) : Prop := k ≤ L.length ∧ i = .int .i64 (k : Int) ∧ ∃ (a : Option Addr) (c : Nat), s = .slice a M.length c ∧ Own wr w.heap.size 3 a M.length c (ints M) ∧ Below w.heap.size w wr
set_option maxRecDepth 100000 in
theorem anWithout (a : Option Addr) (l c : Nat) (L : List Int) (n : Int) (w : World) (hs : Sl w a l c (ints L)) (hl : l ≤ 1000000) {M : List Int} (hM : M = L.filter (fun y => decide (y ≠ n))) :
    Calls Try.prog 23 #[.slice a l c, .int .i64 n] w (GotL w M) := by
  have hlen : L.length = l := by have := hs.len; rw [ints_length] at this; exact this
  obtain ⟨i0, hi0, hz0, hz1, hz2⟩ := info_of infoI
  have HM : Hid _ := hM
  have hown0 := own_new w w.heap.size 3 (Nat.le_refl _)
  have hB0 : Below w.heap.size w (w.alloc (.cells #[] 3)) := (Below.refl _ _).alloc (Nat.le_refl _) _
  clear hM
  go_enter Try.func23, Try.ntmps23
  go_wp2
  go_loopw [5, 6] (fun s i wr => ∃ k, Put w L ((L.take k).filter (fun y => decide (y ≠ n))) s i wr k) (fun _ i _ => l - (intOf i).toNat)
  case atStart => exact ⟨0, by omega, rfl, _, _, rfl, hown0, hB0⟩
  case round =>
    clear hown0 hB0
    obtain ⟨k, hk, rfl, a2, c2, rfl, hown, bel⟩ := hrel
    obtain ⟨M', hM'⟩ : ∃ M', M' = (L.take k).filter (fun y => decide (y ≠ n)) := ⟨_, rfl⟩
    rw [← hM'] at hown ⊢
    have hml : M'.length ≤ k := by rw [hM']; exact Nat.le_trans (List.length_filter_le _ _) (by rw [List.length_take]; omega)
    by_cases hlt : k < l
    · obtain ⟨x, hx⟩ : ∃ x, L[k]? = some x := ⟨L[k], List.getElem?_eq_getElem (by omega)⟩
      have hnx := filter_next (n := n) hx
      rw [← hM'] at hnx
      obtain ⟨b, o, rfl, hb, hseg⟩ := (hs.below bel).at (by omega)
      have hroom := hs.room
      have q := hseg.cell k _ (ints_at hx)
      by_cases hxn : x = n
      · rw [if_pos hxn, List.append_nil] at hnx
        have hxn' : (x == n) = true := by simpa using hxn
        have HN : Hid _ := hnx
        have HM' : Hid _ := hM'
        clear hnx hM' hx
        go_wp2
        go_roundw
        case rel => exact ⟨k + 1, by omega, by simp, a2, c2, by rw [HN.out], by rw [HN.out]; exact hown, bel⟩
        case measure => simp [intOf]; omega
      · rw [if_neg hxn] at hnx
        have hxn' : (x == n) = false := by simpa using hxn
        have HN : Hid _ := hnx
        clear hnx hM' hx
        have hB1 : Below wr.heap.size wr (wr.alloc (.cells #[.int .i64 x] 3)) := (Below.refl _ _).alloc (Nat.le_refl _) _
        have hown1 := hown.below hB1
        have hone := sl_one wr x 3
        have hbel1 := bel.trans (hB1.mono bel.size)
        have hbs := bel.size
        have hcap : M'.length + 1 ≤ maxLen := by unfold maxLen; omega
        go_wp2_with (at_builtin; refine app_at _ rfl (.tmp 20) (.tmp 25) 22 rfl w.heap.size 3 i0 (.int .i64 0) 8 Try.underlying22 hi0 hz0 hz1 hz2 rfl a2 M'.length c2 (ints M') rfl hown1 _ 1 1 [.int .i64 x] rfl hone (ints_one [x]) hcap (by omega) (by simp; omega) ?_; intro a3 cap3 w3 hown3 hg3 _)
        go_roundw
        case rel =>
          have hb3 := hbel1.grown hg3 (by simp; omega) (fun j hj => by
            have := hown1.lt (k := j) (by cases a2 with | none => cases hj | some q => (obtain ⟨_, ⟨h5, _⟩ | ⟨g, _, _, hv, _⟩⟩ := hown1; cases h5; cases hv; cases hj; exact ⟨0, rfl⟩))
            exact this.2)
          refine ⟨k + 1, by omega, by simp, a3, cap3, by rw [HN.out, List.length_append]; rfl, ?_, hb3⟩
          rw [HN.out, List.length_append, ints_append]
          exact hown3
        case measure => simp [intOf]; omega
    · obtain rfl : k = l := by omega
      have HE : Hid (M' = M) := by unfold Hid; rw [hM', HM.out, List.take_of_length_le (by omega)]
      clear hM'
      go_wp2
      go_ret
      rw [← HE.out]
      exact ⟨a2, c2, rfl, hown, bel⟩
end Go.Proofs.Ytodecbkngnhpjaa

namespace Go.Proofs.Ytodecbkngnhpjaa
open Go.RowKit
set_option linter.unusedVariables false

/-- The number that is lent next, and how many there are then. -/
def tkN (B : List Int) (T : Nat) : Int := match B.getLast? with | some x => x | none => (T : Int)
def tkT (B : List Int) (T : Nat) : Nat := if B = [] then T + 1 else T
theorem tkN_nil (T : Nat) : tkN [] T = (T : Int) := rfl
theorem tkN_last (B : List Int) (x : Int) (T : Nat) : tkN (B ++ [x]) T = x := by simp [tkN]
theorem tkT_last (B : List Int) (x : Int) (T : Nat) : tkT (B ++ [x]) T = T := by simp [tkT]
theorem nil_or_last (B : List Int) : B = [] ∨ ∃ B' x, B = B' ++ [x] := by
  by_cases h : B = []
  · exact Or.inl h
  · exact Or.inr ⟨B.dropLast, B.getLast h, (List.dropLast_concat_getLast h).symm⟩
/-- Those that are lent, rising. -/
def allN (L : List Int) (k : Nat) : List Int := ((List.range k).map (fun i : Nat => (i : Int))).filter (fun y => decide (y ∈ L))
theorem allN_next (L : List Int) (k : Nat) : allN L (k + 1) = allN L k ++ (if (k : Int) ∈ L then [(k : Int)] else []) := by
  unfold allN
  rw [List.range_succ, List.map_append, List.filter_append]
  by_cases e : (k : Int) ∈ L <;> simp [e]
theorem allN_len (L : List Int) (k : Nat) : (allN L k).length ≤ k := by
  unfold allN
  exact Nat.le_trans (List.length_filter_le _ _) (by simp)
theorem allN_mem {L : List Int} {k : Nat} {x : Int} (h : x ∈ allN L k) : x ∈ L ∧ 0 ≤ x ∧ x < k := by
  unfold allN at h
  rw [List.mem_filter, List.mem_map] at h
  obtain ⟨⟨i, hi, rfl⟩, h2⟩ := h
  rw [List.mem_range] at hi
  exact ⟨by simpa using h2, by omega, by omega⟩
structure ArOk (L B : List Int) (T : Nat) : Prop where
  num : L.length + B.length = T
  nd : (L ++ B).Nodup
  rg : ∀ x ∈ L ++ B, 0 ≤ x ∧ x < T
theorem allN_nodup (L : List Int) (k : Nat) : (allN L k).Nodup := by
  have h : List.Pairwise (fun a b : Int => a ≠ b) ((List.range k).map (fun i : Nat => (i : Int))) := by
    rw [List.pairwise_map]
    refine List.Pairwise.imp (R := fun a b : Nat => a ≠ b) ?_ (List.nodup_range (n := k))
    intro a b h e
    exact h (by omega)
  exact List.Pairwise.filter _ h
theorem mem_allN {L : List Int} {k : Nat} {x : Int} (h : x ∈ L) (h0 : 0 ≤ x) (h1 : x < k) : x ∈ allN L k := by
  unfold allN
  rw [List.mem_filter, List.mem_map]
  exact ⟨⟨x.toNat, by rw [List.mem_range]; omega, by omega⟩, by simpa using h⟩
theorem ArOk.count {L B : List Int} {T : Nat} (h : ArOk L B T) : (allN L T).length = L.length := by
  refine ((List.perm_ext_iff_of_nodup (allN_nodup L T) (List.nodup_append.1 h.nd).1).2 fun x => ⟨fun m => (allN_mem m).1, fun m => ?_⟩).length_eq
  have := h.rg x (List.mem_append_left _ m)
  exact mem_allN m this.1 this.2
theorem ArOk.new : ArOk [] [] 0 := ⟨rfl, by simp, fun x h => by simp at h⟩
theorem ArOk.take {L B : List Int} {T : Nat} (h : ArOk L B T) : ArOk (L ++ [tkN B T]) B.dropLast (tkT B T) ∧ ¬ tkN B T ∈ L := by
  rcases nil_or_last B with rfl | ⟨B', x, rfl⟩
  · have hn : ¬ (T : Int) ∈ L := fun m => by have := h.rg _ (List.mem_append_left _ m); omega
    refine ⟨⟨?_, ?_, ?_⟩, hn⟩
    · have := h.num; simp [tkT] at *; exact this
    · have := h.nd
      simp only [List.append_nil, List.dropLast_nil, tkN_nil] at *
      rw [List.nodup_append]
      exact ⟨this, by simp, fun a ha b hb => by simp at hb; subst hb; exact fun e => hn (e ▸ ha)⟩
    · intro x hx
      simp only [List.append_nil, List.dropLast_nil, tkN_nil, List.mem_append, List.mem_singleton] at hx
      have ht : tkT [] T = T + 1 := rfl
      rw [ht]
      rcases hx with hx | rfl
      · have := h.rg x (List.mem_append_left _ hx); omega
      · omega
  · rw [tkN_last, tkT_last, List.dropLast_concat]
    have hp : (L ++ [x] ++ B').Perm (L ++ (B' ++ [x])) := by
      rw [List.append_assoc]
      exact List.Perm.append_left _ List.perm_append_comm
    have hn : ¬ x ∈ L := fun m => by
      have := (List.nodup_append.1 h.nd).2.2 x m x (by simp)
      exact this rfl
    refine ⟨⟨?_, hp.nodup_iff.2 h.nd, fun y hy => h.rg y (hp.mem_iff.1 hy)⟩, hn⟩
    have := h.num
    simp at *
    omega
theorem filter_ne_perm {L : List Int} {n : Int} (hd : L.Nodup) (hn : n ∈ L) : (L.filter (fun y => decide (y ≠ n)) ++ [n]).Perm L := by
  induction L with
  | nil => cases hn
  | cons a L ih =>
    rw [List.nodup_cons] at hd
    by_cases e : a = n
    · subst e
      have hf : L.filter (fun y => decide (y ≠ a)) = L := by
        rw [List.filter_eq_self]
        intro y hy
        exact decide_eq_true (fun e => hd.1 (e ▸ hy))
      rw [List.filter_cons_of_neg (by simp), hf]
      exact List.perm_append_comm
    · rw [List.filter_cons_of_pos (by simp [e]), List.cons_append]
      exact (ih hd.2 (List.mem_of_ne_of_mem (fun q => e q.symm) hn)).cons a
theorem ArOk.free {L B : List Int} {T : Nat} {n : Int} (h : ArOk L B T) (hn : n ∈ L) : ArOk (L.filter (fun y => decide (y ≠ n))) (B ++ [n]) T := by
  have hp : (L.filter (fun y => decide (y ≠ n)) ++ (B ++ [n])).Perm (L ++ B) := by
    have h1 := filter_ne_perm (List.nodup_append.1 h.nd).1 hn
    have h2 : (L.filter (fun y => decide (y ≠ n)) ++ (B ++ [n])).Perm (L.filter (fun y => decide (y ≠ n)) ++ ([n] ++ B)) := List.Perm.append_left _ List.perm_append_comm
    rw [← List.append_assoc _ [n] B] at h2
    exact h2.trans (h1.append_right B)
  refine ⟨?_, hp.nodup_iff.2 h.nd, fun y hy => h.rg y (hp.mem_iff.1 hy)⟩
  have := hp.length_eq
  have := h.num
  simp only [List.length_append] at *
  omega
end Go.Proofs.Ytodecbkngnhpjaa

namespace Go.Proofs.Ytodecbkngnhpjaa
open Go.RowKit
set_option linter.unusedVariables false

/-- The document's arena at p: lent L, come back B, there ever were T; its blocks are among F, all from base on. -/
structure ArR (base p : Nat) (L B : List Int) (T : Nat) (F : Nat → Prop) (w : World) : Prop where
  ex : ∃ (a : Option Addr) (ca : Nat) (b : Option Addr) (cb : Nat), Row w p [.slice a L.length ca, .slice b B.length cb, .int .i64 (T : Int)] ∧ Own w base 3 a L.length ca (ints L) ∧ Own w base 3 b B.length cb (ints B) ∧ F p ∧ (∀ k, Slot a k → F k ∧ k ≠ p) ∧ (∀ k, Slot b k → F k ∧ k ≠ p ∧ ¬ Slot a k)
  ft : ∀ k, F k → base ≤ k ∧ k < w.heap.size
/-- What a call leaves: an object with blocks of its own and new ones; all else stays. -/
def Left (Ob : (Nat → Prop) → World → Prop) (F : Nat → Prop) (w w' : World) : Prop := Keep F w w' ∧ ∃ F', Ob F' w' ∧ ∀ k, F' k → F k ∨ w.heap.size ≤ k
theorem ArR.keep {base p : Nat} {L B : List Int} {T : Nat} {F G : Nat → Prop} {w w' : World} (h : ArR base p L B T F w) (hk : Keep G w w') (hd : ∀ k, F k → ¬ G k) : ArR base p L B T F w' := by
  obtain ⟨a, ca, b, cb, hrow, ha, hb, hp, hFa, hFb⟩ := h.ex
  exact ⟨⟨a, ca, b, cb, hrow.keep hk hrow.lt (hd p hp), ha.keep hk (fun k s => hd k (hFa k s).1), hb.keep hk (fun k s => hd k (hFb k s).1), hp, hFa, hFb⟩, fun k hF => ⟨(h.ft k hF).1, Nat.lt_of_lt_of_le (h.ft k hF).2 hk.size⟩⟩
theorem ArR.new (w : World) (base : Nat) (t : TypeId) (hb : base ≤ w.heap.size) : ArR base w.heap.size [] [] 0 (fun k => k = w.heap.size) (w.alloc (.cells #[.slice none 0 0, .slice none 0 0, .int .i64 0] t)) :=
  ⟨⟨none, 0, none, 0, Row.new w [.slice none 0 0, .slice none 0 0, .int .i64 0] t, own_none _ _ _, own_none _ _ _, rfl, (fun k s => by obtain ⟨o, s⟩ := s; cases s), (fun k s => by obtain ⟨o, s⟩ := s; cases s)⟩, fun k e => ⟨by omega, by simp; omega⟩⟩
set_option maxRecDepth 100000 in
theorem anLive (base p : Nat) (L B : List Int) (T : Nat) (F : Nat → Prop) (n : Int) (w : World) (h : ArR base p L B T F w) (hL : L.length ≤ 1000) {r : Bool} (hr : r = decide (n ∈ L)) :
    Calls Try.prog 11 #[.pointer (some ⟨p, 0, none⟩), .int .i64 n] w fun e w' => e = .returned (.bool r) ∧ Below w.heap.size w w' := by
  obtain ⟨a, ca, b, cb, hrow, ha, hb, hp, hFa, hFb⟩ := h.ex
  have q0 := hrow.cell 0 _ rfl
  have HR : Hid _ := hr
  clear hr
  go_enter Try.func11, Try.ntmps11
  go_wp2_with (go_at_call 22; refine (anIn a L.length ca L n w ha.sl (by omega) HR.out).mono ?_; rintro e w1 ⟨rfl, b1⟩)
  go_ret
  exact ⟨rfl, b1⟩
/-- One more lent behind the last store: the list, wherever append put it. -/
theorem ArR.lend {base p : Nat} {L B : List Int} {T : Nat} {F : Nat → Prop} {w w1 w2 w3 : World} {a b a' : Option Addr} {ca cb c' : Nat} {n : Int} (hft : ∀ k, F k → base ≤ k ∧ k < w.heap.size)
    (hk : Keep F w w1) (hrow : Row w1 p [.slice a L.length ca, .slice b B.length cb, .int .i64 (T : Int)]) (ha : Own w1 base 3 a L.length ca (ints L)) (hb : Own w1 base 3 b B.length cb (ints B)) (hp : F p) (hFa : ∀ k, Slot a k → F k ∧ k ≠ p) (hFb : ∀ k, Slot b k → (F k ∨ w.heap.size ≤ k) ∧ k ≠ p ∧ ¬ Slot a k)
    (h2 : Below w1.heap.size w1 w2) (h3 : Own w3 base 3 a' (L.length + 1) c' (ints L ++ [.int .i64 n])) (hg : w2.grownBy w3 (Value.slice a L.length ca).ownBlock) (hs : ∀ k, Slot a' k → Slot a k ∨ w2.heap.size ≤ k) :
    Left (ArR base p (L ++ [n]) B T) F w (w3.setCell ⟨p, 0, none⟩ (.slice a' (L.length + 1) c')) := by
  have hown : ∀ k, (Value.slice a L.length ca).ownBlock = some k → Slot a k := fun k e => own_slot ha e
  have k2 : Keep F w w2 := hk.to h2
  have k3 : Keep F w w3 := k2.grown hg (fun k e => Or.inl (hFa k (hown k e)).1)
  have k4 : Keep F w (w3.setCell ⟨p, 0, none⟩ (.slice a' (L.length + 1) c')) := k3.set (Or.inl hp) _
  have K23 : Keep (fun k => Slot a k) w1 w3 := (Keep.of h2).grown hg (fun k e => Or.inl (hown k e))
  have hpl : p < w1.heap.size := hrow.lt
  have row3 := hrow.keep K23 hpl (fun s => (hFa p s).2 rfl)
  have b3 := hb.keep K23 (fun k s => (hFb k s).2.2)
  have na' : ¬ Slot a' p := fun s => (hs p s).elim (fun s => (hFa p s).2 rfl) (fun e => by have := h2.size; omega)
  have nb' : ¬ Slot b p := fun s => (hFb p s).2.1 rfl
  refine ⟨k4, fun k => F k ∨ (w.heap.size ≤ k ∧ k < w3.heap.size), ⟨⟨a', c', b, cb, ?_, ?_, b3.put nb' _, Or.inl hp, ?_, ?_⟩, ?_⟩, fun k hk => hk.imp id (fun e => e.1)⟩
  · have := row3.set 0 (.slice a' (L.length + 1) c') (by simp)
    rw [List.length_append]
    exact this
  · rw [List.length_append, ints_append]
    exact h3.put na' _
  · intro k s
    refine ⟨(hs k s).elim (fun s => Or.inl (hFa k s).1) (fun e => Or.inr ⟨by have := h2.size; have := hk.size; omega, (h3.lt s).1⟩), fun e => na' (e ▸ s)⟩
  · intro k s
    have hlt := (hb.lt s).1
    refine ⟨(hFb k s).1.imp id (fun e => ⟨e, (b3.lt s).1⟩), (hFb k s).2.1, fun s' => (hs k s').elim (hFb k s).2.2 (fun e => by have := h2.size; omega)⟩
  · intro k hk'
    have := k4.size
    have hb2 : base ≤ w.heap.size := by have := hft p hp; omega
    rcases hk' with e | e
    · exact ⟨(hft k e).1, by have := (hft k e).2; omega⟩
    · exact ⟨by omega, by simp; exact e.2⟩
set_option maxRecDepth 100000 in
set_option maxHeartbeats 1000000 in
theorem anTake (base p : Nat) (L B : List Int) (T : Nat) (F : Nat → Prop) (w : World) (h : ArR base p L B T F w) (hL : L.length ≤ 1000) (hB : B.length ≤ 1000) (hT : T ≤ 1000) {n : Int} (hn : n = tkN B T) :
    Calls Try.prog 9 #[.pointer (some ⟨p, 0, none⟩)] w fun e w' => e = .returned (.int .i64 n) ∧ Left (ArR base p (L ++ [n]) B.dropLast (tkT B T)) F w w' := by
  obtain ⟨a, ca, b, cb, hrow, ha, hb, hp, hFa, hFb⟩ := h.ex
  obtain ⟨i0, hi0, hz0, hz1, hz2⟩ := info_of infoI
  have hft := h.ft
  have q0 := hrow.cell 0 _ rfl
  have q1 := hrow.cell 1 _ rfl
  have q2 := hrow.cell 2 _ rfl
  have f0 := hrow.free 0 (by simp)
  have f1 := hrow.free 1 (by simp)
  have f2 := hrow.free 2 (by simp)
  have hpb := (hft p hp).1
  have hpl := (hft p hp).2
  have hcap : L.length + 1 ≤ maxLen := by unfold maxLen; omega
  by_cases hB0 : B = []
  · subst hB0
    obtain rfl : n = (T : Int) := hn
    have row1 : Row (w.setCell ⟨p, 2, none⟩ (.int .i64 ((T : Int) + 1))) p [.slice a L.length ca, .slice b ([] : List Int).length cb, .int .i64 ((T + 1 : Nat) : Int)] := hrow.set 2 _ (by simp)
    have k1 : Keep F w (w.setCell ⟨p, 2, none⟩ (.int .i64 ((T : Int) + 1))) := (Keep.refl F w).set (Or.inl hp) _
    have a1 := ha.put (i := 2) (fun s => (hFa p s).2 rfl) (.int .i64 ((T : Int) + 1))
    have b1 := hb.put (i := 2) (fun s => (hFb p s).2.1 rfl) (.int .i64 ((T : Int) + 1))
    have B2 : Below _ (w.setCell ⟨p, 2, none⟩ (.int .i64 ((T : Int) + 1))) ((w.setCell ⟨p, 2, none⟩ (.int .i64 ((T : Int) + 1))).alloc (.cells #[.int .i64 (T : Int)] 3)) := (Below.refl _ _).alloc (Nat.le_refl _) _
    have a2 := a1.below B2
    have one := sl_one (w.setCell ⟨p, 2, none⟩ (.int .i64 ((T : Int) + 1))) (T : Int) 3
    rw [World.size_setCell] at one
    go_enter Try.func9, Try.ntmps9
    go_wp2_with (at_builtin; refine app_at _ rfl (.tmp 47) (.tmp 49) 22 rfl base 3 i0 (.int .i64 0) 8 Try.underlying22 hi0 hz0 hz1 hz2 rfl a L.length ca (ints L) rfl a2 _ 1 1 [.int .i64 (T : Int)] rfl one (ints_one [(T : Int)]) hcap (by omega) (by simp; omega) ?_; intro a3 c3 w3 h3 g3 s3; have row3 := row1.keep ((Keep.of (F := fun k => Slot a k) B2).grown g3 (fun k e => Or.inl (own_slot a1 e))) row1.lt (fun s => (hFa p s).2 rfl); have r30 := row3.free 0 (by simp); have r31 := row3.cell 0 _ rfl)
    go_ret
    exact ⟨rfl, ArR.lend hft k1 row1 a1 b1 hp hFa (fun k s => ⟨Or.inl (hFb k s).1, (hFb k s).2⟩) B2 h3 g3 s3⟩
  · obtain ⟨B', x, rfl⟩ : ∃ B' x, B = B' ++ [x] := ⟨B.dropLast, B.getLast hB0, (List.dropLast_concat_getLast hB0).symm⟩
    obtain rfl : n = x := by rw [hn]; simp [tkN]
    clear hn hB0
    have hT2 : tkT (B' ++ [n]) T = T := by simp [tkT]
    rw [hT2, List.dropLast_concat]
    have hlen : (B' ++ [n]).length = B'.length + 1 := by simp
    rw [hlen] at q1 hrow hb hB
    obtain ⟨m, hm⟩ : ∃ m, m = B'.length := ⟨_, rfl⟩
    rw [← hm] at q1 hrow hb hB
    obtain ⟨bb, rfl, hbb, hbb2, hseg⟩ := Own.at hb (by omega)
    have hroom := hb.sl.room
    have hlast := hseg.cell m (.int .i64 n) (by rw [hm]; exact ints_at (by simp))
    rw [Nat.zero_add] at hlast
    have hm1 : ((m + 1 : Nat) : Int) - 1 = (m : Int) := by omega
    have hB0 : Below w.heap.size w (w.alloc (.cells #[] 3)) := (Below.refl _ _).alloc (Nat.le_refl _) _
    have own0 := own_new w base 3 (by omega)
    have hsl : Sl (w.alloc (.cells #[] 3)) (some ⟨bb, 0, none⟩) m cb (ints B') := by
      have := ((hb.take (m := m) (by omega)).below hB0).sl
      rw [ints_append, List.take_left' (by rw [ints_length]; exact hm.symm)] at this
      exact this
    have hmm : 0 + m ≤ maxLen := by unfold maxLen; omega
    have ha' := ha.below hB0
    have HM : Hid _ := hm
    clear hm hlen hseg
    go_enter Try.func9, Try.ntmps9
    go_wp2_with (first
      | (at_builtin; refine app_at _ rfl (.tmp 25) (.tmp 32) 22 rfl base 3 i0 (.int .i64 0) 8 Try.underlying22 hi0 hz0 hz1 hz2 rfl _ 0 0 [] rfl own0 _ m cb (ints B') rfl hsl (ints_one B') hmm (by omega) (by simp; omega) ?_; intro a4 c4 w4 h4 g4 s4; rw [Nat.zero_add, List.nil_append] at h4; have z4 := g4.size; rw [World.size_alloc] at z4; have k4 : Keep (fun k => w.heap.size ≤ k) w w4 := (Keep.of hB0).grown g4 (fun k e => Or.inl (by simp [Value.ownBlock] at e; omega)); have s4' : ∀ k, Slot a4 k → w.heap.size ≤ k := fun k s => (s4 k s).elim (fun s => by obtain ⟨o, e⟩ := s; cases e; omega) (fun e => by rw [World.size_alloc] at e; omega); have row4 := hrow.keep k4 hpl (by omega); have ar4 := ha.keep k4 (fun k s => by have := (ha.lt s).1; omega); have r40 := row4.cell 0 _ rfl; have r41 := row4.cell 1 _ rfl; have t40 := row4.free 0 (by simp); have t41 := row4.free 1 (by simp); have row5 : Row (w4.setCell ⟨p, 1, none⟩ (.slice a4 m c4)) p [.slice a L.length ca, .slice a4 m c4, .int .i64 (T : Int)] := row4.set 1 _ (by simp); have na4 : ¬ Slot a4 p := fun s => (by have := s4' p s; omega); have ar5 := ar4.put (i := 1) (fun s => (hFa p s).2 rfl) (.slice a4 m c4); have br5 := h4.put (i := 1) na4 (.slice a4 m c4); have B6 : Below _ (w4.setCell ⟨p, 1, none⟩ (.slice a4 m c4)) ((w4.setCell ⟨p, 1, none⟩ (.slice a4 m c4)).alloc (.cells #[.int .i64 n] 3)) := (Below.refl _ _).alloc (Nat.le_refl _) _; have ar6 := ar5.below B6; have one := sl_one (w4.setCell ⟨p, 1, none⟩ (.slice a4 m c4)) n 3; rw [World.size_setCell] at one)
      | (at_builtin; refine app_at _ rfl (.tmp 47) (.tmp 49) 22 rfl base 3 i0 (.int .i64 0) 8 Try.underlying22 hi0 hz0 hz1 hz2 rfl a L.length ca (ints L) rfl ar6 _ 1 1 [.int .i64 n] rfl one (ints_one [n]) hcap (by omega) (by simp; omega) ?_; intro a3 c3 w3 h3 g3 s3; have row3 := row5.keep ((Keep.of (F := fun k => Slot a k) B6).grown g3 (fun k e => Or.inl (own_slot ar5 e))) row5.lt (fun s => (hFa p s).2 rfl); have r30 := row3.free 0 (by simp); have r31 := row3.cell 0 _ rfl))
    go_ret
    have k5 : Keep F w (w4.setCell ⟨p, 1, none⟩ (.slice a4 m c4)) := ((Keep.of hB0).grown g4 (fun k e => Or.inr (by simp [Value.ownBlock] at e; omega))).set (Or.inl hp) _
    rw [HM.out] at row5 br5 k5
    refine ⟨rfl, ?_⟩
    exact ArR.lend hft k5 row5 (by rw [← HM.out]; exact ar5) br5 hp hFa (fun k s => ⟨Or.inr (s4' k s), by have := s4' k s; omega, fun q => by have := s4' k s; have := (ha.lt q).1; omega⟩) (by rw [← HM.out]; exact B6) h3 g3 s3
end Go.Proofs.Ytodecbkngnhpjaa

namespace Go.Proofs.Ytodecbkngnhpjaa
open Go.RowKit
set_option linter.unusedVariables false

theorem ArR.back {base p : Nat} {L B : List Int} {T : Nat} {F : Nat → Prop} {w w1 w2 w3 : World} {a b b' : Option Addr} {ca cb c' : Nat} {n : Int} (hft : ∀ k, F k → base ≤ k ∧ k < w.heap.size)
    (hk : Keep F w w1) (hrow : Row w1 p [.slice a L.length ca, .slice b B.length cb, .int .i64 (T : Int)]) (ha : Own w1 base 3 a L.length ca (ints L)) (hb : Own w1 base 3 b B.length cb (ints B)) (hp : F p) (hFa : ∀ k, Slot a k → (F k ∨ w.heap.size ≤ k) ∧ k ≠ p) (hFb : ∀ k, Slot b k → F k ∧ k ≠ p ∧ ¬ Slot a k)
    (h2 : Below w1.heap.size w1 w2) (h3 : Own w3 base 3 b' (B.length + 1) c' (ints B ++ [.int .i64 n])) (hg : w2.grownBy w3 (Value.slice b B.length cb).ownBlock) (hs : ∀ k, Slot b' k → Slot b k ∨ w2.heap.size ≤ k) :
    Left (ArR base p L (B ++ [n]) T) F w (w3.setCell ⟨p, 1, none⟩ (.slice b' (B.length + 1) c')) := by
  have hown : ∀ k, (Value.slice b B.length cb).ownBlock = some k → Slot b k := fun k e => own_slot hb e
  have k2 : Keep F w w2 := hk.to h2
  have k3 : Keep F w w3 := k2.grown hg (fun k e => Or.inl (hFb k (hown k e)).1)
  have k4 : Keep F w (w3.setCell ⟨p, 1, none⟩ (.slice b' (B.length + 1) c')) := k3.set (Or.inl hp) _
  have K23 : Keep (fun k => Slot b k) w1 w3 := (Keep.of h2).grown hg (fun k e => Or.inl (hown k e))
  have hpl : p < w1.heap.size := hrow.lt
  have row3 := hrow.keep K23 hpl (fun s => (hFb p s).2.1 rfl)
  have a3 := ha.keep K23 (fun k s q => (hFb k q).2.2 s)
  have nb' : ¬ Slot b' p := fun s => (hs p s).elim (fun s => (hFb p s).2.1 rfl) (fun e => by have := h2.size; omega)
  have na' : ¬ Slot a p := fun s => (hFa p s).2 rfl
  refine ⟨k4, fun k => F k ∨ (w.heap.size ≤ k ∧ k < w3.heap.size), ⟨⟨a, ca, b', c', ?_, a3.put na' _, ?_, Or.inl hp, ?_, ?_⟩, ?_⟩, fun k hk => hk.imp id (fun e => e.1)⟩
  · have := row3.set 1 (.slice b' (B.length + 1) c') (by simp)
    rw [List.length_append]
    exact this
  · rw [List.length_append, ints_append]
    exact h3.put nb' _
  · intro k s
    exact ⟨(hFa k s).1.imp id (fun e => ⟨e, (a3.lt s).1⟩), (hFa k s).2⟩
  · intro k s
    refine ⟨(hs k s).elim (fun s => Or.inl (hFb k s).1) (fun e => Or.inr ⟨by have := h2.size; have := hk.size; omega, (h3.lt s).1⟩), fun e => nb' (e ▸ s), fun s' => (hs k s).elim (fun q => (hFb k q).2.2 s') (fun e => by have := h2.size; have := (ha.lt s').1; omega)⟩
  · intro k hk'
    have := k4.size
    have hb2 : base ≤ w.heap.size := by have := hft p hp; omega
    rcases hk' with e | e
    · exact ⟨(hft k e).1, by have := (hft k e).2; omega⟩
    · exact ⟨by omega, by simp; exact e.2⟩
set_option maxRecDepth 100000 in
set_option maxHeartbeats 1000000 in
theorem anFree0 (base p : Nat) (L B : List Int) (T : Nat) (F : Nat → Prop) (n : Int) (w : World) (h : ArR base p L B T F w) (hL : L.length ≤ 1000) (hn : ¬ n ∈ L) :
    Calls Try.prog 13 #[.pointer (some ⟨p, 0, none⟩), .int .i64 n] w fun e w' => e = .returned (.bool false) ∧ Left (ArR base p L B T) F w w' := by
  have h' := h
  obtain ⟨a, ca, b, cb, hrow, ha, hb, hp, hFa, hFb⟩ := h.ex
  have q0 := hrow.cell 0 _ rfl
  have HR : Hid (false = decide (n ∈ L)) := (decide_eq_false hn).symm
  clear hn
  go_enter Try.func13, Try.ntmps13
  go_wp2_with (go_at_call 22; refine (anIn a L.length ca L n w ha.sl (by omega) HR.out).mono ?_; rintro e w1 ⟨rfl, b1⟩)
  go_ret
  exact ⟨rfl, Keep.of b1, F, h'.keep (Keep.of (F := fun _ => False) b1) (fun _ _ x => x), fun k hk => Or.inl hk⟩
set_option maxRecDepth 100000 in
set_option maxHeartbeats 1000000 in
theorem anFree (base p : Nat) (L B : List Int) (T : Nat) (F : Nat → Prop) (n : Int) (w : World) (h : ArR base p L B T F w) (hL : L.length ≤ 1000) (hB : B.length ≤ 1000) (hn : n ∈ L) {M : List Int} (hM : M = L.filter (fun y => decide (y ≠ n))) :
    Calls Try.prog 13 #[.pointer (some ⟨p, 0, none⟩), .int .i64 n] w fun e w' => e = .returned (.bool true) ∧ Left (ArR base p M (B ++ [n]) T) F w w' := by
  obtain ⟨a, ca, b, cb, hrow, ha, hb, hp, hFa, hFb⟩ := h.ex
  obtain ⟨i0, hi0, hz0, hz1, hz2⟩ := info_of infoI
  have hft := h.ft
  have q0 := hrow.cell 0 _ rfl
  have hpb := (hft p hp).1
  have hpl := (hft p hp).2
  have HR : Hid (true = decide (n ∈ L)) := (decide_eq_true hn).symm
  have HM : Hid _ := hM
  have hcap : B.length + 1 ≤ maxLen := by unfold maxLen; omega
  clear hn hM
  go_enter Try.func13, Try.ntmps13
  go_wp2_with (first
    | (go_at_call 22; refine (anIn a L.length ca L n w ha.sl (by omega) HR.out).mono ?_; rintro e w1 ⟨rfl, b1⟩; have k1 : Keep (fun _ => False) w w1 := Keep.of b1; have row1 := hrow.keep k1 hpl (fun x => x); have c10 := row1.cell 0 _ rfl; have a1 := ha.below b1; have bb1 := hb.below b1)
    | (go_at_call 23; refine (anWithout a L.length ca L n w1 a1.sl (by omega) HM.out).mono ?_; rintro e w2 ⟨a2, c2, rfl, o2, b2⟩; have z1 := b1.size; have z2 := b2.size; have row2 := row1.keep (Keep.of (F := fun _ => False) b2) row1.lt (fun x => x); have bb2 := bb1.below b2; have c20 := row2.cell 0 _ rfl; have c21 := row2.cell 1 _ rfl; have f20 := row2.free 0 (by simp); have f21 := row2.free 1 (by simp); have row3 : Row (w2.setCell ⟨p, 0, none⟩ (.slice a2 M.length c2)) p [.slice a2 M.length c2, .slice b B.length cb, .int .i64 (T : Int)] := row2.set 0 _ (by simp); have na2 : ¬ Slot a2 p := fun s => (by have := (o2.lt s).2; omega); have o3 := (o2.mono (base' := base) (by omega)).put (i := 0) na2 (.slice a2 M.length c2); have bb3 := bb2.put (i := 0) (fun s => (hFb p s).2.1 rfl) (.slice a2 M.length c2); have B4 : Below _ (w2.setCell ⟨p, 0, none⟩ (.slice a2 M.length c2)) ((w2.setCell ⟨p, 0, none⟩ (.slice a2 M.length c2)).alloc (.cells #[.int .i64 n] 3)) := (Below.refl _ _).alloc (Nat.le_refl _) _; have bb4 := bb3.below B4; have one := sl_one (w2.setCell ⟨p, 0, none⟩ (.slice a2 M.length c2)) n 3; rw [World.size_setCell] at one)
    | (at_builtin; refine app_at _ rfl (.tmp 25) (.tmp 27) 22 rfl base 3 i0 (.int .i64 0) 8 Try.underlying22 hi0 hz0 hz1 hz2 rfl b B.length cb (ints B) rfl bb4 _ 1 1 [.int .i64 n] rfl one (ints_one [n]) hcap (by omega) (by simp; omega) ?_; intro a5 c5 w5 h5 g5 s5; have row5 := row3.keep ((Keep.of (F := fun k => Slot b k) B4).grown g5 (fun k e => Or.inl (own_slot bb3 e))) row3.lt (fun s => (hFb p s).2.1 rfl); have r50 := row5.free 1 (by simp); have r51 := row5.cell 1 _ rfl))
  go_ret
  have k3 : Keep F w (w2.setCell ⟨p, 0, none⟩ (.slice a2 M.length c2)) := ((Keep.of b1).to b2).set (Or.inl hp) _
  refine ⟨rfl, ?_⟩
  exact ArR.back hft k3 row3 o3 bb3 hp (fun k s => ⟨Or.inr (by have := (o2.lt s).2; omega), by have := (o2.lt s).2; omega⟩) (fun k s => ⟨(hFb k s).1, (hFb k s).2.1, fun q => by have := (o2.lt q).2; have := (hb.lt s).1; omega⟩) B4 h5 g5 s5
set_option maxRecDepth 100000 in
set_option maxHeartbeats 1000000 in
theorem anAll (base p : Nat) (L B : List Int) (T : Nat) (F : Nat → Prop) (w : World) (h : ArR base p L B T F w) (hL : L.length ≤ 1000) (hT : T ≤ 1000) {M : List Int} (hM : M = allN L T) :
    Calls Try.prog 16 #[.pointer (some ⟨p, 0, none⟩)] w (GotL w M) := by
  obtain ⟨a, ca, b, cb, hrow, ha, hb, hp, hFa, hFb⟩ := h.ex
  obtain ⟨i0, hi0, hz0, hz1, hz2⟩ := info_of infoI
  have hpl := (h.ft p hp).2
  have HM : Hid _ := hM
  have hown0 := own_new w w.heap.size 3 (Nat.le_refl _)
  have hB0 : Below w.heap.size w (w.alloc (.cells #[] 3)) := (Below.refl _ _).alloc (Nat.le_refl _) _
  clear hM
  go_enter Try.func16, Try.ntmps16
  go_wp2
  go_loopw [3, 4] (fun s i wr => ∃ k, k ≤ T ∧ i = .int .i64 (k : Int) ∧ ∃ (a : Option Addr) (c : Nat), s = .slice a (allN L k).length c ∧ Own wr w.heap.size 3 a (allN L k).length c (ints (allN L k)) ∧ Below w.heap.size w wr) (fun _ i _ => T - (intOf i).toNat)
  case atStart => exact ⟨0, by omega, rfl, _, _, rfl, hown0, hB0⟩
  case round =>
    clear hown0 hB0
    obtain ⟨k, hk, rfl, a2, c2, rfl, hown, bel⟩ := hrel
    have row1 := hrow.keep (Keep.of (F := fun _ => False) bel) hpl (fun x => x)
    have q0 := row1.cell 0 _ rfl
    have q2 := row1.cell 2 _ rfl
    have ha1 := ha.below bel
    have hnx := allN_next L k
    have hml := allN_len L k
    obtain ⟨M', hM'⟩ : ∃ M', M' = allN L k := ⟨_, rfl⟩
    rw [← hM'] at hown hnx hml ⊢
    by_cases hlt : k < T
    · obtain ⟨r, hr⟩ : ∃ r, r = decide ((k : Int) ∈ L) := ⟨_, rfl⟩
      have HR : Hid _ := hr
      have hbs := bel.size
      cases r with
      | false =>
        have HN : Hid (allN L (k + 1) = M') := by unfold Hid; rw [hnx, if_neg (of_decide_eq_false hr.symm), List.append_nil]
        clear hr hnx hM'
        go_wp2_with (go_at_call 22; refine (anIn a L.length ca L k wr ha1.sl (by omega) HR.out).mono ?_; rintro e w1 ⟨rfl, b1⟩)
        go_roundw
        case rel => exact ⟨k + 1, by omega, by simp, a2, c2, by rw [HN.out], by rw [HN.out]; exact hown.below b1, bel.trans (b1.mono hbs)⟩
        case measure => simp [intOf]; omega
      | true =>
        have HN : Hid (allN L (k + 1) = M' ++ [(k : Int)]) := by unfold Hid; rw [hnx, if_pos (of_decide_eq_true hr.symm)]
        clear hr hnx hM'
        have hcap : M'.length + 1 ≤ maxLen := by unfold maxLen; omega
        go_wp2_with (first
          | (go_at_call 22; refine (anIn a L.length ca L k wr ha1.sl (by omega) HR.out).mono ?_; rintro e w1 ⟨rfl, b1⟩; have z1 := b1.size; have o1 := hown.below b1; have B2 : Below w1.heap.size w1 (w1.alloc (.cells #[.int .i64 (k : Int)] 3)) := (Below.refl _ _).alloc (Nat.le_refl _) _; have o2 := o1.below B2; have one := sl_one w1 (k : Int) 3)
          | (at_builtin; refine app_at _ rfl (.tmp 20) (.tmp 22) 22 rfl w.heap.size 3 i0 (.int .i64 0) 8 Try.underlying22 hi0 hz0 hz1 hz2 rfl a2 M'.length c2 (ints M') rfl o2 _ 1 1 [.int .i64 (k : Int)] rfl one (ints_one [(k : Int)]) hcap (by omega) (by simp; omega) ?_; intro a3 cap3 w3 hown3 hg3 _))
        go_roundw
        case rel =>
          have hb3 : Below w.heap.size w w3 := ((bel.trans (b1.mono hbs)).trans (B2.mono (by omega))).grown hg3 (by simp; omega) (fun j hj => (o2.lt (own_slot o2 hj)).2)
          refine ⟨k + 1, by omega, by simp, a3, cap3, by rw [HN.out, List.length_append]; rfl, ?_, hb3⟩
          rw [HN.out, List.length_append, ints_append]
          exact hown3
        case measure => simp [intOf]; omega
    · obtain rfl : k = T := by omega
      have HE : Hid (M' = M) := by unfold Hid; rw [hM', HM.out]
      clear hM' hnx
      go_wp2
      go_ret
      rw [← HE.out]
      exact ⟨a2, c2, rfl, hown, bel⟩
set_option maxRecDepth 100000 in
set_option maxHeartbeats 1000000 in
theorem anInts (a b : Option Addr) (l ca cb : Nat) (L : List Int) (w : World) (ha : Sl w a l ca (ints L)) (hb : Sl w b l cb (ints L)) (hl : l ≤ 1000000) :
    Calls Try.prog 14 #[.slice a l ca, .slice b l cb] w fun e w' => e = .returned (.bool true) ∧ Below w.heap.size w w' := by
  have hlen : L.length = l := by have := ha.len; rw [ints_length] at this; exact this
  go_enter Try.func14, Try.ntmps14
  go_wp2
  go_loopw [5] (fun i wr => ∃ k : Nat, k ≤ l ∧ i = .int .i64 (k : Int) ∧ Below w.heap.size w wr) (fun i _ => l - (intOf i).toNat)
  case atStart => exact ⟨0, by omega, rfl, Below.refl _ _⟩
  case round =>
    obtain ⟨k, hk, rfl, bel⟩ := hrel
    by_cases hlt : k < l
    · obtain ⟨x, hx⟩ : ∃ x, L[k]? = some x := ⟨L[k], List.getElem?_eq_getElem (by omega)⟩
      obtain ⟨b1, o1, rfl, hb1, hs1⟩ := (ha.below bel).at (by omega)
      obtain ⟨b2, o2, rfl, hb2, hs2⟩ := (hb.below bel).at (by omega)
      have r1 := ha.room
      have r2 := hb.room
      have q1 := hs1.cell k _ (ints_at hx)
      have q2 := hs2.cell k _ (ints_at hx)
      have hne : (x != x) = false := by simp
      clear hx hs1 hs2 ha hb
      go_wp2
      go_quiet (fail)
      go_wp2
      go_roundw
      case rel => exact ⟨k + 1, by omega, by simp, ⟨bel.os, bel.tape, bel.output, bel.size, bel.block⟩⟩
      case measure => simp [intOf]; omega
    · go_wp2
      go_ret
      exact ⟨rfl, bel⟩
end Go.Proofs.Ytodecbkngnhpjaa

namespace Go.Proofs.Ytodecbkngnhpjaa
open Go.RowKit
set_option linter.unusedVariables false

abbrev ArShape := Nat → Nat → List Int → List Int → Nat → (Nat → Prop) → World → Prop
abbrev ptrV (p : Nat) : Value := .pointer (some ⟨p, 0, none⟩)
structure ArSpec (AP : ArShape) : Prop where
  keep : ∀ {base p : Nat} {L B : List Int} {T : Nat} {F G : Nat → Prop} {w w' : World}, AP base p L B T F w → Keep G w w' → (∀ k, F k → ¬ G k) → AP base p L B T F w'
  ft : ∀ {base p : Nat} {L B : List Int} {T : Nat} {F : Nat → Prop} {w : World}, AP base p L B T F w → ∀ k, F k → base ≤ k ∧ k < w.heap.size
  new : ∀ (base : Nat) (w : World), base ≤ w.heap.size → Calls Try.prog 6 #[] w fun e w' => ∃ (p : Nat) (F : Nat → Prop), e = .returned (ptrV p) ∧ AP base p [] [] 0 F w' ∧ (∀ k, F k → w.heap.size ≤ k) ∧ Below w.heap.size w w'
  take : ∀ (base p : Nat) (L B : List Int) (T : Nat) (F : Nat → Prop) (w : World), AP base p L B T F w → L.length ≤ 1000 → B.length ≤ 1000 → T ≤ 1000 → ∀ n, n = tkN B T → Calls Try.prog 8 #[ptrV p] w fun e w' => e = .returned (.int .i64 n) ∧ Left (AP base p (L ++ [n]) B.dropLast (tkT B T)) F w w'
  live : ∀ (base p : Nat) (L B : List Int) (T : Nat) (F : Nat → Prop) (w : World), AP base p L B T F w → L.length ≤ 1000 → B.length ≤ 1000 → T ≤ 1000 → ∀ n, -9223372036854775808 ≤ n ∧ n ≤ 9223372036854775807 → ∀ r, r = decide (n ∈ L) → Calls Try.prog 10 #[ptrV p, .int .i64 n] w fun e w' => e = .returned (.bool r) ∧ Below w.heap.size w w'
  free0 : ∀ (base p : Nat) (L B : List Int) (T : Nat) (F : Nat → Prop) (w : World), AP base p L B T F w → L.length ≤ 1000 → B.length ≤ 1000 → T ≤ 1000 → ∀ n, -9223372036854775808 ≤ n ∧ n ≤ 9223372036854775807 → ¬ n ∈ L → Calls Try.prog 12 #[ptrV p, .int .i64 n] w fun e w' => e = .returned (.bool false) ∧ Left (AP base p L B T) F w w'
  free : ∀ (base p : Nat) (L B : List Int) (T : Nat) (F : Nat → Prop) (w : World), AP base p L B T F w → L.length ≤ 1000 → B.length ≤ 1000 → T ≤ 1000 → ∀ n, -9223372036854775808 ≤ n ∧ n ≤ 9223372036854775807 → n ∈ L → ∀ M, M = L.filter (fun y => decide (y ≠ n)) → Calls Try.prog 12 #[ptrV p, .int .i64 n] w fun e w' => e = .returned (.bool true) ∧ Left (AP base p M (B ++ [n]) T) F w w'
  len : ∀ (base p : Nat) (L B : List Int) (T : Nat) (F : Nat → Prop) (w : World), AP base p L B T F w → L.length ≤ 1000 → B.length ≤ 1000 → T ≤ 1000 → ∀ n : Int, n = L.length → Calls Try.prog 17 #[ptrV p] w fun e w' => e = .returned (.int .i64 n) ∧ Below w.heap.size w w'
  top : ∀ (base p : Nat) (L B : List Int) (T : Nat) (F : Nat → Prop) (w : World), AP base p L B T F w → L.length ≤ 1000 → B.length ≤ 1000 → T ≤ 1000 → Calls Try.prog 18 #[ptrV p] w fun e w' => e = .returned (.int .i64 (T : Int)) ∧ Below w.heap.size w w'
  all : ∀ (base p : Nat) (L B : List Int) (T : Nat) (F : Nat → Prop) (w : World), AP base p L B T F w → L.length ≤ 1000 → B.length ≤ 1000 → T ≤ 1000 → ∀ M, M = allN L T → Calls Try.prog 15 #[ptrV p] w (GotL w M)
  clear : ∀ (base p : Nat) (L B : List Int) (T : Nat) (F : Nat → Prop) (w : World), AP base p L B T F w → Calls Try.prog 7 #[ptrV p] w fun e w' => e = .returned (.tuple #[]) ∧ Left (AP base p [] [] 0) F w w'
/-- Of no arena. -/
structure ArNone : Prop where
  clear : ∀ w : World, Calls Try.prog 7 #[.pointer none] w fun e w' => e = .returned (.tuple #[]) ∧ Below w.heap.size w w'
  take : ∀ w : World, Calls Try.prog 8 #[.pointer none] w fun e w' => e = .returned (.int .i64 (-1)) ∧ Below w.heap.size w w'
  free : ∀ (n : Int) (w : World), Calls Try.prog 12 #[.pointer none, .int .i64 n] w fun e w' => e = .returned (.bool false) ∧ Below w.heap.size w w'
  live : ∀ (n : Int) (w : World), Calls Try.prog 10 #[.pointer none, .int .i64 n] w fun e w' => e = .returned (.bool false) ∧ Below w.heap.size w w'
  len : ∀ w : World, Calls Try.prog 17 #[.pointer none] w fun e w' => e = .returned (.int .i64 0) ∧ Below w.heap.size w w'
  top : ∀ w : World, Calls Try.prog 18 #[.pointer none] w fun e w' => e = .returned (.int .i64 0) ∧ Below w.heap.size w w'
  all : ∀ w : World, Calls Try.prog 15 #[.pointer none] w (GotL w [])
/-- An object that is left, seen from a base. -/
theorem Left.from {Ob : (Nat → Prop) → World → Prop} {F : Nat → Prop} {w w' : World} {base : Nat} (h : Left Ob F w w') (hb : base ≤ w.heap.size) (hF : ∀ k, F k → base ≤ k) : Below base w w' := h.1.below hb hF
set_option maxRecDepth 100000 in
set_option maxHeartbeats 1000000 in
theorem lives10_of {AP : ArShape} (H : ArSpec AP) (w : World) : Calls Try.prog 19 #[] w fun e w' => e = .returned (.bool true) ∧ Below w.heap.size w w' := by
  have hb : w.heap.size ≤ w.heap.size := Nat.le_refl _
  have HH : Hid _ := H
  clear H
  go_enter Try.func19, Try.ntmps19
  have h0 : (0 : Int) ∈ ([0, 1] : List Int) := by decide
  go_wp2_with (go_at_call 6; fail)
  refine (HH.out.new w.heap.size w hb).mono ?_
  rintro e w1 ⟨p, F1, rfl, h1, hF, b1⟩
  go_wp2_with (go_at_call 8; fail)
  refine (HH.out.take w.heap.size p [] [] 0 F1 w1 h1 (by decide) (by decide) (by decide) 0 rfl).mono ?_
  rintro e w2 ⟨rfl, k2, F2, h2, _⟩
  replace h2 : AP w.heap.size p [0] [] 1 F2 w2 := h2
  have b2 := b1.trans (k2.below b1.size (fun k hk => (HH.out.ft h1 k hk).1))
  go_wp2_with (go_at_call 8; fail)
  refine (HH.out.take w.heap.size p [0] [] 1 F2 w2 h2 (by decide) (by decide) (by decide) 1 rfl).mono ?_
  rintro e w3 ⟨rfl, k3, F3, h3, _⟩
  replace h3 : AP w.heap.size p [0, 1] [] 2 F3 w3 := h3
  have b3 := b2.trans (k3.below b2.size (fun k hk => (HH.out.ft h2 k hk).1))
  go_wp2_with (go_at_call 12; fail)
  refine (HH.out.free w.heap.size p [0, 1] [] 2 F3 w3 h3 (by decide) (by decide) (by decide) 0 (by decide) h0 [1] (by decide)).mono ?_
  rintro e w4 ⟨rfl, k4, F4, h4, _⟩
  replace h4 : AP w.heap.size p [1] [0] 2 F4 w4 := h4
  have b4 := b3.trans (k4.below b3.size (fun k hk => (HH.out.ft h3 k hk).1))
  go_wp2_with (go_at_call 8; fail)
  refine (HH.out.take w.heap.size p [1] [0] 2 F4 w4 h4 (by decide) (by decide) (by decide) 0 rfl).mono ?_
  rintro e w5 ⟨rfl, k5, F5, h5, _⟩
  replace h5 : AP w.heap.size p [1, 0] [] 2 F5 w5 := h5
  have b5 := b4.trans (k5.below b4.size (fun k hk => (HH.out.ft h4 k hk).1))
  go_wp2_with (go_at_call 17; fail)
  refine (HH.out.len w.heap.size p [1, 0] [] 2 F5 w5 h5 (by decide) (by decide) (by decide) 2 rfl).mono ?_
  rintro e w6 ⟨rfl, b6⟩
  go_wp2
  go_ret
  exact ⟨rfl, b5.trans (b6.mono b5.size)⟩
end Go.Proofs.Ytodecbkngnhpjaa

namespace Go.Proofs.Ytodecbkngnhpjaa
variable {P : Program} {md : Region.Mode} {Q : Exit → Act → World → Prop} {S : World → Prop}

theorem take_yes {l : List Oper} {i : Nat} {oi : Oper} {v : Value} {fuel : Nat} {listed : Array Bool} {a : Act} {w : World} (hi : l[i]? = some oi)
    (hs : Region.noSelect l.toArray = true) (hf : Region.free md l.toArray listed i = true) (hr : (Region.ready md l.toArray listed).contains i = true)
    (hQ : ∀ c a w, Q (.panic c) (a.put oi.dst v) w → Q (.panic c) a w) (hw : Region.wanted oi (yielded l.toArray a.tmps) = true) (hS : S w)
    (hy : ∀ w, S w → (execOp a.eval oi).run P w = .ok (.value v) w)
    (h : wpAnyH P md l.toArray Q S fuel (listed.setIfInBounds i true) (a.put oi.dst v) w) : wpAnyH P md l.toArray Q S (fuel + 1) listed a w :=
  wpAnyH_take (by simpa using hi) hs hf hr hQ (Or.inl ⟨hw, hy⟩) hS h
theorem take_call {l : List Oper} {i : Nat} {o : Oper} {fuel : Nat} {listed : Array Bool} {a : Act} {w : World} (ho : l[i]? = some o) (hr : Region.ready md l.toArray listed = [i])
    (h : ∀ K' : Act → World → Prop, Shut (∀ a w, S w → (S w → wpAnyH P md l.toArray Q S fuel (listed.setIfInBounds i true) a w) → K' a w) → if Region.wanted o (yielded l.toArray a.tmps) = true then Oper.wp P o a w K' Q else K' (a.put o.dst undef) w) :
    wpAnyH P md l.toArray Q S (fuel + 1) listed a w :=
  wpAnyH_ready hr (by simp) (AllReadyH.cons (by simpa using ho) h AllReadyH.nil)
end Go.Proofs.Ytodecbkngnhpjaa
