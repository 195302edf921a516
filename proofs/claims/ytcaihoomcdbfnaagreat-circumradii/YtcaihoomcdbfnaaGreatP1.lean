/-
  Joined texts, part 1:
  Rows of values in one block of memory: what is read of them behind a store, a draw, a new block, a call that leaves old memory alone. It imports nothing of the program.
  Slices in memory, wherever they begin in their block: what is read of them behind a store, a draw, a new block, a call. It imports nothing of the program.
  Numbers as digits to the base 4294967296: which digits a sum, a difference, a product has. It imports nothing of the program.
  How many digits a number needs, to the base 4294967296, and its digits without noughts at the end. It imports nothing of the program.
  The arithmetic of a difference, and of a division by a small number, digit by digit. It imports nothing of the program.
  The arithmetic of a product, digit by digit. It imports nothing of the program.
  Digits to the base 4294967296, cut, joined, held against each other. It imports nothing of the program.
  What nat's strip and wordAt answer.
  What nat's Trim and Of answer; sums and differences of words.
  Sums and differences of words.
  What nat's Add answers.
  What nat's addTimes and Mul answer.
  What nat's divideByWord answers.
  What nat's subTimes and addBack answer.
-/
import Derived.WalkKit
import Derived.WalkSmall
import Derived.Laws.OwnMore
import Derived.Test.YtcaihoomcdbfnaaGreatRows
import Derived.WalkSpells
import Derived.Deep.QuietTactic
import Derived.BigQuiet
import Derived.RegionTactic
import Derived.ChangeAlike
import Derived.OwnWalk
import Derived.Laws.AppendOwnNone
import Derived.Laws.BitsAllLaws
import Derived.Deep.RegionWith
namespace Go.Proofs.YtcaihoomcdbfnaaGreat
open Go.RowKit

/-- Block b holds the values xs from its head on, and none of these cells is frozen. -/
def Row (w : World) (b : Nat) (xs : List Value) : Prop := ∀ j v, xs[j]? = some v → w.cell? ⟨b, j, none⟩ = some v ∧ w.frozen? ⟨b, j, none⟩ = false
theorem Row.cell {w : World} {b : Nat} {xs : List Value} (h : Row w b xs) (j : Nat) (v : Value) (hj : xs[j]? = some v) : w.cell? ⟨b, j, none⟩ = some v := (h j v hj).1
theorem Row.free {w : World} {b : Nat} {xs : List Value} (h : Row w b xs) (j : Nat) (hj : j < xs.length) : w.frozen? ⟨b, j, none⟩ = false := (h j xs[j] (List.getElem?_eq_getElem hj)).2
theorem Row.drewN {w : World} {b : Nat} {xs : List Value} (h : Row w b xs) (n : Nat) : Row (w.drewN n) b xs := h
theorem Row.drew {w : World} {b : Nat} {xs : List Value} (h : Row w b xs) : Row w.drew b xs := h
theorem Row.set {w : World} {b : Nat} {xs : List Value} (h : Row w b xs) (i : Nat) (v : Value) (hi : i < xs.length) : Row (w.setCell ⟨b, i, none⟩ v) b (xs.set i v) := by
  intro j u hu
  rw [World.frozen?_setCell]
  by_cases e : i = j
  · subst e
    rw [List.getElem?_set_self hi] at hu
    simp only [Option.some.injEq] at hu
    subst hu
    exact ⟨World.cell?_setCell_same _ _ _ (h.cell i xs[i] (List.getElem?_eq_getElem hi)), h.free i hi⟩
  · rw [List.getElem?_set_ne e] at hu
    rw [World.cell?_setCell_other _ _ _ _ (by intro q; simp only [Addr.mk.injEq] at q; omega)]
    exact h j u hu
theorem Row.below {w w' : World} {b B : Nat} {xs : List Value} (h : Row w b xs) (hb : Below B w w') (hB : b < B) : Row w' b xs := by
  intro j u hu
  rw [hb.cell (p := ⟨b, j, none⟩) hB, hb.frozen (p := ⟨b, j, none⟩) hB]
  exact h j u hu
theorem Row.other {w : World} {b c i : Nat} {xs : List Value} (h : Row w b xs) (v : Value) (hc : c ≠ b) : Row (w.setCell ⟨c, i, none⟩ v) b xs := by
  intro j u hu
  rw [World.frozen?_setCell, World.cell?_setCell_other _ _ _ _ (by intro q; simp only [Addr.mk.injEq] at q; omega)]
  exact h j u hu
theorem Row.new (w : World) (xs : List Value) (t : TypeId) : Row (w.alloc (.cells xs.toArray t)) w.heap.size xs := by
  intro j u hu
  rw [World.cell?_alloc_new, World.frozen?_alloc_new]
  exact ⟨by simpa using hu, rfl⟩
theorem Row.alloc {w : World} {b : Nat} {xs : List Value} (h : Row w b xs) (o : Obj) (hb : b < w.heap.size) : Row (w.alloc o) b xs :=
  h.below (((Below.refl _ _).alloc (Nat.le_refl _) o)) hb
theorem bcell {W w1 : World} (hb : Below W.heap.size W w1) : (∀ b o, b < W.heap.size → w1.cell? ⟨b, o, none⟩ = W.cell? ⟨b, o, none⟩) ∧ (∀ b o, b < W.heap.size → w1.frozen? ⟨b, o, none⟩ = W.frozen? ⟨b, o, none⟩) :=
  ⟨fun b o h => hb.cell (p := ⟨b, o, none⟩) h, fun b o h => hb.frozen (p := ⟨b, o, none⟩) h⟩
end Go.Proofs.YtcaihoomcdbfnaaGreat

namespace Go.Proofs.YtcaihoomcdbfnaaGreat
open Go.RowKit
set_option linter.unusedVariables false

/-- Block b holds the values xs from offset o on, and none of these cells is frozen. -/
def Seg (w : World) (b o : Nat) (xs : List Value) : Prop := ∀ j v, xs[j]? = some v → w.cell? ⟨b, o + j, none⟩ = some v ∧ w.frozen? ⟨b, o + j, none⟩ = false
theorem Seg.cell {w : World} {b o : Nat} {xs : List Value} (h : Seg w b o xs) (j : Nat) (v : Value) (hj : xs[j]? = some v) : w.cell? ⟨b, o + j, none⟩ = some v := (h j v hj).1
theorem Seg.free {w : World} {b o : Nat} {xs : List Value} (h : Seg w b o xs) (j : Nat) (hj : j < xs.length) : w.frozen? ⟨b, o + j, none⟩ = false := (h j xs[j] (List.getElem?_eq_getElem hj)).2
theorem Seg.drewN {w : World} {b o : Nat} {xs : List Value} (h : Seg w b o xs) (n : Nat) : Seg (w.drewN n) b o xs := h
theorem Seg.drew {w : World} {b o : Nat} {xs : List Value} (h : Seg w b o xs) : Seg w.drew b o xs := h
theorem Seg.nil (w : World) (b o : Nat) : Seg w b o [] := by intro j v h; simp at h
theorem Seg.set {w : World} {b o : Nat} {xs : List Value} (h : Seg w b o xs) (i : Nat) (v : Value) (hi : i < xs.length) : Seg (w.setCell ⟨b, o + i, none⟩ v) b o (xs.set i v) := by
  intro j u hu
  rw [World.frozen?_setCell]
  by_cases e : i = j
  · subst e
    rw [List.getElem?_set_self hi] at hu
    simp only [Option.some.injEq] at hu
    subst hu
    exact ⟨World.cell?_setCell_same _ _ _ (h.cell i xs[i] (List.getElem?_eq_getElem hi)), h.free i hi⟩
  · rw [List.getElem?_set_ne e] at hu
    rw [World.cell?_setCell_other _ _ _ _ (by intro q; simp only [Addr.mk.injEq] at q; omega)]
    exact h j u hu
theorem Seg.other {w : World} {b c o i : Nat} {xs : List Value} (h : Seg w b o xs) (v : Value) (hc : c ≠ b) : Seg (w.setCell ⟨c, i, none⟩ v) b o xs := by
  intro j u hu
  rw [World.frozen?_setCell, World.cell?_setCell_other _ _ _ _ (by intro q; simp only [Addr.mk.injEq] at q; omega)]
  exact h j u hu
theorem Seg.block {w w' : World} {b o : Nat} {xs : List Value} (h : Seg w b o xs) (hb : w'.heap[b]? = w.heap[b]?) : Seg w' b o xs := by
  intro j u hu
  rw [World.cell?_of_block (w := w) (a := ⟨b, o + j, none⟩) hb, World.frozen?_of_block (w := w) (a := ⟨b, o + j, none⟩) hb]
  exact h j u hu
theorem Seg.below {w w' : World} {b o B : Nat} {xs : List Value} (h : Seg w b o xs) (hb : Below B w w') (hB : b < B) : Seg w' b o xs := h.block (hb.block b hB)
theorem Seg.take {w : World} {b o : Nat} {xs : List Value} (h : Seg w b o xs) (n : Nat) : Seg w b o (xs.take n) := by
  intro j u hu
  rw [List.getElem?_take] at hu
  split at hu
  · exact h j u hu
  · cases hu
theorem Seg.drop {w : World} {b o : Nat} {xs : List Value} (h : Seg w b o xs) (n : Nat) : Seg w b (o + n) (xs.drop n) := by
  intro j u hu
  rw [List.getElem?_drop] at hu
  have := h (n + j) u hu
  rwa [show o + n + j = o + (n + j) by omega]
theorem Seg.append {w : World} {b o : Nat} {xs ys : List Value} (h : Seg w b o xs) (k : Seg w b (o + xs.length) ys) : Seg w b o (xs ++ ys) := by
  intro j u hu
  by_cases e : j < xs.length
  · rw [List.getElem?_append_left e] at hu
    exact h j u hu
  · rw [List.getElem?_append_right (by omega)] at hu
    have := k _ u hu
    rwa [show o + xs.length + (j - xs.length) = o + j by omega] at this
theorem Row.seg {w : World} {b : Nat} {xs : List Value} (h : Row w b xs) : Seg w b 0 xs := by
  intro j u hu
  rw [Nat.zero_add]
  exact h j u hu

/-- The slice (a, n, cap) holds the values xs. -/
structure Sl (w : World) (a : Option Addr) (n cap : Nat) (xs : List Value) : Prop where
  len : xs.length = n
  room : n ≤ cap
  big : cap ≤ maxLen
  nil : a = none → n = 0 ∧ cap = 0
  seg : n = 0 ∨ ∃ b o, a = some ⟨b, o, none⟩ ∧ b < w.heap.size ∧ Seg w b o xs
theorem Sl.below {w w' : World} {a : Option Addr} {n cap : Nat} {xs : List Value} (h : Sl w a n cap xs) (hb : Below w.heap.size w w') : Sl w' a n cap xs := by
  refine ⟨h.len, h.room, h.big, h.nil, h.seg.imp id ?_⟩
  rintro ⟨b, o, e, hlt, hs⟩
  exact ⟨b, o, e, Nat.lt_of_lt_of_le hlt hb.size, hs.below hb hlt⟩
/-- Where a slice has an element k, its address is known. -/
theorem Sl.at {w : World} {a : Option Addr} {n cap : Nat} {xs : List Value} (h : Sl w a n cap xs) (hn : 0 < n) : ∃ b o, a = some ⟨b, o, none⟩ ∧ b < w.heap.size ∧ Seg w b o xs := h.seg.resolve_left (by omega)
theorem Sl.take {w : World} {b o n cap m : Nat} {xs : List Value} (h : Sl w (some ⟨b, o, none⟩) n cap xs) (hm : m ≤ n) : Sl w (some ⟨b, o, none⟩) m cap (xs.take m) := by
  refine ⟨by rw [List.length_take, h.len]; omega, by have := h.room; omega, h.big, (by intro e; cases e), ?_⟩
  rcases Nat.eq_zero_or_pos m with e | e
  · exact Or.inl e
  · obtain ⟨b', o', e1, h1, h2⟩ := h.at (by omega)
    cases e1
    exact Or.inr ⟨b, o, rfl, h1, h2.take m⟩
theorem sl_nil (w : World) : Sl w none 0 0 [] := ⟨rfl, Nat.le_refl _, Nat.zero_le _, fun _ => ⟨rfl, rfl⟩, Or.inl rfl⟩

/-- A slice in memory of the call's own, from base on. -/
abbrev Own (w : World) (base : Nat) (T : TypeId) (a : Option Addr) (n cap : Nat) (xs : List Value) : Prop := w.ownsRow base T 1 (.slice a n cap) n xs
theorem Own.sl {w : World} {base n cap : Nat} {T : TypeId} {a : Option Addr} {xs : List Value} (h : Own w base T a n cap xs) : Sl w a n cap xs := by
  obtain ⟨hl, ⟨h1, h2⟩ | ⟨g, cap', cur, hv, hb, hg, h1, h2, h3, h4⟩⟩ := h
  · cases h1
    refine ⟨by omega, Nat.le_refl _, Nat.zero_le _, fun _ => ⟨rfl, rfl⟩, Or.inl rfl⟩
  · cases hv
    refine ⟨by omega, h1, h2, (by intro e; cases e), Or.inr ⟨g, 0, rfl, (Array.getElem?_eq_some_iff.1 hg).1, ?_⟩⟩
    intro j u hu
    have hj : j < n := by
      have := (List.getElem?_eq_some_iff.1 hu).1
      omega
    rw [← h4, Nat.mul_one, List.getElem?_take, if_pos hj] at hu
    refine ⟨by simp [World.cell?, hg]; simpa using hu, by simp [World.frozen?, hg]⟩
theorem Own.form {w : World} {base n : Nat} {T : TypeId} {v : Value} {xs : List Value} (h : w.ownsRow base T 1 v n xs) : ∃ a cap, v = .slice a n cap ∧ Own w base T a n cap xs := by
  obtain ⟨hl, ⟨h1, h2⟩ | ⟨g, cap', cur, hv, hb, hg, h1, h2, h3, h4⟩⟩ := h
  · subst h1 h2
    exact ⟨none, 0, rfl, hl, Or.inl ⟨rfl, rfl⟩⟩
  · subst hv
    exact ⟨_, _, rfl, hl, Or.inr ⟨g, cap', cur, rfl, hb, hg, h1, h2, h3, h4⟩⟩
theorem Own.mono {w : World} {base base' n cap : Nat} {T : TypeId} {a : Option Addr} {xs : List Value} (h : Own w base T a n cap xs) (hb : base' ≤ base) : Own w base' T a n cap xs := by
  obtain ⟨hl, h1 | ⟨g, cap', cur, hv, hb', r⟩⟩ := h
  · exact ⟨hl, Or.inl h1⟩
  · exact ⟨hl, Or.inr ⟨g, cap', cur, hv, by omega, r⟩⟩
theorem Own.below {w w' : World} {base n cap : Nat} {T : TypeId} {a : Option Addr} {xs : List Value} (h : Own w base T a n cap xs) (hb : Below w.heap.size w w') : Own w' base T a n cap xs := by
  obtain ⟨hl, h1 | ⟨g, cap', cur, hv, hb', hg, r⟩⟩ := h
  · exact ⟨hl, Or.inl h1⟩
  · exact ⟨hl, Or.inr ⟨g, cap', cur, hv, hb', by rw [hb.block g (Array.getElem?_eq_some_iff.1 hg).1]; exact hg, r⟩⟩
/-- Cut at its end. -/
theorem Own.take {w : World} {base n cap m : Nat} {T : TypeId} {a : Option Addr} {xs : List Value} (h : Own w base T a n cap xs) (hm : m ≤ n) : Own w base T a m cap (xs.take m) := by
  obtain ⟨hl, ⟨h1, h2⟩ | ⟨g, cap', cur, hv, hb', hg, h1, h2, h3, h4⟩⟩ := h
  · subst h2
    obtain rfl : m = 0 := by omega
    cases h1
    exact ⟨by simp, Or.inl ⟨rfl, rfl⟩⟩
  · cases hv
    refine ⟨by rw [List.length_take, hl]; omega, Or.inr ⟨g, cap, cur, rfl, hb', hg, by omega, h2, h3, ?_⟩⟩
    rw [← h4, List.take_take, Nat.mul_one, Nat.mul_one, Nat.min_eq_left hm]
theorem Own.at {w : World} {base n cap : Nat} {T : TypeId} {a : Option Addr} {xs : List Value} (h : Own w base T a n cap xs) (hn : 0 < n) : ∃ b, a = some ⟨b, 0, none⟩ ∧ b < w.heap.size ∧ base ≤ b ∧ Seg w b 0 xs := by
  obtain ⟨b, o, e, h1, h2⟩ := h.sl.at hn
  subst e
  obtain ⟨hl, ⟨h1', _⟩ | ⟨g, cap', cur, hv, hb', r⟩⟩ := h
  · cases h1'
  · cases hv
    exact ⟨b, rfl, h1, hb', h2⟩

/-- w' is w but for new blocks and for the cells of block b from lo on, ahead of hi. -/
structure Wr (w w' : World) (b lo hi : Nat) : Prop where
  grown : w.grownBy w' (some b)
  cells : ∀ c t f, w.heap[b]? = some (.cells c t f) → ∃ c', w'.heap[b]? = some (.cells c' t f) ∧ c'.size = c.size ∧ ∀ o, (o < lo ∨ hi ≤ o) → c'[o]? = c[o]?
theorem Wr.refl (w : World) (b lo hi : Nat) : Wr w w b lo hi := ⟨World.grownBy.refl _ _, fun c t f h => ⟨c, h, rfl, fun _ _ => rfl⟩⟩
theorem Wr.trans {w w' w'' : World} {b lo hi : Nat} (h : Wr w w' b lo hi) (k : Wr w' w'' b lo hi) : Wr w w'' b lo hi := by
  refine ⟨⟨k.grown.os.trans h.grown.os, k.grown.tape.trans h.grown.tape, k.grown.output.trans h.grown.output, Nat.le_trans h.grown.size k.grown.size, fun i hi hne => (k.grown.block i (Nat.lt_of_lt_of_le hi h.grown.size) hne).trans (h.grown.block i hi hne)⟩, fun c t f hc => ?_⟩
  obtain ⟨c1, e1, s1, o1⟩ := h.cells c t f hc
  obtain ⟨c2, e2, s2, o2⟩ := k.cells c1 t f e1
  exact ⟨c2, e2, s2.trans s1, fun o ho => (o2 o ho).trans (o1 o ho)⟩
theorem Wr.mono {w w' : World} {b lo hi lo' hi' : Nat} (h : Wr w w' b lo hi) (h1 : lo' ≤ lo) (h2 : hi ≤ hi') : Wr w w' b lo' hi' :=
  ⟨h.grown, fun c t f hc => by obtain ⟨c1, e1, s1, o1⟩ := h.cells c t f hc; exact ⟨c1, e1, s1, fun o ho => o1 o (by omega)⟩⟩
theorem Wr.drewN {w w' : World} {b lo hi : Nat} (h : Wr w w' b lo hi) (n : Nat) : Wr w (w'.drewN n) b lo hi := ⟨⟨h.grown.os, h.grown.tape, h.grown.output, h.grown.size, h.grown.block⟩, h.cells⟩
theorem Wr.drew {w w' : World} {b lo hi : Nat} (h : Wr w w' b lo hi) : Wr w w'.drew b lo hi := ⟨⟨h.grown.os, h.grown.tape, h.grown.output, h.grown.size, h.grown.block⟩, h.cells⟩
theorem Wr.set {w w' : World} {b lo hi i : Nat} (h : Wr w w' b lo hi) (v : Value) (h1 : lo ≤ i) (h2 : i < hi) : Wr w (w'.setCell ⟨b, i, none⟩ v) b lo hi := by
  refine h.trans ⟨⟨rfl, rfl, rfl, by simp, fun k hk hne => Below.heap_setCell _ _ _ _ (by simpa using hne)⟩, fun c t f hc => ?_⟩
  refine ⟨c.setIfInBounds i v, ?_, by simp, fun o ho => ?_⟩
  · simp [World.setCell, Array.getElem?_modify, hc]
  · rw [Array.getElem?_setIfInBounds_ne (by omega)]
/-- A call that leaves old memory alone. -/
theorem Wr.below {w w' w'' : World} {b lo hi : Nat} (h : Wr w w' b lo hi) (hb : Below w'.heap.size w' w'') (hlt : b < w.heap.size) : Wr w w'' b lo hi := by
  refine h.trans ⟨⟨hb.os, hb.tape, hb.output, hb.size, fun k hk _ => hb.block k hk⟩, fun c t f hc => ⟨c, ?_, rfl, fun _ _ => rfl⟩⟩
  rw [hb.block b (Nat.lt_of_lt_of_le hlt h.grown.size)]
  exact hc
theorem Wr.to_below {w w' : World} {b lo hi B : Nat} (h : Wr w w' b lo hi) (hB : B ≤ b) (hs : B ≤ w.heap.size) : Below B w w' :=
  ⟨h.grown.os, h.grown.tape, h.grown.output, h.grown.size, fun k hk => h.grown.block k (by omega) (by simp; omega)⟩
theorem Wr.after {w0 w w' : World} {b lo hi B : Nat} (h : Wr w w' b lo hi) (h0 : Below B w0 w) (hB : B ≤ b) (hs : B ≤ w0.heap.size) : Below B w0 w' :=
  h0.trans (h.to_below hB (Nat.le_trans hs h0.size))
/-- Another block's cells stay. -/
theorem Wr.seg {w w' : World} {b lo hi c o : Nat} {xs : List Value} (h : Wr w w' b lo hi) (hs : Seg w c o xs) (hlt : c < w.heap.size) (hne : c ≠ b) : Seg w' c o xs :=
  hs.block (h.grown.block c hlt (by simpa using hne))
/-- The same block's cells outside what was written stay. -/
theorem Wr.out {w w' : World} {b lo hi o : Nat} {xs : List Value} (h : Wr w w' b lo hi) (hs : Seg w b o xs) (hout : o + xs.length ≤ lo ∨ hi ≤ o) : Seg w' b o xs := by
  intro j u hu
  have hj := (List.getElem?_eq_some_iff.1 hu).1
  obtain ⟨h1, h2⟩ := hs j u hu
  unfold World.cell? at h1 ⊢
  unfold World.frozen? at h2 ⊢
  dsimp only at h1 h2 ⊢
  split at h1
  · rename_i c t f hc
    obtain ⟨c', e, s, ho⟩ := h.cells c t f hc
    rw [hc] at h2
    rw [e]
    simp only [Option.isSome_none, Bool.false_eq_true, if_false] at h1 ⊢
    exact ⟨by rw [ho _ (by omega)]; exact h1, h2⟩
  · cases h1
theorem Wr.sl {w w' : World} {b lo hi n cap : Nat} {a : Option Addr} {xs : List Value} (h : Wr w w' b lo hi) (hs : Sl w a n cap xs) (hne : ∀ o, a ≠ some ⟨b, o, none⟩) : Sl w' a n cap xs := by
  refine ⟨hs.len, hs.room, hs.big, hs.nil, hs.seg.imp id ?_⟩
  rintro ⟨c, o, e, hlt, hseg⟩
  exact ⟨c, o, e, Nat.lt_of_lt_of_le hlt h.grown.size, h.seg hseg hlt (fun e' => hne o (by rw [e, e']))⟩
theorem Wr.own {w w' : World} {b lo hi n cap base : Nat} {T : TypeId} {a : Option Addr} {xs : List Value} (h : Wr w w' b lo hi) (hs : Own w base T a n cap xs) (hne : ∀ o, a ≠ some ⟨b, o, none⟩) : Own w' base T a n cap xs := by
  obtain ⟨hl, h1 | ⟨g, cap', cur, hv, hb', hg, r⟩⟩ := hs
  · exact ⟨hl, Or.inl h1⟩
  · cases hv
    exact ⟨hl, Or.inr ⟨g, cap, cur, rfl, hb', by rw [h.grown.block g (Array.getElem?_eq_some_iff.1 hg).1 (fun e => hne 0 (by cases e; rfl))]; exact hg, r⟩⟩
/-- What one owns, written over. -/
theorem Wr.owned {w w' : World} {b lo hi n cap base : Nat} {T : TypeId} {xs ys : List Value} (h : Wr w w' b lo hi) (hs : Own w base T (some ⟨b, 0, none⟩) n cap xs) (hy : ys.length = n) (hseg : Seg w' b 0 ys) : Own w' base T (some ⟨b, 0, none⟩) n cap ys := by
  obtain ⟨hl, ⟨h1, _⟩ | ⟨g, cap', cur, hv, hb', hg, h1, h2, h3, h4⟩⟩ := hs
  · cases h1
  · cases hv
    obtain ⟨c', e, s, ho⟩ := h.cells _ _ _ hg
    refine ⟨by omega, Or.inr ⟨b, cap, c', rfl, hb', e, h1, h2, by omega, ?_⟩⟩
    refine List.ext_getElem? fun j => ?_
    rw [List.getElem?_take, Nat.mul_one]
    by_cases hj : j < n
    · rw [if_pos hj]
      have := (hseg j ys[j] (List.getElem?_eq_getElem (by omega))).1
      simp [World.cell?, e] at this
      rw [Array.getElem?_toList, this, List.getElem?_eq_getElem (by omega)]
    · rw [if_neg hj, List.getElem?_eq_none (by omega)]
/-- What was made just now: so many noughts. -/
theorem seg_of_own {w : World} {base b n cap : Nat} {T : TypeId} {xs : List Value} (h : Own w base T (some ⟨b, 0, none⟩) n cap xs) : Seg w b 0 xs ∧ b < w.heap.size ∧ base ≤ b := by
  obtain ⟨hl, ⟨h1, _⟩ | ⟨g, cap', cur, hv, hb', hg, h1, h2, h3, h4⟩⟩ := h
  · cases h1
  · cases hv
    refine ⟨?_, (Array.getElem?_eq_some_iff.1 hg).1, hb'⟩
    intro j u hu
    have hj := (List.getElem?_eq_some_iff.1 hu).1
    rw [← h4, Nat.mul_one, List.getElem?_take, if_pos (by omega)] at hu
    rw [Nat.zero_add]
    refine ⟨by simp [World.cell?, hg]; simpa using hu, by simp [World.frozen?, hg]⟩
end Go.Proofs.YtcaihoomcdbfnaaGreat

namespace Go.Proofs.YtcaihoomcdbfnaaGreat.wd
open Go.RowKit

/-- Digit i of v, to the base 4294967296 (of a number below nought: of v modulo as many digits as you like). -/
def dg (v : Int) (i : Nat) : Int := v / 4294967296 ^ i % 4294967296
theorem dg_range (v : Int) (i : Nat) : 0 ≤ dg v i ∧ dg v i < 4294967296 := by unfold dg; omega
theorem p256 (i : Nat) : (0 : Int) < 4294967296 ^ i := Int.pow_pos (by decide)
/-- n digits: at the places that p names those of u, at the others those of v. -/
def fill (n : Nat) (p : Nat → Bool) (u v : Int) : List Value := (List.range n).map fun j => .int .u32 (if p j then dg u j else dg v j)
def dcells (n : Nat) (v : Int) : List Value := (List.range n).map fun j => .int .u32 (dg v j)
def mix (n i : Nat) (u v : Int) : List Value := fill n (fun j => decide (j < i)) u v
theorem fill_length (n : Nat) (p : Nat → Bool) (u v : Int) : (fill n p u v).length = n := by simp [fill]
theorem mix_length (n i : Nat) (u v : Int) : (mix n i u v).length = n := fill_length _ _ _ _
theorem dcells_length (n : Nat) (v : Int) : (dcells n v).length = n := by simp [dcells]
theorem dcells_at (n : Nat) (v : Int) (i : Nat) (h : i < n) : (dcells n v)[i]? = some (.int .u32 (dg v i)) := by simp [dcells, h]
theorem fill_at (n : Nat) (p : Nat → Bool) (u v : Int) (i : Nat) (h : i < n) : (fill n p u v)[i]? = some (.int .u32 (if p i then dg u i else dg v i)) := by simp [fill, h]
theorem mix_at (n k : Nat) (u v : Int) (i : Nat) (h : i < n) (hk : k ≤ i) : (mix n k u v)[i]? = some (.int .u32 (dg v i)) := by
  rw [mix, fill_at _ _ _ _ _ h]; simp; omega
theorem fill_congr {n : Nat} {p q : Nat → Bool} {u v u' v' : Int} (h : ∀ j, j < n → (if p j then dg u j else dg v j) = (if q j then dg u' j else dg v' j)) : fill n p u v = fill n q u' v' := by
  unfold fill
  refine List.map_congr_left fun j hj => ?_
  rw [h j (by simpa using hj)]
theorem fill_set (n : Nat) (p : Nat → Bool) (u v : Int) (i : Nat) : (fill n p u v).set i (.int .u32 (dg u i)) = fill n (fun j => p j || j == i) u v := by
  refine List.ext_getElem? fun j => ?_
  rw [List.getElem?_set]
  by_cases e : i = j
  · subst e
    by_cases h : i < n
    · rw [if_pos rfl, if_pos (by rw [fill_length]; exact h), fill_at _ _ _ _ _ h]; simp
    · rw [if_pos rfl, if_neg (by rw [fill_length]; exact h), List.getElem?_eq_none (by rw [fill_length]; omega)]
  · by_cases h : j < n
    · rw [if_neg e, fill_at _ _ _ _ _ h, fill_at _ _ _ _ _ h]
      have e' : (j == i) = false := by simp; omega
      simp [e']
    · rw [if_neg e, List.getElem?_eq_none (by simp [fill_length]; omega), List.getElem?_eq_none (by simp [fill_length]; omega)]
theorem mix_set (n i : Nat) (u v : Int) : (mix n i u v).set i (.int .u32 (dg u i)) = mix n (i + 1) u v := by
  unfold mix
  rw [fill_set]
  refine fill_congr fun j _ => ?_
  have : (decide (j < i) || j == i) = decide (j < i + 1) := by rw [Bool.eq_iff_iff]; simp; omega
  rw [this]
theorem mix_zero (n : Nat) (u v : Int) : mix n 0 u v = dcells n v := by unfold mix fill dcells; simp
theorem mix_full (n : Nat) (u v : Int) : mix n n u v = dcells n u := by
  unfold mix fill dcells
  refine List.map_congr_left fun j hj => ?_
  have : j < n := by simpa using hj
  simp [this]
/-- The digits of two numbers that are the same modulo 4294967296^i are the same below place i. -/
theorem dg_congr {u v : Int} {i j : Nat} (t : Int) (h : u = v + t * 4294967296 ^ i) (hj : j < i) : dg u j = dg v j := by
  unfold dg
  obtain ⟨d, rfl⟩ : ∃ d, i = j + 1 + d := ⟨i - (j + 1), by omega⟩
  have e : t * (4294967296 : Int) ^ (j + 1 + d) = (4294967296 * (t * 4294967296 ^ d)) * 4294967296 ^ j := by
    rw [show j + 1 + d = d + 1 + j by omega, Int.pow_add, Int.pow_succ, ← Int.mul_assoc, ← Int.mul_assoc, Int.mul_comm (t * 4294967296 ^ d) 4294967296]
  rw [h, e, Int.add_mul_ediv_right _ _ (Int.ne_of_gt (p256 j))]
  omega
theorem dcells_congr {n : Nat} {u v : Int} (t : Int) (h : u = v + t * 4294967296 ^ n) : dcells n u = dcells n v := by
  unfold dcells
  refine List.map_congr_left fun j hj => ?_
  rw [dg_congr t h (by simpa using hj)]
/-- The carry into place i when x and y are added. -/
def carry (x y : Int) (i : Nat) : Int := (x % 4294967296 ^ i + y % 4294967296 ^ i) / 4294967296 ^ i
theorem carry_zero (x y : Int) : carry x y 0 = 0 := by simp [carry]
theorem emod_succ (x : Int) (i : Nat) : x % 4294967296 ^ (i + 1) = dg x i * 4294967296 ^ i + x % 4294967296 ^ i := by
  unfold dg
  have hp := p256 i
  have h1 := Int.mul_ediv_add_emod x (4294967296 ^ i)
  have h2 := Int.mul_ediv_add_emod (x / 4294967296 ^ i) 4294967296
  have b := Int.emod_nonneg x (Int.ne_of_gt hp)
  have b' := Int.emod_lt_of_pos x hp
  have c := Int.emod_nonneg (x / 4294967296 ^ i) (show (4294967296 : Int) ≠ 0 by decide)
  have c' := Int.emod_lt_of_pos (x / 4294967296 ^ i) (show (0 : Int) < 4294967296 by decide)
  have e : x = (x / 4294967296 ^ i % 4294967296 * 4294967296 ^ i + x % 4294967296 ^ i) + (x / 4294967296 ^ i / 4294967296) * 4294967296 ^ (i + 1) := by
    have : (x / 4294967296 ^ i / 4294967296) * (4294967296 : Int) ^ (i + 1) = (4294967296 * (x / 4294967296 ^ i / 4294967296)) * 4294967296 ^ i := by rw [Int.pow_succ, Int.mul_comm ((4294967296 : Int) ^ i) 4294967296, ← Int.mul_assoc, Int.mul_comm _ 4294967296]
    rw [this]
    have h3 : (4294967296 * (x / 4294967296 ^ i / 4294967296)) * (4294967296 : Int) ^ i + x / 4294967296 ^ i % 4294967296 * 4294967296 ^ i = x / 4294967296 ^ i * 4294967296 ^ i := by rw [← Int.add_mul, h2]
    have h4 : x / 4294967296 ^ i * (4294967296 : Int) ^ i = 4294967296 ^ i * (x / 4294967296 ^ i) := Int.mul_comm _ _
    omega
  have l0 : 0 ≤ x / 4294967296 ^ i % 4294967296 * 4294967296 ^ i + x % 4294967296 ^ i := Int.add_nonneg (Int.mul_nonneg c (Int.le_of_lt hp)) b
  have l1 : x / 4294967296 ^ i % 4294967296 * 4294967296 ^ i + x % 4294967296 ^ i < 4294967296 ^ (i + 1) := by
    have : x / 4294967296 ^ i % 4294967296 * (4294967296 : Int) ^ i ≤ 4294967295 * 4294967296 ^ i := Int.mul_le_mul_of_nonneg_right (by omega) (Int.le_of_lt hp)
    rw [Int.pow_succ]
    omega
  have key : x % 4294967296 ^ (i + 1) = (x / 4294967296 ^ i % 4294967296 * 4294967296 ^ i + x % 4294967296 ^ i) % 4294967296 ^ (i + 1) := by
    have := congrArg (· % (4294967296 : Int) ^ (i + 1)) e
    simpa [Int.add_mul_emod_self_right] using this
  rw [key, Int.emod_eq_of_lt l0 l1]
theorem carry_sum (x y : Int) (i : Nat) : (x % 4294967296 ^ (i + 1) + y % 4294967296 ^ (i + 1)) / 4294967296 ^ i = carry x y i + dg x i + dg y i := by
  rw [emod_succ, emod_succ]
  unfold carry
  have e : dg x i * 4294967296 ^ i + x % 4294967296 ^ i + (dg y i * 4294967296 ^ i + y % 4294967296 ^ i) = (x % 4294967296 ^ i + y % 4294967296 ^ i) + (dg x i + dg y i) * 4294967296 ^ i := by rw [Int.add_mul]; omega
  rw [e, Int.add_mul_ediv_right _ _ (Int.ne_of_gt (p256 i))]
  omega
theorem carry_succ (x y : Int) (i : Nat) : carry x y (i + 1) = (carry x y i + dg x i + dg y i) / 4294967296 := by
  rw [← carry_sum]
  show (x % 4294967296 ^ (i + 1) + y % 4294967296 ^ (i + 1)) / 4294967296 ^ (i + 1) = _
  have hp := p256 i
  rw [Int.pow_succ, Int.ediv_ediv, if_neg (by omega)]
  omega
theorem add_digit (x y : Int) (i : Nat) : (carry x y i + dg x i + dg y i) % 4294967296 = dg (x + y) i := by
  unfold dg carry
  have hp := p256 i
  have h1 := Int.mul_ediv_add_emod x (4294967296 ^ i)
  have h2 := Int.mul_ediv_add_emod y (4294967296 ^ i)
  have e : x + y = (x % 4294967296 ^ i + y % 4294967296 ^ i) + (x / 4294967296 ^ i + y / 4294967296 ^ i) * 4294967296 ^ i := by
    have a1 : x / 4294967296 ^ i * (4294967296 : Int) ^ i = 4294967296 ^ i * (x / 4294967296 ^ i) := Int.mul_comm _ _
    have a2 : y / 4294967296 ^ i * (4294967296 : Int) ^ i = 4294967296 ^ i * (y / 4294967296 ^ i) := Int.mul_comm _ _
    rw [Int.add_mul]; omega
  have e2 : (x + y) / 4294967296 ^ i = (x % 4294967296 ^ i + y % 4294967296 ^ i) / 4294967296 ^ i + (x / 4294967296 ^ i + y / 4294967296 ^ i) := by
    conv => lhs; rw [e]
    exact Int.add_mul_ediv_right _ _ (Int.ne_of_gt hp)
  rw [e2]
  omega
theorem carry_range (x y : Int) (i : Nat) : 0 ≤ carry x y i ∧ carry x y i ≤ 1 := by
  unfold carry
  have hp := p256 i
  have a := Int.emod_nonneg x (Int.ne_of_gt hp)
  have a' := Int.emod_lt_of_pos x hp
  have b := Int.emod_nonneg y (Int.ne_of_gt hp)
  have b' := Int.emod_lt_of_pos y hp
  refine ⟨Int.ediv_nonneg (by omega) (by omega), ?_⟩
  have : (x % 4294967296 ^ i + y % 4294967296 ^ i) / 4294967296 ^ i < 2 := Int.ediv_lt_of_lt_mul hp (by omega)
  omega
end Go.Proofs.YtcaihoomcdbfnaaGreat.wd

namespace Go.Proofs.YtcaihoomcdbfnaaGreat.wd
open Go.RowKit
set_option linter.unusedVariables false

/-- v needs n digits: none for nought. -/
def IsLen (v n : Nat) : Prop := v < 4294967296 ^ n ∧ (n = 0 ∨ 4294967296 ^ (n - 1) ≤ v)
theorem isLen_one {v n m : Nat} (h : IsLen v n) (h' : IsLen v m) : n = m := by
  obtain ⟨a, b⟩ := h
  obtain ⟨a', b'⟩ := h'
  rcases Nat.lt_trichotomy n m with e | e | e
  · rcases b' with b' | b'
    · omega
    · have := Nat.pow_le_pow_right (n := 4294967296) (by decide) (show n ≤ m - 1 by omega)
      omega
  · exact e
  · rcases b with b | b
    · omega
    · have := Nat.pow_le_pow_right (n := 4294967296) (by decide) (show m ≤ n - 1 by omega)
      omega
/-- A number below 4294967296^n has a length of n at most, and is found by cutting noughts off the end. -/
theorem isLen_cut : ∀ (n v : Nat), v < 4294967296 ^ n → ∃ m, m ≤ n ∧ IsLen v m
  | 0, v, h => ⟨0, Nat.le_refl _, h, Or.inl rfl⟩
  | n + 1, v, h => by
    by_cases c : v < 4294967296 ^ n
    · obtain ⟨m, h1, h2⟩ := isLen_cut n v c
      exact ⟨m, by omega, h2⟩
    · exact ⟨n + 1, Nat.le_refl _, h, Or.inr (by simp; omega)⟩
theorem lt_pow_self (v : Nat) : v < 4294967296 ^ v := Nat.lt_pow_self (by decide)
/-- How many digits v needs. -/
def nlen (v : Nat) : Nat := if h : v = 0 then 0 else nlen (v / 4294967296) + 1
  termination_by v
  decreasing_by exact Nat.div_lt_self (Nat.pos_of_ne_zero h) (by decide)
theorem nlen_is (v : Nat) : IsLen v (nlen v) := by
  induction v using Nat.strongRecOn with
  | ind v ih =>
    unfold nlen
    split
    · rename_i h
      rw [h]
      exact ⟨by decide, Or.inl rfl⟩
    · rename_i h
      obtain ⟨h1, h2⟩ := ih (v / 4294967296) (Nat.div_lt_self (Nat.pos_of_ne_zero h) (by decide))
      refine ⟨?_, Or.inr ?_⟩
      · rw [Nat.pow_succ]
        exact (Nat.div_lt_iff_lt_mul (by decide)).1 h1
      · rw [Nat.add_sub_cancel]
        rcases h2 with h2 | h2
        · rw [h2]
          exact Nat.pos_of_ne_zero h
        · rcases Nat.eq_zero_or_pos (nlen (v / 4294967296)) with h3 | h3
          · rw [h3]
            exact Nat.pos_of_ne_zero h
          · have h4 := (Nat.le_div_iff_mul_le (by decide)).1 h2
            rw [← Nat.pow_succ] at h4
            rwa [show (nlen (v / 4294967296) - 1).succ = nlen (v / 4294967296) by omega] at h4
theorem nlen_eq {v n : Nat} (h : IsLen v n) : nlen v = n := isLen_one (nlen_is v) h
theorem nlen_le {v n : Nat} (h : v < 4294967296 ^ n) : nlen v ≤ n := by
  obtain ⟨m, h1, h2⟩ := isLen_cut n v h
  rw [nlen_eq h2]; exact h1
theorem nlen_zero : nlen 0 = 0 := nlen_eq ⟨by decide, Or.inl rfl⟩
theorem nlen_lt (v : Nat) : v < 4294967296 ^ nlen v := (nlen_is v).1
theorem nlen_pos {v : Nat} (h : 0 < v) : 0 < nlen v := by
  rcases Nat.lt_or_ge 0 (nlen v) with l | l
  · exact l
  · have := nlen_lt v
    rw [show nlen v = 0 by omega] at this
    simp at this
    omega
/-- The longer number is the greater. -/
theorem lt_of_nlen {u v : Nat} (h : nlen u < nlen v) : u < v := by
  obtain ⟨_, b⟩ := nlen_is v
  rcases b with b | b
  · omega
  · have := nlen_lt u
    have := Nat.pow_le_pow_right (n := 4294967296) (by decide) (show nlen u ≤ nlen v - 1 by omega)
    omega
theorem pow_cast (k : Nat) : ((4294967296 ^ k : Nat) : Int) = (4294967296 : Int) ^ k := by rw [Int.natCast_pow]; rfl
theorem dg_nat (v k : Nat) : dg (v : Int) k = ((v / 4294967296 ^ k % 4294967296 : Nat) : Int) := by
  unfold dg
  rw [← pow_cast]
  omega
/-- The digit at a place that a number does not reach is nought; the highest one that it has is not. -/
theorem dg_over {v k : Nat} (h : v < 4294967296 ^ k) : dg (v : Int) k = 0 := by rw [dg_nat, Nat.div_eq_of_lt h]; rfl
theorem dg_top {v n : Nat} (h : IsLen v (n + 1)) : dg (v : Int) n ≠ 0 := by
  obtain ⟨a, b⟩ := h
  have b : 4294967296 ^ n ≤ v := by
    rcases b with b | b
    · omega
    · exact b
  rw [dg_nat]
  have h1 : 1 ≤ v / 4294967296 ^ n := (Nat.one_le_div_iff (Nat.pow_pos (by decide))).2 b
  have h2 : v / 4294967296 ^ n < 4294967296 := by
    rw [Nat.pow_succ] at a
    exact Nat.div_lt_of_lt_mul a
  rw [Nat.mod_eq_of_lt h2]
  omega
/-- One nought at the end cut off. -/
theorem lt_of_dg_zero {v n : Nat} (h : v < 4294967296 ^ (n + 1)) (z : dg (v : Int) n = 0) : v < 4294967296 ^ n := by
  rcases Nat.lt_or_ge v (4294967296 ^ n) with l | l
  · exact l
  · exact absurd z (dg_top ⟨h, Or.inr (by simpa using l)⟩)
/-- Two numbers of n digits with the same digits are the same. -/
theorem eq_of_dcells : ∀ (n : Nat) (u v : Nat), u < 4294967296 ^ n → v < 4294967296 ^ n → (∀ j, j < n → dg (u : Int) j = dg (v : Int) j) → u = v := by
  intro n
  induction n with
  | zero => intro u v hu hv _; simp at hu hv; omega
  | succ n ih =>
    intro u v hu hv h
    have e := ih (u % 4294967296 ^ n) (v % 4294967296 ^ n) (Nat.mod_lt _ (Nat.pow_pos (by decide))) (Nat.mod_lt _ (Nat.pow_pos (by decide))) (fun j hj => by
      have a : ∀ x : Nat, dg ((x % 4294967296 ^ n : Nat) : Int) j = dg (x : Int) j := fun x => by
        refine dg_congr (i := n) (-((x / 4294967296 ^ n : Nat) : Int)) ?_ hj
        have := Nat.mod_add_div x (4294967296 ^ n)
        rw [← pow_cast, Int.neg_mul, ← Int.natCast_mul, Nat.mul_comm (x / 4294967296 ^ n)]
        omega
      rw [a, a]
      exact h j (by omega))
    have t := h n (by omega)
    rw [dg_nat, dg_nat] at t
    have du : u / 4294967296 ^ n < 4294967296 := by rw [Nat.pow_succ] at hu; exact Nat.div_lt_of_lt_mul hu
    have dv : v / 4294967296 ^ n < 4294967296 := by rw [Nat.pow_succ] at hv; exact Nat.div_lt_of_lt_mul hv
    rw [Nat.mod_eq_of_lt du, Nat.mod_eq_of_lt dv] at t
    have t' : u / 4294967296 ^ n = v / 4294967296 ^ n := by omega
    have h1 := Nat.mod_add_div u (4294967296 ^ n)
    have h2 := Nat.mod_add_div v (4294967296 ^ n)
    rw [e, t'] at h1
    omega
end Go.Proofs.YtcaihoomcdbfnaaGreat.wd

namespace Go.Proofs.YtcaihoomcdbfnaaGreat.wd
open Go.RowKit
set_option linter.unusedVariables false

/-- The borrow, under a name. -/
def bor (x y : Int) : Int := if x < y then 1 else 0
/-- The borrow out of the places below i when y is taken off x. -/
def bw (x y : Int) (i : Nat) : Int := -((x % 4294967296 ^ i - y % 4294967296 ^ i) / 4294967296 ^ i)
theorem bw_zero (x y : Int) : bw x y 0 = 0 := by simp [bw, Int.emod_one]
theorem bw_sum (x y : Int) (i : Nat) : (x % 4294967296 ^ (i + 1) - y % 4294967296 ^ (i + 1)) / 4294967296 ^ i = dg x i - dg y i - bw x y i := by
  rw [emod_succ, emod_succ]
  unfold bw
  have e : dg x i * 4294967296 ^ i + x % 4294967296 ^ i - (dg y i * 4294967296 ^ i + y % 4294967296 ^ i) = (x % 4294967296 ^ i - y % 4294967296 ^ i) + (dg x i - dg y i) * 4294967296 ^ i := by rw [Int.sub_mul]; omega
  rw [e, Int.add_mul_ediv_right _ _ (Int.ne_of_gt (p256 i))]
  omega
theorem bw_range (x y : Int) (i : Nat) : 0 ≤ bw x y i ∧ bw x y i ≤ 1 := by
  unfold bw
  have hp := p256 i
  have a := Int.emod_nonneg x (Int.ne_of_gt hp)
  have a' := Int.emod_lt_of_pos x hp
  have b := Int.emod_nonneg y (Int.ne_of_gt hp)
  have b' := Int.emod_lt_of_pos y hp
  have h1 : (x % 4294967296 ^ i - y % 4294967296 ^ i) / 4294967296 ^ i < 1 := Int.ediv_lt_of_lt_mul hp (by omega)
  have h2 : -1 ≤ (x % 4294967296 ^ i - y % 4294967296 ^ i) / 4294967296 ^ i := Int.le_ediv_of_mul_le hp (by omega)
  omega
theorem bw_succ (x y : Int) (i : Nat) : bor (dg x i) (dg y i + bw x y i) = bw x y (i + 1) := by
  have e : bw x y (i + 1) = -((dg x i - dg y i - bw x y i) / 4294967296) := by
    rw [← bw_sum]
    show -((x % 4294967296 ^ (i + 1) - y % 4294967296 ^ (i + 1)) / 4294967296 ^ (i + 1)) = _
    have hp := p256 i
    rw [Int.pow_succ, Int.ediv_ediv, if_neg (by omega)]
    omega
  rw [e]
  have h := bw_range x y i
  have a := dg_range x i
  have b := dg_range y i
  unfold bor
  split <;> omega
theorem sub_digit (x y : Int) (i : Nat) : (dg x i - dg y i - bw x y i) % 4294967296 = dg (x - y) i := by
  unfold dg bw
  have hp := p256 i
  have h1 := Int.mul_ediv_add_emod x (4294967296 ^ i)
  have h2 := Int.mul_ediv_add_emod y (4294967296 ^ i)
  have e : x - y = (x % 4294967296 ^ i - y % 4294967296 ^ i) + (x / 4294967296 ^ i - y / 4294967296 ^ i) * 4294967296 ^ i := by
    have a1 : x / 4294967296 ^ i * (4294967296 : Int) ^ i = 4294967296 ^ i * (x / 4294967296 ^ i) := Int.mul_comm _ _
    have a2 : y / 4294967296 ^ i * (4294967296 : Int) ^ i = 4294967296 ^ i * (y / 4294967296 ^ i) := Int.mul_comm _ _
    rw [Int.sub_mul]; omega
  have e2 : (x - y) / 4294967296 ^ i = (x % 4294967296 ^ i - y % 4294967296 ^ i) / 4294967296 ^ i + (x / 4294967296 ^ i - y / 4294967296 ^ i) := by
    conv => lhs; rw [e]
    exact Int.add_mul_ediv_right _ _ (Int.ne_of_gt hp)
  rw [e2]
  omega
/-- Long division by d: what is left of the places from k + 1 on, and digit k, give digit k of the quotient, and what is left of the places from k on. -/
theorem long_div (v d : Int) (k : Nat) (hd : 0 < d) : (v / 4294967296 ^ (k + 1) % d * 4294967296 + dg v k) / d = v / 4294967296 ^ k / d - 4294967296 * (v / 4294967296 ^ (k + 1) / d) ∧ (v / 4294967296 ^ (k + 1) % d * 4294967296 + dg v k) % d = v / 4294967296 ^ k % d := by
  have hp := p256 k
  have e : v / 4294967296 ^ (k + 1) = v / 4294967296 ^ k / 4294967296 := by rw [Int.pow_succ, Int.ediv_ediv, if_neg (by omega)]; omega
  unfold dg
  rw [e]
  generalize v / 4294967296 ^ k = u
  have h1 : u / 4294967296 % d = u / 4294967296 - d * (u / 4294967296 / d) := by have := Int.mul_ediv_add_emod (u / 4294967296) d; omega
  have h2 : u / 4294967296 % d * 4294967296 + u % 4294967296 = u + (-(4294967296 * (u / 4294967296 / d))) * d := by
    rw [h1, Int.sub_mul, Int.neg_mul, Int.mul_comm d, Int.mul_assoc, Int.mul_comm d 4294967296, Int.mul_left_comm, Int.mul_assoc]
    omega
  rw [h2]
  refine ⟨?_, Int.add_mul_emod_self_right _ _ _⟩
  rw [Int.add_mul_ediv_right _ _ (by omega)]
  omega
end Go.Proofs.YtcaihoomcdbfnaaGreat.wd

namespace Go.Proofs.YtcaihoomcdbfnaaGreat.wd
set_option linter.unusedVariables false

/-- What stands below place i + k, and over it, when k digits of y have been taken times digit i of x. -/
def tk (O xi y : Int) (i k : Nat) : Int := O % 4294967296 ^ (i + k) + xi * 4294967296 ^ i * (y % 4294967296 ^ k)
def cy (O xi y : Int) (i k : Nat) : Int := tk O xi y i k / 4294967296 ^ (i + k)
theorem pow_ik (i k : Nat) : (4294967296 : Int) ^ (i + k) = 4294967296 ^ i * 4294967296 ^ k := Int.pow_add _ _ _
theorem tk_succ (O xi y : Int) (i k : Nat) : tk O xi y i (k + 1) = tk O xi y i k + (dg O (i + k) + xi * dg y k) * 4294967296 ^ (i + k) := by
  unfold tk
  rw [← Nat.add_assoc, emod_succ, emod_succ, Int.add_mul, Int.mul_add, pow_ik]
  have e : xi * 4294967296 ^ i * (dg y k * 4294967296 ^ k) = xi * dg y k * (4294967296 ^ i * 4294967296 ^ k) := by
    rw [Int.mul_assoc xi, Int.mul_left_comm (4294967296 ^ i) (dg y k), Int.mul_assoc xi (dg y k)]
  rw [e]; omega
theorem cy_sum (O xi y : Int) (i k : Nat) : tk O xi y i (k + 1) / 4294967296 ^ (i + k) = cy O xi y i k + dg O (i + k) + xi * dg y k := by
  rw [tk_succ, Int.add_mul_ediv_right _ _ (Int.ne_of_gt (p256 _))]; unfold cy; omega
theorem cy_succ (O xi y : Int) (i k : Nat) : cy O xi y i (k + 1) = (cy O xi y i k + dg O (i + k) + xi * dg y k) / 4294967296 := by
  rw [← cy_sum]
  show tk O xi y i (k + 1) / 4294967296 ^ (i + k + 1) = _
  have hp := p256 (i + k)
  rw [Int.pow_succ, Int.ediv_ediv, if_neg (by omega)]; omega
theorem mul_digit (O xi y : Int) (i k : Nat) : (cy O xi y i k + dg O (i + k) + xi * dg y k) % 4294967296 = dg (O + xi * 4294967296 ^ i * y) (i + k) := by
  rw [← cy_sum]
  show dg (tk O xi y i (k + 1)) (i + k) = _
  refine (dg_congr (i := i + k + 1) (O / 4294967296 ^ (i + k + 1) + xi * (y / 4294967296 ^ (k + 1))) ?_ (by omega)).symm
  unfold tk
  have h1 := Int.mul_ediv_add_emod O (4294967296 ^ (i + k + 1))
  have h2 := Int.mul_ediv_add_emod y (4294967296 ^ (k + 1))
  have e0 : i + (k + 1) = i + k + 1 := by omega
  rw [e0, Int.add_mul]
  have e1 : O / 4294967296 ^ (i + k + 1) * (4294967296 : Int) ^ (i + k + 1) = 4294967296 ^ (i + k + 1) * (O / 4294967296 ^ (i + k + 1)) := Int.mul_comm _ _
  have e2 : xi * (y / 4294967296 ^ (k + 1)) * (4294967296 : Int) ^ (i + k + 1) = xi * 4294967296 ^ i * (4294967296 ^ (k + 1) * (y / 4294967296 ^ (k + 1))) := by
    rw [← e0, pow_ik i (k + 1)]
    generalize (4294967296 : Int) ^ (k + 1) = K
    rw [Int.mul_assoc xi, Int.mul_assoc xi, Int.mul_left_comm (y / K) (4294967296 ^ i) K, Int.mul_comm (y / K) K]
  have e3 : xi * 4294967296 ^ i * y = xi * 4294967296 ^ i * (4294967296 ^ (k + 1) * (y / 4294967296 ^ (k + 1))) + xi * 4294967296 ^ i * (y % 4294967296 ^ (k + 1)) := by rw [← Int.mul_add, h2]
  rw [e1, e2, e3]; omega
theorem cy_zero (O xi y : Int) (i : Nat) : cy O xi y i 0 = 0 := by
  unfold cy tk
  have hp := p256 i
  have a := Int.emod_nonneg O (Int.ne_of_gt hp)
  have a' := Int.emod_lt_of_pos O hp
  have e : y % (4294967296 : Int) ^ 0 = 0 := by simp [Int.emod_one]
  rw [e]
  simp only [Nat.add_zero, Int.mul_zero, Int.add_zero]
  exact Int.ediv_eq_zero_of_lt a a'
theorem cy_range (O xi y : Int) (i k : Nat) (h0 : 0 ≤ xi) (h1 : xi < 4294967296) : 0 ≤ cy O xi y i k ∧ cy O xi y i k ≤ 4294967295 := by
  unfold cy tk
  have hp := p256 (i + k)
  have hi := p256 i
  have hk := p256 k
  have a := Int.emod_nonneg O (Int.ne_of_gt hp)
  have a' := Int.emod_lt_of_pos O hp
  have b := Int.emod_nonneg y (Int.ne_of_gt hk)
  have b' := Int.emod_lt_of_pos y hk
  have c : 0 ≤ xi * 4294967296 ^ i * (y % 4294967296 ^ k) := Int.mul_nonneg (Int.mul_nonneg h0 (Int.le_of_lt hi)) b
  have c' : xi * 4294967296 ^ i * (y % 4294967296 ^ k) ≤ 4294967295 * 4294967296 ^ (i + k) := by
    rw [pow_ik, ← Int.mul_assoc]
    exact Int.mul_le_mul (Int.mul_le_mul_of_nonneg_right (by omega) (Int.le_of_lt hi)) (by omega) b (Int.mul_nonneg (by decide) (Int.le_of_lt hi))
  refine ⟨Int.ediv_nonneg (by omega) (by omega), ?_⟩
  have : (O % 4294967296 ^ (i + k) + xi * 4294967296 ^ i * (y % 4294967296 ^ k)) / 4294967296 ^ (i + k) < 4294967296 := Int.ediv_lt_of_lt_mul hp (by omega)
  omega
theorem mul_next (x y : Int) (i : Nat) : x % 4294967296 ^ i * y + dg x i * 4294967296 ^ i * y = x % 4294967296 ^ (i + 1) * y := by rw [emod_succ, Int.add_mul]; omega
theorem mix_start (n i : Nat) (O xi y : Int) : mix n i (O + xi * 4294967296 ^ i * y) O = dcells n O := by
  rw [← mix_zero n O O]
  refine fill_congr fun j _ => ?_
  by_cases h : j < i
  · have e : dg (O + xi * 4294967296 ^ i * y) j = dg O j := dg_congr (i := i) (xi * y) (by rw [Int.mul_assoc, Int.mul_comm (4294967296 ^ i) y, ← Int.mul_assoc]) h
    simp [h, e]
  · simp [h]
end Go.Proofs.YtcaihoomcdbfnaaGreat.wd

namespace Go.Proofs.YtcaihoomcdbfnaaGreat.wd
open Go.RowKit
set_option linter.unusedVariables false

theorem dg_div (v : Int) (i j : Nat) : dg (v / 4294967296 ^ i) j = dg v (i + j) := by
  unfold dg
  have hp := p256 i
  rw [Int.pow_add, Int.ediv_ediv, if_neg (by omega)]
  omega
theorem dcells_take (n m : Nat) (v : Int) (h : m ≤ n) : (dcells n v).take m = dcells m v := by
  unfold dcells
  rw [← List.map_take, List.take_range, Nat.min_eq_left h]
theorem dcells_drop (n i : Nat) (v : Int) : (dcells n v).drop i = dcells (n - i) (v / 4294967296 ^ i) := by
  refine List.ext_getElem? fun j => ?_
  rw [List.getElem?_drop]
  by_cases h : i + j < n
  · rw [dcells_at _ _ _ h, dcells_at _ _ _ (by omega), dg_div]
  · rw [List.getElem?_eq_none (by rw [dcells_length]; omega), List.getElem?_eq_none (by rw [dcells_length]; omega)]
theorem dcells_join (n m : Nat) (u v : Int) : dcells n u ++ dcells m v = dcells (n + m) (u % 4294967296 ^ n + v * 4294967296 ^ n) := by
  refine List.ext_getElem? fun j => ?_
  by_cases h : j < n
  · rw [List.getElem?_append_left (by rw [dcells_length]; exact h), dcells_at _ _ _ h, dcells_at _ _ _ (by omega)]
    have h1 := Int.mul_ediv_add_emod u (4294967296 ^ n)
    rw [dg_congr (u := u) (v := u % 4294967296 ^ n + v * 4294967296 ^ n) (i := n) (u / 4294967296 ^ n - v) (by rw [Int.sub_mul]; have : u / 4294967296 ^ n * (4294967296 : Int) ^ n = 4294967296 ^ n * (u / 4294967296 ^ n) := Int.mul_comm _ _; omega) h]
  · rw [List.getElem?_append_right (by rw [dcells_length]; omega), dcells_length]
    by_cases h2 : j < n + m
    · rw [dcells_at _ _ _ (by omega), dcells_at _ _ _ h2]
      have hp := p256 n
      have a := Int.emod_nonneg u (Int.ne_of_gt hp)
      have a' := Int.emod_lt_of_pos u hp
      have e : (u % 4294967296 ^ n + v * 4294967296 ^ n) / 4294967296 ^ n = v := by
        rw [Int.add_mul_ediv_right _ _ (Int.ne_of_gt hp), Int.ediv_eq_zero_of_lt a a']; omega
      have := dg_div (u % 4294967296 ^ n + v * 4294967296 ^ n) n (j - n)
      rw [e, show n + (j - n) = j by omega] at this
      rw [this]
    · rw [List.getElem?_eq_none (by rw [dcells_length]; omega), List.getElem?_eq_none (by rw [dcells_length]; omega)]
theorem dcells_zero (n : Nat) : dcells n 0 = List.replicate n (.int .u32 0) := by
  refine List.ext_getElem? fun j => ?_
  by_cases h : j < n
  · rw [dcells_at _ _ _ h, List.getElem?_replicate, if_pos h]; simp [dg]
  · rw [List.getElem?_eq_none (by rw [dcells_length]; omega), List.getElem?_eq_none (by simp; omega)]
theorem dcells_succ (t : Nat) (a : Int) : dcells (t + 1) a = dcells t a ++ [.int .u32 (dg a t)] := by
  unfold dcells; rw [List.range_succ, List.map_append]; rfl
theorem nlen_eq_zero {u : Nat} : nlen u = 0 ↔ u = 0 := by
  refine ⟨fun h => ?_, fun h => by rw [h, nlen_zero]⟩
  have := nlen_lt u
  rw [h] at this
  simpa using this
/-- Two numbers, held against each other from the highest digit on. -/
theorem div_step (u k : Nat) : u / 4294967296 ^ k = 4294967296 * (u / 4294967296 ^ (k + 1)) + u / 4294967296 ^ k % 4294967296 := by
  rw [Nat.pow_succ, ← Nat.div_div_eq_div_mul]; omega
theorem lt_of_top {u v k : Nat} (h : u / 4294967296 ^ (k + 1) = v / 4294967296 ^ (k + 1)) (hd : dg (u : Int) k < dg (v : Int) k) : u < v := by
  rw [dg_nat, dg_nat] at hd
  have h1 := div_step u k
  have h2 := div_step v k
  rcases Nat.lt_or_ge u v with l | l
  · exact l
  · have := Nat.div_le_div_right (c := 4294967296 ^ k) l
    omega
theorem quot_digit (v d : Int) (k : Nat) (hd : 0 < d) : (v / 4294967296 ^ (k + 1) % d * 4294967296 + dg v k) / d = dg (v / d) k := by
  rw [(long_div v d k hd).1]
  have hp := p256 k
  have hp1 := p256 (k + 1)
  have e1 : v / d / 4294967296 ^ k = v / 4294967296 ^ k / d := by rw [Int.ediv_ediv, if_neg (by omega), Int.ediv_ediv, if_neg (by omega), Int.mul_comm]
  have e2 : v / d / 4294967296 ^ (k + 1) = v / 4294967296 ^ (k + 1) / d := by rw [Int.ediv_ediv, if_neg (by omega), Int.ediv_ediv, if_neg (by omega), Int.mul_comm]
  have e3 : ∀ x : Int, x / 4294967296 ^ (k + 1) = x / 4294967296 ^ k / 4294967296 := fun x => by rw [Int.pow_succ, Int.ediv_ediv, if_neg (by omega)]; omega
  unfold dg
  rw [← e2, e3, ← e1]
  omega
/-- Cells from place k on those of u, below it those of v. -/
def xim (n k : Nat) (u v : Int) : List Value := fill n (fun j => decide (k ≤ j)) u v
theorem xim_at (n k : Nat) (u v : Int) (i : Nat) (h : i < n) (hk : i < k) : (xim n k u v)[i]? = some (.int .u32 (dg v i)) := by
  rw [xim, fill_at _ _ _ _ _ h]; simp; omega
theorem xim_set (n k : Nat) (u v : Int) : (xim n (k + 1) u v).set k (.int .u32 (dg u k)) = xim n k u v := by
  unfold xim
  rw [fill_set]
  refine fill_congr fun j _ => ?_
  have : (decide (k + 1 ≤ j) || j == k) = decide (k ≤ j) := by rw [Bool.eq_iff_iff]; simp; omega
  rw [this]
theorem xim_full (n : Nat) (u v : Int) : xim n n u v = dcells n v := by
  unfold xim fill dcells
  refine List.map_congr_left fun j hj => ?_
  have : ¬ n ≤ j := by have : j < n := by simpa using hj
                       omega
  simp [this]
theorem xim_zero (n : Nat) (u v : Int) : xim n 0 u v = dcells n u := by unfold xim fill dcells; simp
theorem pow_nat (k : Nat) : 0 < 4294967296 ^ k := Nat.pow_pos (by decide)
end Go.Proofs.YtcaihoomcdbfnaaGreat.wd

namespace Go.Proofs.YtcaihoomcdbfnaaGreat
open Go.RowKit
set_option linter.unusedVariables false

/-- What is left of a slice when noughts at its end are cut off: nil where all is nought, else its first m. -/
def Cut (a : Option Addr) (l cap : Nat) (a' : Option Addr) (m cap' : Nat) : Prop := (m = 0 ∧ a' = none ∧ cap' = 0) ∨ (0 < m ∧ m ≤ l ∧ a' = a ∧ cap' = cap)
theorem Cut.sl {a a' : Option Addr} {l cap m cap' : Nat} {w : World} {u : Int} (h : Cut a l cap a' m cap') (hs : Sl w a l cap (wd.dcells l u)) : Sl w a' m cap' (wd.dcells m u) := by
  rcases h with ⟨rfl, rfl, rfl⟩ | ⟨h1, h2, rfl, rfl⟩
  · exact sl_nil w
  · obtain ⟨b, o, rfl, _, _⟩ := hs.at (by omega)
    have := hs.take h2
    rwa [wd.dcells_take _ _ _ h2] at this
theorem Cut.own {a a' : Option Addr} {l cap m cap' base : Nat} {T : TypeId} {w : World} {u : Int} (h : Cut a l cap a' m cap') (hs : Own w base T a l cap (wd.dcells l u)) : Own w base T a' m cap' (wd.dcells m u) := by
  rcases h with ⟨rfl, rfl, rfl⟩ | ⟨h1, h2, rfl, rfl⟩
  · exact World.ownsRow_nil _ _ _ _
  · have := Own.take hs h2
    rwa [wd.dcells_take _ _ _ h2] at this

set_option maxHeartbeats 400000 in
theorem strip_any (a : Option Addr) (l cap u : Nat) (w : World) (hs : Sl w a l cap (wd.dcells l (u : Int))) (hu : u < 4294967296 ^ l) :
    Calls Tryz.prog 89 #[.slice a l cap] w fun e w' => ∃ a' cap', e = .returned (.slice a' (wd.nlen u) cap') ∧ w = w' ∧ Cut a l cap a' (wd.nlen u) cap' := by
  have hcap := hs.big
  have hroom := hs.room
  unfold maxLen at hcap
  go_enter Tryz.func89, Tryz.ntmps89
  go_wp2
  go_loop [3] (fun i => ∃ k : Nat, k ≤ l ∧ u < 4294967296 ^ k ∧ i = .int .i64 (k : Int)) (fun i => (intOf i).toNat)
  case atStart => exact ⟨l, Nat.le_refl _, hu, rfl⟩
  case round =>
    obtain ⟨k, hk, huk, rfl⟩ := hrel
    rcases k with _ | k
    · have hz : Hid (wd.nlen u = 0) := wd.nlen_eq_zero.2 (by simpa using huk)
      go_wp2
      go_ret
      exact ⟨none, 0, by rw [hz.out]; rfl, rfl, Or.inl ⟨hz.out, rfl, rfl⟩⟩
    · obtain ⟨b, o, rfl, hb, hseg⟩ := hs.at (by omega)
      have c1 : w.cell? ⟨b, o + k, none⟩ = some (.int .u32 (wd.dg u k)) := hseg.cell k _ (wd.dcells_at _ _ _ (by omega))
      have e1 : ((k + 1 : Nat) : Int) - 1 = (k : Int) := by omega
      by_cases hd : wd.dg (u : Int) k = 0
      · have hd' : (wd.dg (u : Int) k == 0) = true := by rw [hd]; rfl
        have hn : u < 4294967296 ^ k := wd.lt_of_dg_zero huk hd
        have Hn : Hid _ := hn
        clear hd hn huk hu
        go_wp2
        go_round
        case rel => exact ⟨k, by omega, Hn.out, by go_num⟩
        case measure => simp [intOf]
      · have hd' : (wd.dg (u : Int) k == 0) = false := by simpa using hd
        have hl : wd.nlen u = k + 1 := by
          refine wd.nlen_eq ⟨huk, Or.inr ?_⟩
          rcases Nat.lt_or_ge u (4294967296 ^ k) with h | h
          · exact absurd (wd.dg_over h) hd
          · simpa using h
        have Hl : Hid _ := hl
        clear hd hl huk hu
        go_wp2
        go_ret
        exact ⟨_, cap, by rw [Hl.out]; rfl, rfl, Or.inr ⟨by rw [Hl.out]; omega, by rw [Hl.out]; omega, rfl, rfl⟩⟩

set_option maxHeartbeats 400000 in
theorem wordAt_any (a : Option Addr) (l cap u i : Nat) {iv : Int} (w : World) (hs : Sl w a l cap (wd.dcells l (u : Int))) (hu : u < 4294967296 ^ l) (hi : iv = (i : Int)) :
    Calls Tryz.prog 133 #[.slice a l cap, .int .i64 iv] w fun e w' => e = .returned (.int .u32 (wd.dg u i)) ∧ w = w' := by
  subst hi
  have hcap := hs.big
  have hroom := hs.room
  unfold maxLen at hcap
  by_cases h : i < l
  · obtain ⟨b, o, rfl, hb, hseg⟩ := hs.at (by omega)
    have c1 : w.cell? ⟨b, o + i, none⟩ = some (.int .u32 (wd.dg u i)) := hseg.cell i _ (wd.dcells_at _ _ _ (by omega))
    clear hu
    go_enter Tryz.func133, Tryz.ntmps133
    go_wp2
    go_ret
    exact ⟨rfl, rfl⟩
  · have hz : Hid (wd.dg (u : Int) i = 0) := wd.dg_over (Nat.lt_of_lt_of_le hu (Nat.pow_le_pow_right (by decide) (by omega)))
    clear hu
    go_enter Tryz.func133, Tryz.ntmps133
    go_wp2
    go_ret
    exact ⟨by rw [hz.out]; rfl, rfl⟩
end Go.Proofs.YtcaihoomcdbfnaaGreat

namespace Go.Proofs.YtcaihoomcdbfnaaGreat
open Go.RowKit
set_option linter.unusedVariables false

theorem infoWord : (Tryz.prog.info? 115).map (fun i => (i.zero, i.size, i.bytes)) = some (some (.int .u32 0), 1, 4) := by kernel_rfl
theorem infoInt : (Tryz.prog.info? 3).map (fun i => (i.zero, i.size, i.bytes)) = some (some (.int .i64 0), 1, 8) := by kernel_rfl

/-- append onto what one owns, whatever comes behind: nil, empty or not. -/
theorem append_any {P : Program} (w : World) {ops : Array Oper} {rest : List Oper} {o : Oper} {a : Act} {Q : Exit → Act → World → Prop} (hgd : o.guard = none) (s x : Operand) (t : TypeId)
    (ho : o.op = .call { callee := .builtin .append, args := #[s, x], argTypes := #[t, t] })
    (base : Nat) (e : TypeId) (i : TypeInfo) (z : Value) (bytes : Nat) (ht : P.underlying t = some (.slice e)) (hi : P.info? e = some i) (hz : i.zero = some z)
    (hsize : i.size = 1) (hby : i.bytes = bytes) (hzs : z.cells.size = 1)
    (a0 : Option Addr) (n0 c0 : Nat) (xs : List Value) (hs : a.eval s = .slice a0 n0 c0) (hown : Own w base e a0 n0 c0 xs)
    (ao : Option Addr) (m c : Nat) (news : List Value) (hx : a.eval x = .slice ao m c) (hsl : Sl w ao m c news) (h1 : ∀ u ∈ news, u.oneCell' = true)
    (h63 : n0 + m ≤ maxLen) (hbytes : (n0 + m) * bytes ≤ 140737488355328) (hbase : base ≤ w.heap.size)
    (h : ∀ a' cap' w', Own w' base e a' (n0 + m) cap' (xs ++ news) → w.grownBy w' (Value.slice a0 n0 c0).ownBlock → wpList P ops Q rest (a.put o.dst (.slice a' (n0 + m) cap')) w') : wpList P ops Q (o :: rest) a w := by
  cases ao with
  | none =>
    obtain ⟨rfl, rfl⟩ := hsl.nil rfl
    obtain rfl : news = [] := List.eq_nil_of_length_eq_zero hsl.len
    refine wpList_append_own_none hgd s x t ho base e i 1 ht hi _ n0 xs hs hown hx ?_
    exact h a0 c0 w (by simpa using hown) (World.grownBy.refl _ _)
  | some ad =>
    refine wpList_append_own w hgd s x t ho base e i z 1 bytes ht hi hz hsize hby hzs (by decide) _ n0 xs hs hown ad m c news hx (by rw [hsl.len]; omega) ?_ h1 h63 hbytes hbase ?_
    · intro j u hu
      have hj := (List.getElem?_eq_some_iff.1 hu).1
      obtain ⟨b, off, e1, hb, hseg⟩ := hsl.at (by have := hsl.len; omega)
      cases e1
      rw [Addr.add_lit]
      exact hseg.cell j u hu
    · intro v' w' h1 h2 _
      obtain ⟨a', cap', rfl, h3⟩ := Own.form h1
      exact h a' cap' w' h3 h2
theorem dcells_one (l : Nat) (u : Int) : ∀ v ∈ wd.dcells l u, v.oneCell' = true := by
  intro v hv
  unfold wd.dcells at hv
  simp only [List.mem_map] at hv
  obtain ⟨j, _, rfl⟩ := hv
  rfl
theorem Below.to {w w' : World} (h : w.grownBy w' none) : Below w.heap.size w w' := (Below.refl _ w).grown h (Nat.le_refl _) (fun k e => by cases e)

set_option maxHeartbeats 400000 in
theorem trim_any (a : Option Addr) (l cap u : Nat) (w : World) (hs : Sl w a l cap (wd.dcells l (u : Int))) (hu : u < 4294967296 ^ l) (hl : l ≤ 1000000000) :
    Calls Tryz.prog 97 #[.slice a l cap] w fun e w' => ∃ a' cap', e = .returned (.slice a' (wd.nlen u) cap') ∧ Own w' w.heap.size 115 a' (wd.nlen u) cap' (wd.dcells (wd.nlen u) u) ∧ Below w.heap.size w w' := by
  have hle := wd.nlen_le hu
  obtain ⟨i0, hi0, hz0, hz1, hz2⟩ := info_parts infoWord
  have hmax : wd.nlen u ≤ maxLen := by unfold maxLen; omega
  go_enter Tryz.func97, Tryz.ntmps97
  go_wp2_with (first
    | (go_at_call 89; refine (strip_any a l cap u _ hs hu).mono ?_; rintro e w' ⟨a1, cap1, rfl, hw, hcut⟩; subst hw)
    | (at_builtin; refine append_any _ rfl (.const (.slice none 0 0)) (.tmp 4) 25 rfl w.heap.size 115 i0 (.int .u32 0) 4 Tryz.underlying25 hi0 hz0 hz1 hz2 rfl none 0 0 [] rfl (World.ownsRow_nil _ _ _ _) a1 (wd.nlen u) cap1 (wd.dcells (wd.nlen u) u) rfl (hcut.sl hs) (dcells_one _ _) (by omega) (by omega) (Nat.le_refl _) ?_; intro a2 cap2 w2 hown hgrow))
  go_ret
  exact ⟨a2, cap2, rfl, by simpa using hown, Below.to hgrow⟩
end Go.Proofs.YtcaihoomcdbfnaaGreat

namespace Go.Proofs.YtcaihoomcdbfnaaGreat
open Go.RowKit
set_option linter.unusedVariables false

set_option maxHeartbeats 400000 in
theorem add32_any (x y c : Int) (w : World) (hx : 0 ≤ x) (hx' : x < 4294967296) (hy : 0 ≤ y) (hy' : y < 4294967296) (hc : 0 ≤ c) (hc' : c ≤ 1) :
    Calls Tryz.prog 138 #[.int .u32 x, .int .u32 y, .int .u32 c] w fun e w' => e = .returned (.tuple #[.int .u32 ((x + y + c) % 4294967296), .int .u32 ((x + y + c) / 4294967296)]) ∧ w = w' := by
  go_enter Tryz.func138, Tryz.ntmps138
  go_wp2
  go_ret2
  exact ⟨rfl, rfl⟩
theorem top_bit (x : Nat) (h : x < 4294967296) : x / 2147483648 = if x.testBit 31 then 1 else 0 := by
  rw [Nat.testBit_eq_decide_div_mod_eq]
  have : x / 2 ^ 31 < 2 := by omega
  by_cases e : x / 2 ^ 31 % 2 = 1
  · rw [if_pos (by simpa using e)]; omega
  · rw [if_neg (by simpa using e)]; omega
theorem top_yes (x : Nat) (h : x < 4294967296) : x.testBit 31 = decide (2147483648 ≤ x) := by
  rw [Nat.testBit_eq_decide_div_mod_eq, Bool.eq_iff_iff]
  simp only [decide_eq_true_eq]
  omega
theorem borrow_nat (x y d c : Nat) (hx : x < 4294967296) (hy : y < 4294967296) (hc : c ≤ 1) (hd : (d : Int) = ((x : Int) - y - c) % 4294967296) :
    (((4294967295 ^^^ x) &&& y) ||| ((4294967295 ^^^ (x ^^^ y)) &&& d)) / 2147483648 = if x < y + c then 1 else 0 := by
  have hd' : d < 4294967296 := by omega
  have h1 : (((4294967295 ^^^ x) &&& y) ||| ((4294967295 ^^^ (x ^^^ y)) &&& d)) < 2 ^ 32 := Nat.or_lt_two_pow (Nat.and_lt_two_pow _ (by omega)) (Nat.and_lt_two_pow _ (by omega))
  rw [top_bit _ (by omega)]
  simp only [Nat.testBit_or, Nat.testBit_and, Nat.testBit_xor, top_yes x hx, top_yes y hy, top_yes d hd', show (4294967295 : Nat).testBit 31 = true by decide]
  by_cases a : 2147483648 ≤ x <;> by_cases b : 2147483648 ≤ y <;> by_cases e : 2147483648 ≤ d <;> simp [a, b, e] <;> omega
theorem borrow_bits (x y c : Int) (hx : 0 ≤ x) (hx' : x < 4294967296) (hy : 0 ≤ y) (hy' : y < 4294967296) (hc : 0 ≤ c) (hc' : c ≤ 1) :
    bits BinOp.or IntKind.u32 (bits BinOp.and IntKind.u32 (bits BinOp.xor IntKind.u32 IntKind.u32.max x) y) (bits BinOp.and IntKind.u32 (bits BinOp.xor IntKind.u32 IntKind.u32.max (bits BinOp.xor IntKind.u32 x y)) ((x - y - c) % 4294967296)) / 2147483648 = wd.bor x (y + c) := by
  obtain ⟨X, rfl⟩ := Int.eq_ofNat_of_zero_le hx
  obtain ⟨Y, rfl⟩ := Int.eq_ofNat_of_zero_le hy
  obtain ⟨C, rfl⟩ := Int.eq_ofNat_of_zero_le hc
  obtain ⟨D, hD⟩ := Int.eq_ofNat_of_zero_le (show 0 ≤ ((X : Int) - Y - C) % 4294967296 by omega)
  have hDl : D < 4294967296 := by omega
  have l1 : X ^^^ Y < 2 ^ 32 := Nat.xor_lt_two_pow (by omega) (by omega)
  have l2 : 4294967295 ^^^ X < 2 ^ 32 := Nat.xor_lt_two_pow (by omega) (by omega)
  have l3 : 4294967295 ^^^ (X ^^^ Y) < 2 ^ 32 := Nat.xor_lt_two_pow (by omega) (by omega)
  have l4 : (4294967295 ^^^ X) &&& Y < 2 ^ 32 := Nat.and_lt_two_pow _ (by omega)
  have l5 : (4294967295 ^^^ (X ^^^ Y)) &&& D < 2 ^ 32 := Nat.and_lt_two_pow _ (by omega)
  have em : IntKind.u32.max = ((4294967295 : Nat) : Int) := by decide
  rw [hD, em, u32_xor_nat X Y (by omega) (by omega), u32_xor_nat 4294967295 X (by omega) (by omega), u32_xor_nat 4294967295 (X ^^^ Y) (by omega) (by omega), u32_and_nat _ Y (by omega) (by omega), u32_and_nat _ D (by omega) (by omega), u32_or_nat _ _ (by omega) (by omega)]
  have h := borrow_nat X Y D C (by omega) (by omega) (by omega) (by omega)
  unfold wd.bor
  have h2 : ((((4294967295 ^^^ X) &&& Y ||| (4294967295 ^^^ (X ^^^ Y)) &&& D : Nat) : Int)) / 2147483648 = (((((4294967295 ^^^ X) &&& Y ||| (4294967295 ^^^ (X ^^^ Y)) &&& D) / 2147483648 : Nat)) : Int) := by omega
  rw [h2, h]
  by_cases e : X < Y + C
  · rw [if_pos e, if_pos (by omega)]; rfl
  · rw [if_neg e, if_neg (by omega)]; rfl
set_option maxHeartbeats 400000 in
theorem sub32_any (x y c : Int) (w : World) (hx : 0 ≤ x) (hx' : x < 4294967296) (hy : 0 ≤ y) (hy' : y < 4294967296) (hc : 0 ≤ c) (hc' : c ≤ 1) :
    Calls Tryz.prog 137 #[.int .u32 x, .int .u32 y, .int .u32 c] w fun e w' => e = .returned (.tuple #[.int .u32 ((x - y - c) % 4294967296), .int .u32 (wd.bor x (y + c))]) ∧ w = w' := by
  have HB : Hid _ := borrow_bits x y c hx hx' hy hy' hc hc'
  go_enter Tryz.func137, Tryz.ntmps137
  go_wp2
  go_ret2
  exact ⟨by rw [← HB.out]; rfl, rfl⟩
theorem dcells_two (x : Nat) (h : x < 18446744073709551616) : wd.dcells 2 (x : Int) = [.int .u32 ((x : Int) % 4294967296), .int .u32 ((x : Int) / 4294967296)] := by
  simp [wd.dcells, List.range_succ, wd.dg]
  omega
theorem own_two (w : World) (x : Nat) (h : x < 18446744073709551616) : Own (w.alloc (.cells #[.int .u32 ((x : Int) % 4294967296), .int .u32 ((x : Int) / 4294967296)] 115)) w.heap.size 115 (some ⟨w.heap.size, 0, none⟩) 2 2 (wd.dcells 2 x) := by
  rw [dcells_two x h]
  exact World.ownsRow_lit w _ 2 (Nat.le_refl _) (by decide) rfl
set_option maxHeartbeats 400000 in
theorem of_any (x : Nat) (hx : x < 18446744073709551616) {xv : Int} (hxv : xv = (x : Int)) (w : World) :
    Calls Tryz.prog 54 #[.int .u64 xv] w fun e w' => ∃ a cap, e = .returned (.slice a (wd.nlen x) cap) ∧ Own w' w.heap.size 115 a (wd.nlen x) cap (wd.dcells (wd.nlen x) x) ∧ Below w.heap.size w w' := by
  subst hxv
  have h0 : (0 : Int) ≤ x := by omega
  have h1 : (x : Int) < 18446744073709551616 := by omega
  go_enter Tryz.func54, Tryz.ntmps54
  have hown := own_two w x hx
  go_wp2_with (go_at_call 89; refine (strip_any _ 2 2 x _ hown.sl (by simpa using hx)).mono ?_; rintro e w' ⟨a1, cap1, rfl, hw, hcut⟩; subst hw)
  go_ret
  exact ⟨a1, cap1, rfl, hcut.own hown, (Below.refl _ _).alloc (Nat.le_refl _) _⟩
end Go.Proofs.YtcaihoomcdbfnaaGreat

namespace Go.Proofs.YtcaihoomcdbfnaaGreat
open Go.RowKit
set_option linter.unusedVariables false

/-- make: so many noughts, in a block of one's own. -/
theorem make_any {P : Program} (w : World) {ops : Array Oper} {rest : List Oper} {o : Oper} {a : Act} {Q : Exit → Act → World → Prop}
    (hg : o.guard = none) (l c : Operand) (t : TypeId) (hop : o.op = Op.makeSlice t l c)
    (base : Nat) (e : TypeId) (i : TypeInfo) (z : Value) (h1 : P.underlying t = some (.slice e)) (h2 : P.info? e = some i) (h3 : i.zero = some z) (h4 : i.size = 1) (hz : z.cells = #[z])
    (kl kc : IntKind) (L C : Int) (n : Nat) (hl : a.eval l = .int kl L) (hc : a.eval c = .int kc C) (hL : L = (n : Int)) (hC : C = (n : Int)) (b2 : i.bytes * n ≤ 281474976710656) (b3 : n ≤ maxLen) (b4 : base ≤ w.heap.size)
    (hK : ∀ w', Own w' base e (some ⟨w.heap.size, 0, none⟩) n n (List.replicate n z) → Below w.heap.size w w' → wpList P ops Q rest (a.put o.dst (.slice (some ⟨w.heap.size, 0, none⟩) n n)) w') :
    wpList P ops Q (o :: rest) a w := by
  refine wpList_make_full w hg l c t hop base e i z 1 h1 h2 h3 h4 kl kc L C n hl hc hL hC b2 b3 b4 ?_
  intro w' h hgr
  rw [hz, Nat.mul_one, toList_madeCells_one] at h
  exact hK w' h (Below.to hgr)
theorem Own.set {w : World} {base b n cap i : Nat} {T : TypeId} {xs : List Value} (h : Own w base T (some ⟨b, 0, none⟩) n cap xs) (v : Value) (hi : i < n) : Own (w.setCell ⟨b, i, none⟩ v) base T (some ⟨b, 0, none⟩) n cap (xs.set i v) := by
  have hs := (seg_of_own h).1.set i v (by have := h.sl.len; omega)
  rw [Nat.zero_add] at hs
  exact ((Wr.refl w b 0 n).set v (Nat.zero_le _) hi).owned h (by rw [List.length_set]; exact h.sl.len) hs
theorem Own.cell {w : World} {base b n cap : Nat} {T : TypeId} {xs : List Value} (h : Own w base T (some ⟨b, 0, none⟩) n cap xs) (j : Nat) (v : Value) (hj : xs[j]? = some v) : w.cell? ⟨b, j, none⟩ = some v := by
  have := (seg_of_own h).1.cell j v hj
  rwa [Nat.zero_add] at this
theorem Own.free {w : World} {base b n cap : Nat} {T : TypeId} {xs : List Value} (h : Own w base T (some ⟨b, 0, none⟩) n cap xs) (j : Nat) (hj : j < n) : w.frozen? ⟨b, j, none⟩ = false := by
  have := (seg_of_own h).1.free j (by have := h.sl.len; omega)
  rwa [Nat.zero_add] at this

end Go.Proofs.YtcaihoomcdbfnaaGreat

namespace Go.Proofs.YtcaihoomcdbfnaaGreat
open Go.RowKit
set_option linter.unusedVariables false

/-- The carry into place k when x times y is added to O. -/
def tc (O x y : Int) (k : Nat) : Int := wd.cy O x y 0 k
theorem tc_zero (O x y : Int) : tc O x y 0 = 0 := wd.cy_zero _ _ _ _
theorem tc_succ (O x y : Int) (k : Nat) : tc O x y (k + 1) = (tc O x y k + wd.dg O k + x * wd.dg y k) / 4294967296 := by
  have := wd.cy_succ O x y 0 k
  rwa [Nat.zero_add] at this
theorem tc_digit (O x y : Int) (k : Nat) : (tc O x y k + wd.dg O k + x * wd.dg y k) % 4294967296 = wd.dg (O + x * y) k := by
  have := wd.mul_digit O x y 0 k
  rwa [Nat.zero_add, Int.pow_zero, Int.mul_one] at this
theorem tc_range (O x y : Int) (k : Nat) (h0 : 0 ≤ x) (h1 : x < 4294967296) : 0 ≤ tc O x y k ∧ tc O x y k ≤ 4294967295 := wd.cy_range _ _ _ _ _ h0 h1
theorem xdg (x y : Int) (k : Nat) (h0 : 0 ≤ x) (h1 : x < 4294967296) : 0 ≤ x * wd.dg y k ∧ x * wd.dg y k ≤ 18446744065119617025 := by
  obtain ⟨b, b'⟩ := wd.dg_range y k
  refine ⟨Int.mul_nonneg h0 b, ?_⟩
  have := Int.mul_le_mul (show x ≤ 4294967295 by omega) (show wd.dg y k ≤ 4294967295 by omega) b (by decide)
  omega

theorem seg_join {w : World} {b o k m : Nat} {V : Int} (h1 : Seg w b o (wd.dcells k V)) (h2 : Seg w b (o + k) (wd.dcells m (V / 4294967296 ^ k))) : Seg w b o (wd.dcells (k + m) V) := by
  have := h1.append (by rw [wd.dcells_length]; exact h2)
  rw [wd.dcells_join] at this
  have e : V % 4294967296 ^ k + V / 4294967296 ^ k * 4294967296 ^ k = V := by
    have := Int.mul_ediv_add_emod V (4294967296 ^ k)
    rw [Int.mul_comm] at this
    omega
  rwa [e] at this
theorem seg_part {w : World} {b o n : Nat} {V : Int} (h : Seg w b o (wd.dcells n V)) (k m : Nat) (hk : k + m ≤ n) : Seg w b (o + k) (wd.dcells m (V / 4294967296 ^ k)) := by
  have := (h.drop k).take m
  rwa [wd.dcells_drop, wd.dcells_take _ _ _ (by omega)] at this
theorem seg_head {w : World} {b o n : Nat} {V : Int} (h : Seg w b o (wd.dcells n V)) (m : Nat) (hk : m ≤ n) : Seg w b o (wd.dcells m V) := by
  have := h.take m
  rwa [wd.dcells_take _ _ _ hk] at this
theorem Cut.ne {a a' : Option Addr} {l cap m cap' : Nat} {w : World} {u : Int} (h : Cut a l cap a' m cap') (hs : Sl w a l cap (wd.dcells l u)) : ∀ o b, w.heap.size ≤ b → a' ≠ some ⟨b, o, none⟩ := by
  intro o b hb e
  rcases h with ⟨rfl, rfl, rfl⟩ | ⟨h1, h2, rfl, rfl⟩
  · cases e
  · obtain ⟨b', o', e', hlt, _⟩ := hs.at (by omega)
    rw [e'] at e
    cases e
    omega

end Go.Proofs.YtcaihoomcdbfnaaGreat

namespace Go.Proofs.YtcaihoomcdbfnaaGreat
open Go.RowKit
set_option linter.unusedVariables false

/-- Two words joined. -/
theorem join_bits (x y : Int) (hx : 0 ≤ x) (hx' : x < 4294967296) (hy : 0 ≤ y) (hy' : y < 4294967296) : bits BinOp.or IntKind.u64 (x * 4294967296) y = x * 4294967296 + y := by
  obtain ⟨X, rfl⟩ := Int.eq_ofNat_of_zero_le hx
  obtain ⟨Y, rfl⟩ := Int.eq_ofNat_of_zero_le hy
  rw [show (X : Int) * 4294967296 = ((X * 4294967296 : Nat) : Int) by omega, u64_or_nat _ _ (by omega) (by omega), nat_join 32 (X * 4294967296) Y (by omega) (by omega)]
  omega

/-- What holds at the head of each round. -/
def WordRel (w : World) (u : Nat) (d : Int) (b l cap base : Nat) (c i : Value) (wr : World) : Prop := ∃ r : Nat, r ≤ l ∧ i = .int .i64 ((r : Int) - 1) ∧ c = .int .u64 ((u : Int) / 4294967296 ^ r % d) ∧ Own wr base 115 (some ⟨b, 0, none⟩) l cap (wd.xim l r ((u : Int) / d) u) ∧ Wr w wr b 0 l
theorem word_next (w wr : World) (u : Nat) (d : Int) (b l cap base q : Nat) (hd : 0 < d) (hq : q < l) (hown : Own wr base 115 (some ⟨b, 0, none⟩) l cap (wd.xim l (q + 1) ((u : Int) / d) u)) (hw : Wr w wr b 0 l) :
    WordRel w u d b l cap base (.int .u64 (((u : Int) / 4294967296 ^ (q + 1) % d * 4294967296 + wd.dg u q) % d)) (.int .i64 ((q : Int) - 1)) (wr.setCell ⟨b, q, none⟩ (.int .u32 (((u : Int) / 4294967296 ^ (q + 1) % d * 4294967296 + wd.dg u q) / d))) := by
  refine ⟨q, by omega, rfl, by rw [(wd.long_div u d q hd).2], ?_, hw.set _ (Nat.zero_le _) hq⟩
  rw [wd.quot_digit _ _ _ hd, ← wd.xim_set]
  exact Own.set hown _ hq

set_option maxRecDepth 100000 in
set_option maxHeartbeats 1000000 in
theorem divWord_any (b l cap u base : Nat) (d : Int) (w : World) (hown : Own w base 115 (some ⟨b, 0, none⟩) l cap (wd.dcells l (u : Int))) (hu : u < 4294967296 ^ l) (hd : 0 < d) (hd' : d < 4294967296) :
    Calls Tryz.prog 118 #[.slice (some ⟨b, 0, none⟩) l cap, .int .u32 d] w fun e w' => e = .returned (.int .u32 ((u : Int) % d)) ∧ Own w' base 115 (some ⟨b, 0, none⟩) l cap (wd.dcells l ((u : Int) / d)) ∧ Wr w w' b 0 l := by
  have hcap := hown.sl.big
  have hroom := hown.sl.room
  unfold maxLen at hcap
  have HZ : Hid ((u : Int) / 4294967296 ^ l = 0) := Int.ediv_eq_zero_of_lt (by omega) (by rw [← wd.pow_cast]; omega)
  clear hu
  go_enter Tryz.func118, Tryz.ntmps118
  go_wp2
  go_loopw [5, 6] (fun c i wr => WordRel w u d b l cap base c i wr) (fun _ i _ => (intOf i + 1).toNat)
  case atStart => exact ⟨l, Nat.le_refl _, rfl, by rw [HZ.out]; simp, by rw [wd.xim_full]; exact hown, Wr.refl _ _ _ _⟩
  case round =>
    clear hown
    obtain ⟨r, hr, rfl, rfl, hown, hwr⟩ := hrel
    rcases r with _ | q
    · rw [wd.xim_zero] at hown
      have e0 : (u : Int) / 4294967296 ^ 0 = u := by simp
      have f0 : 0 ≤ (u : Int) % d := Int.emod_nonneg _ (by omega)
      have f1 : (u : Int) % d < 4294967296 := by have := Int.emod_lt_of_pos (u : Int) hd; omega
      rw [e0]
      go_wp2
      go_ret
      exact ⟨rfl, hown, hwr⟩
    · have c3 : wr.cell? ⟨b, q, none⟩ = some (.int .u32 (wd.dg u q)) := Own.cell hown q _ (wd.xim_at _ _ _ _ _ (by omega) (by omega))
      have c4 : wr.frozen? ⟨b, q, none⟩ = false := Own.free hown q (by omega)
      obtain ⟨d0, d1⟩ := wd.dg_range u q
      have HN : Hid _ := word_next w wr u d b l cap base q hd (by omega) hown hwr
      have r0 : 0 ≤ (u : Int) / 4294967296 ^ (q + 1) % d := Int.emod_nonneg _ (by omega)
      have r1 : (u : Int) / 4294967296 ^ (q + 1) % d < d := Int.emod_lt_of_pos _ hd
      obtain ⟨R, hR⟩ : ∃ R, (u : Int) / 4294967296 ^ (q + 1) % d = R := ⟨_, rfl⟩
      rw [hR] at r0 r1 HN ⊢
      clear hown hR
      have HB := join_bits R (wd.dg u q) r0 (by omega) d0 d1
      have q0 : 0 ≤ (R * 4294967296 + wd.dg u q) / d := Int.ediv_nonneg (by omega) (by omega)
      have q1 : (R * 4294967296 + wd.dg u q) / d < 4294967296 := Int.ediv_lt_of_lt_mul hd (by omega)
      have e1 : ((q + 1 : Nat) : Int) - 1 = (q : Int) := by omega
      go_wp2
      go_roundw
      case rel => exact HN.out
      case measure => simp [intOf]
end Go.Proofs.YtcaihoomcdbfnaaGreat

namespace Go.Proofs.YtcaihoomcdbfnaaGreat
open Go.RowKit
set_option linter.unusedVariables false

/-- The carry into place k of x times y. -/
def sc (x y : Int) (k : Nat) : Int := x * (y % 4294967296 ^ k) / 4294967296 ^ k
theorem sc_tc (x y : Int) (k : Nat) : sc x y k = tc 0 x y k := by
  unfold sc tc wd.cy wd.tk
  rw [Nat.zero_add, Int.pow_zero, Int.mul_one, Int.zero_emod, Int.zero_add]
theorem dg0 (k : Nat) : wd.dg 0 k = 0 := by simp [wd.dg]
theorem sc_zero (x y : Int) : sc x y 0 = 0 := by rw [sc_tc, tc_zero]
theorem sc_succ (x y : Int) (k : Nat) : sc x y (k + 1) = (sc x y k + x * wd.dg y k) / 4294967296 := by
  rw [sc_tc, sc_tc, tc_succ, dg0, Int.add_zero]
theorem sc_digit (x y : Int) (k : Nat) : (sc x y k + x * wd.dg y k) % 4294967296 = wd.dg (x * y) k := by
  have := tc_digit 0 x y k
  rwa [dg0, Int.add_zero, Int.zero_add, ← sc_tc] at this
theorem sc_range (x y : Int) (k : Nat) (h0 : 0 ≤ x) (h1 : x < 4294967296) : 0 ≤ sc x y k ∧ sc x y k ≤ 4294967295 := by
  rw [sc_tc]
  exact tc_range _ _ _ _ h0 h1
theorem sc_lt (x y : Int) (k : Nat) (h0 : 0 < x) : sc x y k < x := by
  unfold sc
  have hp := wd.p256 k
  refine Int.ediv_lt_of_lt_mul hp ?_
  exact Int.mul_lt_mul_of_pos_left (Int.emod_lt_of_pos _ hp) h0
theorem sc_last (x y : Int) (k : Nat) (y0 : 0 ≤ y) (y1 : y < 4294967296 ^ k) : sc x y k = x * y / 4294967296 ^ k := by
  unfold sc
  rw [Int.emod_eq_of_lt y0 y1]
theorem bw_last (x y : Int) (k : Nat) (x0 : 0 ≤ x) (x1 : x < 4294967296 ^ k) (y0 : 0 ≤ y) (y1 : y < 4294967296 ^ k) : wd.bw x y k = if x < y then 1 else 0 := by
  unfold wd.bw
  rw [Int.emod_eq_of_lt x0 x1, Int.emod_eq_of_lt y0 y1]
  have hp := wd.p256 k
  split
  · have : (x - y) / 4294967296 ^ k = -1 := by
      have h1 : (x - y + 4294967296 ^ k) / 4294967296 ^ k = 0 := Int.ediv_eq_zero_of_lt (by omega) (by omega)
      have h2 := Int.add_ediv_of_dvd_right (a := x - y) (Int.dvd_refl (4294967296 ^ k))
      rw [h1, Int.ediv_self (Int.ne_of_gt hp)] at h2
      omega
    omega
  · have : (x - y) / 4294967296 ^ k = 0 := Int.ediv_eq_zero_of_lt (by omega) (by omega)
    omega

/-- What holds at the head of each round of subTimes. -/
def STRel (w : World) (N x y : Int) (b o n : Nat) (c r i : Value) (wr : World) : Prop := ∃ k : Nat, k ≤ n ∧ i = .int .i64 (k : Int) ∧ c = .int .u64 (sc x y k) ∧ r = .int .u32 (wd.bw N (x * y) k) ∧ Seg wr b o (wd.mix (n + 1) k (N - x * y) N) ∧ Wr w wr b o (o + (n + 1))
theorem st_next (w wr : World) (N x y : Int) (b o n k : Nat) (hk : k < n) (hseg : Seg wr b o (wd.mix (n + 1) k (N - x * y) N)) (hw : Wr w wr b o (o + (n + 1))) :
    STRel w N x y b o n (.int .u64 ((sc x y k + x * wd.dg y k) / 4294967296)) (.int .u32 (wd.bor (wd.dg N k) ((sc x y k + x * wd.dg y k) % 4294967296 + wd.bw N (x * y) k))) (.int .i64 ((k : Int) + 1)) (wr.setCell ⟨b, o + k, none⟩ (.int .u32 ((wd.dg N k - (sc x y k + x * wd.dg y k) % 4294967296 - wd.bw N (x * y) k) % 4294967296))) := by
  refine ⟨k + 1, by omega, by simp, by rw [sc_succ], by rw [sc_digit, wd.bw_succ], ?_, hw.set _ (by omega) (by omega)⟩
  rw [sc_digit, wd.sub_digit, ← wd.mix_set]
  exact hseg.set k _ (by rw [wd.mix_length]; omega)
theorem st_last (w wr : World) (N x y : Int) (b o n : Nat) (hseg : Seg wr b o (wd.mix (n + 1) n (N - x * y) N)) (hw : Wr w wr b o (o + (n + 1))) (hl : sc x y n = wd.dg (x * y) n) :
    Seg (wr.setCell ⟨b, o + n, none⟩ (.int .u32 ((wd.dg N n - sc x y n - wd.bw N (x * y) n) % 4294967296))) b o (wd.dcells (n + 1) (N - x * y)) ∧ Wr w (wr.setCell ⟨b, o + n, none⟩ (.int .u32 ((wd.dg N n - sc x y n - wd.bw N (x * y) n) % 4294967296))) b o (o + (n + 1)) := by
  refine ⟨?_, hw.set _ (by omega) (by omega)⟩
  rw [hl, wd.sub_digit, ← wd.mix_full (n + 1) (N - x * y) N, ← wd.mix_set]
  exact hseg.set n _ (by rw [wd.mix_length]; omega)

set_option maxRecDepth 100000 in
set_option maxHeartbeats 1000000 in
theorem subTimes_any (b o n cs : Nat) (yb : Option Addr) (cy N D : Nat) (g : Int) (w : World) (hseg : Seg w b o (wd.dcells (n + 1) (N : Int))) (hN : N < 4294967296 ^ (n + 1)) (hcs : n + 1 ≤ cs) (hcs' : cs ≤ 1000000000000) (hy : Sl w yb n cy (wd.dcells n (D : Int))) (hD : D < 4294967296 ^ n) (hne : ∀ o, yb ≠ some ⟨b, o, none⟩) (g0 : 0 ≤ g) (g1 : g < 4294967296) :
    Calls Tryz.prog 135 #[.slice (some ⟨b, o, none⟩) (n + 1) cs, .slice yb n cy, .int .u32 g] w fun e w' => e = .returned (.bool (decide ((N : Int) < g * D))) ∧ Seg w' b o (wd.dcells (n + 1) ((N : Int) - g * D)) ∧ Wr w w' b o (o + (n + 1)) := by
  have hDc : (D : Int) < 4294967296 ^ n := by rw [← wd.pow_cast]; omega
  have hp := wd.p256 n
  have hX0 : 0 ≤ g * (D : Int) := Int.mul_nonneg g0 (by omega)
  have hX1 : g * (D : Int) < 4294967296 ^ (n + 1) := by
    have h1 : g * (D : Int) ≤ 4294967295 * (4294967296 ^ n - 1) := Int.mul_le_mul (by omega) (by omega) (by omega) (by omega)
    rw [Int.pow_succ]
    rw [Int.mul_sub] at h1
    omega
  have HL : Hid (sc g D n = wd.dg (g * D) n) := by
    unfold Hid wd.dg
    rw [sc_last _ _ _ (by omega) hDc, Int.emod_eq_of_lt (Int.ediv_nonneg hX0 (by omega)) (Int.ediv_lt_of_lt_mul hp (by rw [Int.pow_succ] at hX1; rw [Int.mul_comm 4294967296]; exact hX1))]
  have HB : Hid (wd.bor (wd.dg N n) (sc g D n + wd.bw N (g * D) n) = if (N : Int) < g * D then 1 else 0) := by
    unfold Hid
    rw [HL.out, wd.bw_succ]
    exact bw_last _ _ _ (by omega) (by rw [← wd.pow_cast]; omega) hX0 hX1
  have hcap := hy.big
  have hroom := hy.room
  unfold maxLen at hcap
  obtain ⟨m, hm⟩ : ∃ m, m = n + 1 := ⟨_, rfl⟩
  have HM : Hid _ := hm
  have hm1 : n < m := by omega
  have hm2 : m ≤ cs := by omega
  have HG : Hid (Seg w b o (wd.dcells (n + 1) (N : Int))) := hseg
  clear hseg hX0 hX1 hp hDc
  rw [← hm]
  clear hm hcs
  go_enter Tryz.func135, Tryz.ntmps135
  go_wp2
  go_loopw [7, 8, 14] (fun c r i wr => STRel w N g D b o n c r i wr) (fun _ _ i _ => n - (intOf i).toNat)
  case atStart => exact ⟨0, by omega, rfl, by rw [sc_zero], by rw [wd.bw_zero], by rw [wd.mix_zero]; exact HG.out, Wr.refl _ _ _ _⟩
  case round =>
    obtain ⟨k, hk, rfl, rfl, rfl, hseg, hwr⟩ := hrel
    obtain ⟨f0, f1⟩ := sc_range g D k g0 g1
    obtain ⟨h0, h1⟩ := wd.bw_range N (g * D) k
    obtain ⟨d0, d1⟩ := wd.dg_range N k
    have c3 : wr.cell? ⟨b, o + k, none⟩ = some (.int .u32 (wd.dg N k)) := hseg.cell k _ (wd.mix_at _ _ _ _ _ (by omega) (Nat.le_refl _))
    have c4 : wr.frozen? ⟨b, o + k, none⟩ = false := hseg.free k (by rw [wd.mix_length]; omega)
    by_cases hlt : k < n
    · obtain ⟨by', oy, rfl, hby, hsy⟩ := hy.at (by omega)
      have hne' : by' ≠ b := fun e => hne oy (by rw [e])
      have c1 : wr.cell? ⟨by', oy + k, none⟩ = some (.int .u32 (wd.dg D k)) := (hwr.seg hsy hby hne').cell k _ (wd.dcells_at _ _ _ hlt)
      obtain ⟨e0, e1⟩ := wd.dg_range D k
      obtain ⟨i0, i1⟩ := xdg g D k g0 g1
      have HN : Hid _ := st_next w wr N g D b o n k hlt hseg hwr
      clear hseg
      have j0 : 0 ≤ (sc g D k + g * wd.dg D k) % 4294967296 := by omega
      have j1 : (sc g D k + g * wd.dg D k) % 4294967296 < 4294967296 := by omega
      go_wp2_with (go_at_call 137; refine (sub32_any _ _ _ _ d0 d1 j0 j1 h0 h1).mono ?_; rintro e w' ⟨rfl, hw⟩; subst hw)
      go_roundw
      case rel => exact HN.out
      case measure => simp [intOf]; omega
    · obtain rfl : k = n := by omega
      have hl := st_last w wr N g D b o k hseg hwr HL.out
      have HS : Hid _ := hl
      clear hseg hl
      have fe : sc g D k % 4294967296 = sc g D k := by omega
      go_wp2_with (go_at_call 137; refine (sub32_any _ _ _ _ d0 d1 (by omega) (by omega) h0 h1).mono ?_; rintro e w' ⟨rfl, hw⟩; subst hw)
      go_ret
      rw [HM.out]
      refine ⟨?_, HS.out.1, HS.out.2⟩
      rw [HB.out]
      by_cases q : (N : Int) < g * D
      · simp [q]
      · simp [q]

/-- What holds at the head of each round of addBack. -/
def ABRel (w : World) (M y : Int) (b o n : Nat) (c i : Value) (wr : World) : Prop := ∃ k : Nat, k ≤ n ∧ i = .int .i64 (k : Int) ∧ c = .int .u32 (wd.carry M y k) ∧ Seg wr b o (wd.mix (n + 1) k (M + y) M) ∧ Wr w wr b o (o + (n + 1))
theorem ab_next (w wr : World) (M y : Int) (b o n k : Nat) (hk : k < n) (hseg : Seg wr b o (wd.mix (n + 1) k (M + y) M)) (hw : Wr w wr b o (o + (n + 1))) :
    ABRel w M y b o n (.int .u32 ((wd.dg M k + wd.dg y k + wd.carry M y k) / 4294967296)) (.int .i64 ((k : Int) + 1)) (wr.setCell ⟨b, o + k, none⟩ (.int .u32 ((wd.dg M k + wd.dg y k + wd.carry M y k) % 4294967296))) := by
  have e : wd.dg M k + wd.dg y k + wd.carry M y k = wd.carry M y k + wd.dg M k + wd.dg y k := by omega
  refine ⟨k + 1, by omega, by simp, by rw [e, wd.carry_succ], ?_, hw.set _ (by omega) (by omega)⟩
  rw [e, wd.add_digit, ← wd.mix_set]
  exact hseg.set k _ (by rw [wd.mix_length]; omega)
theorem ab_last (w wr : World) (M y : Int) (b o n : Nat) (hseg : Seg wr b o (wd.mix (n + 1) n (M + y) M)) (hw : Wr w wr b o (o + (n + 1))) (hl : wd.dg y n = 0) :
    Seg (wr.setCell ⟨b, o + n, none⟩ (.int .u32 ((wd.dg M n + wd.carry M y n) % 4294967296))) b o (wd.dcells (n + 1) (M + y)) ∧ Wr w (wr.setCell ⟨b, o + n, none⟩ (.int .u32 ((wd.dg M n + wd.carry M y n) % 4294967296))) b o (o + (n + 1)) := by
  refine ⟨?_, hw.set _ (by omega) (by omega)⟩
  have e : wd.dg M n + wd.carry M y n = wd.carry M y n + wd.dg M n + wd.dg y n := by omega
  rw [e, wd.add_digit, ← wd.mix_full (n + 1) (M + y) M, ← wd.mix_set]
  exact hseg.set n _ (by rw [wd.mix_length]; omega)

set_option maxRecDepth 100000 in
set_option maxHeartbeats 1000000 in
theorem addBack_any (b o n cs : Nat) (yb : Option Addr) (cy D : Nat) (M : Int) (w : World) (hseg : Seg w b o (wd.dcells (n + 1) M)) (hcs : n + 1 ≤ cs) (hcs' : cs ≤ 1000000000000) (hy : Sl w yb n cy (wd.dcells n (D : Int))) (hD : D < 4294967296 ^ n) (hne : ∀ o, yb ≠ some ⟨b, o, none⟩) :
    Calls Tryz.prog 136 #[.slice (some ⟨b, o, none⟩) (n + 1) cs, .slice yb n cy] w fun e w' => e = .returned (.tuple #[]) ∧ Seg w' b o (wd.dcells (n + 1) (M + D)) ∧ Wr w w' b o (o + (n + 1)) := by
  have HL : Hid (wd.dg (D : Int) n = 0) := by
    unfold Hid wd.dg
    rw [Int.ediv_eq_zero_of_lt (by omega) (by rw [← wd.pow_cast]; omega)]
    rfl
  have hcap := hy.big
  have hroom := hy.room
  unfold maxLen at hcap
  obtain ⟨m, hm⟩ : ∃ m, m = n + 1 := ⟨_, rfl⟩
  have HM : Hid _ := hm
  have hm1 : n < m := by omega
  have hm2 : m ≤ cs := by omega
  have HG : Hid (Seg w b o (wd.dcells (n + 1) M)) := hseg
  clear hseg
  rw [← hm]
  clear hm hcs
  go_enter Tryz.func136, Tryz.ntmps136
  go_wp2
  go_loopw [4, 9] (fun c i wr => ABRel w M D b o n c i wr) (fun _ i _ => n - (intOf i).toNat)
  case atStart => exact ⟨0, by omega, rfl, by rw [wd.carry_zero], by rw [wd.mix_zero]; exact HG.out, Wr.refl _ _ _ _⟩
  case round =>
    obtain ⟨k, hk, rfl, rfl, hseg, hwr⟩ := hrel
    obtain ⟨h0, h1⟩ := wd.carry_range M D k
    obtain ⟨d0, d1⟩ := wd.dg_range M k
    have c3 : wr.cell? ⟨b, o + k, none⟩ = some (.int .u32 (wd.dg M k)) := hseg.cell k _ (wd.mix_at _ _ _ _ _ (by omega) (Nat.le_refl _))
    have c4 : wr.frozen? ⟨b, o + k, none⟩ = false := hseg.free k (by rw [wd.mix_length]; omega)
    by_cases hlt : k < n
    · obtain ⟨by', oy, rfl, hby, hsy⟩ := hy.at (by omega)
      have hne' : by' ≠ b := fun e => hne oy (by rw [e])
      have c1 : wr.cell? ⟨by', oy + k, none⟩ = some (.int .u32 (wd.dg D k)) := (hwr.seg hsy hby hne').cell k _ (wd.dcells_at _ _ _ hlt)
      obtain ⟨e0, e1⟩ := wd.dg_range D k
      have HN : Hid _ := ab_next w wr M D b o n k hlt hseg hwr
      clear hseg
      go_wp2_with (go_at_call 138; refine (add32_any _ _ _ _ d0 d1 e0 e1 h0 h1).mono ?_; rintro e w' ⟨rfl, hw⟩; subst hw)
      go_roundw
      case rel => exact HN.out
      case measure => simp [intOf]; omega
    · obtain rfl : k = n := by omega
      have hl := ab_last w wr M D b o k hseg hwr HL.out
      have HS : Hid _ := hl
      clear hseg hl
      go_wp2
      go_end0
      rw [HM.out]
      exact ⟨rfl, HS.out.1, HS.out.2⟩
end Go.Proofs.YtcaihoomcdbfnaaGreat
