/-
  Slices in memory, wherever they begin in their block: what is read of them behind a store, a draw, a new block, a call. It imports nothing of the program.
-/
import Derived.Test.YteoepelmapjhcaaDoorMem
import Derived.WalkKit
import Derived.WalkSmall
import Derived.Laws.OwnMore
namespace Go.Proofs.YteoepelmapjhcaaDoor
open Go.RowKit
set_option linter.unusedVariables false

/-- Block b holds the values xs from offset o on, and none of these cells is frozen. -/
def Seg (w : World) (b o : Nat) (xs : List Value) : Prop := ∀ j v, xs[j]? = some v → w.cell? ⟨b, o + j, none⟩ = some v ∧ w.frozen? ⟨b, o + j, none⟩ = false
theorem Seg.cell {w : World} {b o : Nat} {xs : List Value} (h : Seg w b o xs) (j : Nat) (v : Value) (hj : xs[j]? = some v) : w.cell? ⟨b, o + j, none⟩ = some v := (h j v hj).1
theorem Seg.free {w : World} {b o : Nat} {xs : List Value} (h : Seg w b o xs) (j : Nat) (hj : j < xs.length) : w.frozen? ⟨b, o + j, none⟩ = false := (h j xs[j] (List.getElem?_eq_getElem hj)).2
theorem Seg.drewN {w : World} {b o : Nat} {xs : List Value} (h : Seg w b o xs) (n : Nat) : Seg (w.drewN n) b o xs := h
theorem Seg.drew {w : World} {b o : Nat} {xs : List Value} (h : Seg w b o xs) : Seg w.drew b o xs := h
theorem Seg.nil (w : World) (b o : Nat) : Seg w b o [] := by intro j v h; simp at h
theorem Seg.set {w : World} {b o : Nat} {xs : List Value} (h : Seg w b o xs) (i : Nat) (v : Value) (hi : i < xs.length) : Seg (w.setCell ⟨b, o + i, none⟩ v) b o (xs.set i v) := by
  intro j u hu
  rw [World.frozen?_setCell]
  by_cases e : i = j
  · subst e
    rw [List.getElem?_set_self hi] at hu
    simp only [Option.some.injEq] at hu
    subst hu
    exact ⟨World.cell?_setCell_same _ _ _ (h.cell i xs[i] (List.getElem?_eq_getElem hi)), h.free i hi⟩
  · rw [List.getElem?_set_ne e] at hu
    rw [World.cell?_setCell_other _ _ _ _ (by intro q; simp only [Addr.mk.injEq] at q; omega)]
    exact h j u hu
theorem Seg.other {w : World} {b c o i : Nat} {xs : List Value} (h : Seg w b o xs) (v : Value) (hc : c ≠ b) : Seg (w.setCell ⟨c, i, none⟩ v) b o xs := by
  intro j u hu
  rw [World.frozen?_setCell, World.cell?_setCell_other _ _ _ _ (by intro q; simp only [Addr.mk.injEq] at q; omega)]
  exact h j u hu
theorem Seg.block {w w' : World} {b o : Nat} {xs : List Value} (h : Seg w b o xs) (hb : w'.heap[b]? = w.heap[b]?) : Seg w' b o xs := by
  intro j u hu
  rw [World.cell?_of_block (w := w) (a := ⟨b, o + j, none⟩) hb, World.frozen?_of_block (w := w) (a := ⟨b, o + j, none⟩) hb]
  exact h j u hu
theorem Seg.below {w w' : World} {b o B : Nat} {xs : List Value} (h : Seg w b o xs) (hb : Below B w w') (hB : b < B) : Seg w' b o xs := h.block (hb.block b hB)
theorem Seg.take {w : World} {b o : Nat} {xs : List Value} (h : Seg w b o xs) (n : Nat) : Seg w b o (xs.take n) := by
  intro j u hu
  rw [List.getElem?_take] at hu
  split at hu
  · exact h j u hu
  · cases hu
theorem Seg.drop {w : World} {b o : Nat} {xs : List Value} (h : Seg w b o xs) (n : Nat) : Seg w b (o + n) (xs.drop n) := by
  intro j u hu
  rw [List.getElem?_drop] at hu
  have := h (n + j) u hu
  rwa [show o + n + j = o + (n + j) by omega]
theorem Seg.append {w : World} {b o : Nat} {xs ys : List Value} (h : Seg w b o xs) (k : Seg w b (o + xs.length) ys) : Seg w b o (xs ++ ys) := by
  intro j u hu
  by_cases e : j < xs.length
  · rw [List.getElem?_append_left e] at hu
    exact h j u hu
  · rw [List.getElem?_append_right (by omega)] at hu
    have := k _ u hu
    rwa [show o + xs.length + (j - xs.length) = o + j by omega] at this
theorem Row.seg {w : World} {b : Nat} {xs : List Value} (h : Row w b xs) : Seg w b 0 xs := by
  intro j u hu
  rw [Nat.zero_add]
  exact h j u hu

/-- The slice (a, n, cap) holds the values xs. -/
structure Sl (w : World) (a : Option Addr) (n cap : Nat) (xs : List Value) : Prop where
  len : xs.length = n
  room : n ≤ cap
  big : cap ≤ maxLen
  nil : a = none → n = 0 ∧ cap = 0
  seg : n = 0 ∨ ∃ b o, a = some ⟨b, o, none⟩ ∧ b < w.heap.size ∧ Seg w b o xs
theorem Sl.below {w w' : World} {a : Option Addr} {n cap : Nat} {xs : List Value} (h : Sl w a n cap xs) (hb : Below w.heap.size w w') : Sl w' a n cap xs := by
  refine ⟨h.len, h.room, h.big, h.nil, h.seg.imp id ?_⟩
  rintro ⟨b, o, e, hlt, hs⟩
  exact ⟨b, o, e, Nat.lt_of_lt_of_le hlt hb.size, hs.below hb hlt⟩
/-- Where a slice has an element k, its address is known. -/
theorem Sl.at {w : World} {a : Option Addr} {n cap : Nat} {xs : List Value} (h : Sl w a n cap xs) (hn : 0 < n) : ∃ b o, a = some ⟨b, o, none⟩ ∧ b < w.heap.size ∧ Seg w b o xs := h.seg.resolve_left (by omega)
theorem Sl.take {w : World} {b o n cap m : Nat} {xs : List Value} (h : Sl w (some ⟨b, o, none⟩) n cap xs) (hm : m ≤ n) : Sl w (some ⟨b, o, none⟩) m cap (xs.take m) := by
  refine ⟨by rw [List.length_take, h.len]; omega, by have := h.room; omega, h.big, (by intro e; cases e), ?_⟩
  rcases Nat.eq_zero_or_pos m with e | e
  · exact Or.inl e
  · obtain ⟨b', o', e1, h1, h2⟩ := h.at (by omega)
    cases e1
    exact Or.inr ⟨b, o, rfl, h1, h2.take m⟩
theorem sl_nil (w : World) : Sl w none 0 0 [] := ⟨rfl, Nat.le_refl _, Nat.zero_le _, fun _ => ⟨rfl, rfl⟩, Or.inl rfl⟩

/-- A slice in memory of the call's own, from base on. -/
abbrev Own (w : World) (base : Nat) (T : TypeId) (a : Option Addr) (n cap : Nat) (xs : List Value) : Prop := w.ownsRow base T 1 (.slice a n cap) n xs
theorem Own.sl {w : World} {base n cap : Nat} {T : TypeId} {a : Option Addr} {xs : List Value} (h : Own w base T a n cap xs) : Sl w a n cap xs := by
  obtain ⟨hl, ⟨h1, h2⟩ | ⟨g, cap', cur, hv, hb, hg, h1, h2, h3, h4⟩⟩ := h
  · cases h1
    refine ⟨by omega, Nat.le_refl _, Nat.zero_le _, fun _ => ⟨rfl, rfl⟩, Or.inl rfl⟩
  · cases hv
    refine ⟨by omega, h1, h2, (by intro e; cases e), Or.inr ⟨g, 0, rfl, (Array.getElem?_eq_some_iff.1 hg).1, ?_⟩⟩
    intro j u hu
    have hj : j < n := by
      have := (List.getElem?_eq_some_iff.1 hu).1
      omega
    rw [← h4, Nat.mul_one, List.getElem?_take, if_pos hj] at hu
    refine ⟨by simp [World.cell?, hg]; simpa using hu, by simp [World.frozen?, hg]⟩
theorem Own.form {w : World} {base n : Nat} {T : TypeId} {v : Value} {xs : List Value} (h : w.ownsRow base T 1 v n xs) : ∃ a cap, v = .slice a n cap ∧ Own w base T a n cap xs := by
  obtain ⟨hl, ⟨h1, h2⟩ | ⟨g, cap', cur, hv, hb, hg, h1, h2, h3, h4⟩⟩ := h
  · subst h1 h2
    exact ⟨none, 0, rfl, hl, Or.inl ⟨rfl, rfl⟩⟩
  · subst hv
    exact ⟨_, _, rfl, hl, Or.inr ⟨g, cap', cur, rfl, hb, hg, h1, h2, h3, h4⟩⟩
theorem Own.mono {w : World} {base base' n cap : Nat} {T : TypeId} {a : Option Addr} {xs : List Value} (h : Own w base T a n cap xs) (hb : base' ≤ base) : Own w base' T a n cap xs := by
  obtain ⟨hl, h1 | ⟨g, cap', cur, hv, hb', r⟩⟩ := h
  · exact ⟨hl, Or.inl h1⟩
  · exact ⟨hl, Or.inr ⟨g, cap', cur, hv, by omega, r⟩⟩
theorem Own.below {w w' : World} {base n cap : Nat} {T : TypeId} {a : Option Addr} {xs : List Value} (h : Own w base T a n cap xs) (hb : Below w.heap.size w w') : Own w' base T a n cap xs := by
  obtain ⟨hl, h1 | ⟨g, cap', cur, hv, hb', hg, r⟩⟩ := h
  · exact ⟨hl, Or.inl h1⟩
  · exact ⟨hl, Or.inr ⟨g, cap', cur, hv, hb', by rw [hb.block g (Array.getElem?_eq_some_iff.1 hg).1]; exact hg, r⟩⟩
/-- Cut at its end. -/
theorem Own.take {w : World} {base n cap m : Nat} {T : TypeId} {a : Option Addr} {xs : List Value} (h : Own w base T a n cap xs) (hm : m ≤ n) : Own w base T a m cap (xs.take m) := by
  obtain ⟨hl, ⟨h1, h2⟩ | ⟨g, cap', cur, hv, hb', hg, h1, h2, h3, h4⟩⟩ := h
  · subst h2
    obtain rfl : m = 0 := by omega
    cases h1
    exact ⟨by simp, Or.inl ⟨rfl, rfl⟩⟩
  · cases hv
    refine ⟨by rw [List.length_take, hl]; omega, Or.inr ⟨g, cap, cur, rfl, hb', hg, by omega, h2, h3, ?_⟩⟩
    rw [← h4, List.take_take, Nat.mul_one, Nat.mul_one, Nat.min_eq_left hm]
theorem Own.at {w : World} {base n cap : Nat} {T : TypeId} {a : Option Addr} {xs : List Value} (h : Own w base T a n cap xs) (hn : 0 < n) : ∃ b, a = some ⟨b, 0, none⟩ ∧ b < w.heap.size ∧ base ≤ b ∧ Seg w b 0 xs := by
  obtain ⟨b, o, e, h1, h2⟩ := h.sl.at hn
  subst e
  obtain ⟨hl, ⟨h1', _⟩ | ⟨g, cap', cur, hv, hb', r⟩⟩ := h
  · cases h1'
  · cases hv
    exact ⟨b, rfl, h1, hb', h2⟩

/-- w' is w but for new blocks and for the cells of block b from lo on, ahead of hi. -/
structure Wr (w w' : World) (b lo hi : Nat) : Prop where
  grown : w.grownBy w' (some b)
  cells : ∀ c t f, w.heap[b]? = some (.cells c t f) → ∃ c', w'.heap[b]? = some (.cells c' t f) ∧ c'.size = c.size ∧ ∀ o, (o < lo ∨ hi ≤ o) → c'[o]? = c[o]?
theorem Wr.refl (w : World) (b lo hi : Nat) : Wr w w b lo hi := ⟨World.grownBy.refl _ _, fun c t f h => ⟨c, h, rfl, fun _ _ => rfl⟩⟩
theorem Wr.trans {w w' w'' : World} {b lo hi : Nat} (h : Wr w w' b lo hi) (k : Wr w' w'' b lo hi) : Wr w w'' b lo hi := by
  refine ⟨⟨k.grown.os.trans h.grown.os, k.grown.tape.trans h.grown.tape, k.grown.output.trans h.grown.output, Nat.le_trans h.grown.size k.grown.size, fun i hi hne => (k.grown.block i (Nat.lt_of_lt_of_le hi h.grown.size) hne).trans (h.grown.block i hi hne)⟩, fun c t f hc => ?_⟩
  obtain ⟨c1, e1, s1, o1⟩ := h.cells c t f hc
  obtain ⟨c2, e2, s2, o2⟩ := k.cells c1 t f e1
  exact ⟨c2, e2, s2.trans s1, fun o ho => (o2 o ho).trans (o1 o ho)⟩
theorem Wr.mono {w w' : World} {b lo hi lo' hi' : Nat} (h : Wr w w' b lo hi) (h1 : lo' ≤ lo) (h2 : hi ≤ hi') : Wr w w' b lo' hi' :=
  ⟨h.grown, fun c t f hc => by obtain ⟨c1, e1, s1, o1⟩ := h.cells c t f hc; exact ⟨c1, e1, s1, fun o ho => o1 o (by omega)⟩⟩
theorem Wr.drewN {w w' : World} {b lo hi : Nat} (h : Wr w w' b lo hi) (n : Nat) : Wr w (w'.drewN n) b lo hi := ⟨⟨h.grown.os, h.grown.tape, h.grown.output, h.grown.size, h.grown.block⟩, h.cells⟩
theorem Wr.drew {w w' : World} {b lo hi : Nat} (h : Wr w w' b lo hi) : Wr w w'.drew b lo hi := ⟨⟨h.grown.os, h.grown.tape, h.grown.output, h.grown.size, h.grown.block⟩, h.cells⟩
theorem Wr.set {w w' : World} {b lo hi i : Nat} (h : Wr w w' b lo hi) (v : Value) (h1 : lo ≤ i) (h2 : i < hi) : Wr w (w'.setCell ⟨b, i, none⟩ v) b lo hi := by
  refine h.trans ⟨⟨rfl, rfl, rfl, by simp, fun k hk hne => Below.heap_setCell _ _ _ _ (by simpa using hne)⟩, fun c t f hc => ?_⟩
  refine ⟨c.setIfInBounds i v, ?_, by simp, fun o ho => ?_⟩
  · simp [World.setCell, Array.getElem?_modify, hc]
  · rw [Array.getElem?_setIfInBounds_ne (by omega)]
/-- A call that leaves old memory alone. -/
theorem Wr.below {w w' w'' : World} {b lo hi : Nat} (h : Wr w w' b lo hi) (hb : Below w'.heap.size w' w'') (hlt : b < w.heap.size) : Wr w w'' b lo hi := by
  refine h.trans ⟨⟨hb.os, hb.tape, hb.output, hb.size, fun k hk _ => hb.block k hk⟩, fun c t f hc => ⟨c, ?_, rfl, fun _ _ => rfl⟩⟩
  rw [hb.block b (Nat.lt_of_lt_of_le hlt h.grown.size)]
  exact hc
theorem Wr.to_below {w w' : World} {b lo hi B : Nat} (h : Wr w w' b lo hi) (hB : B ≤ b) (hs : B ≤ w.heap.size) : Below B w w' :=
  ⟨h.grown.os, h.grown.tape, h.grown.output, h.grown.size, fun k hk => h.grown.block k (by omega) (by simp; omega)⟩
theorem Wr.after {w0 w w' : World} {b lo hi B : Nat} (h : Wr w w' b lo hi) (h0 : Below B w0 w) (hB : B ≤ b) (hs : B ≤ w0.heap.size) : Below B w0 w' :=
  h0.trans (h.to_below hB (Nat.le_trans hs h0.size))
/-- Another block's cells stay. -/
theorem Wr.seg {w w' : World} {b lo hi c o : Nat} {xs : List Value} (h : Wr w w' b lo hi) (hs : Seg w c o xs) (hlt : c < w.heap.size) (hne : c ≠ b) : Seg w' c o xs :=
  hs.block (h.grown.block c hlt (by simpa using hne))
/-- The same block's cells outside what was written stay. -/
theorem Wr.out {w w' : World} {b lo hi o : Nat} {xs : List Value} (h : Wr w w' b lo hi) (hs : Seg w b o xs) (hout : o + xs.length ≤ lo ∨ hi ≤ o) : Seg w' b o xs := by
  intro j u hu
  have hj := (List.getElem?_eq_some_iff.1 hu).1
  obtain ⟨h1, h2⟩ := hs j u hu
  unfold World.cell? at h1 ⊢
  unfold World.frozen? at h2 ⊢
  dsimp only at h1 h2 ⊢
  split at h1
  · rename_i c t f hc
    obtain ⟨c', e, s, ho⟩ := h.cells c t f hc
    rw [hc] at h2
    rw [e]
    simp only [Option.isSome_none, Bool.false_eq_true, if_false] at h1 ⊢
    exact ⟨by rw [ho _ (by omega)]; exact h1, h2⟩
  · cases h1
theorem Wr.sl {w w' : World} {b lo hi n cap : Nat} {a : Option Addr} {xs : List Value} (h : Wr w w' b lo hi) (hs : Sl w a n cap xs) (hne : ∀ o, a ≠ some ⟨b, o, none⟩) : Sl w' a n cap xs := by
  refine ⟨hs.len, hs.room, hs.big, hs.nil, hs.seg.imp id ?_⟩
  rintro ⟨c, o, e, hlt, hseg⟩
  exact ⟨c, o, e, Nat.lt_of_lt_of_le hlt h.grown.size, h.seg hseg hlt (fun e' => hne o (by rw [e, e']))⟩
theorem Wr.own {w w' : World} {b lo hi n cap base : Nat} {T : TypeId} {a : Option Addr} {xs : List Value} (h : Wr w w' b lo hi) (hs : Own w base T a n cap xs) (hne : ∀ o, a ≠ some ⟨b, o, none⟩) : Own w' base T a n cap xs := by
  obtain ⟨hl, h1 | ⟨g, cap', cur, hv, hb', hg, r⟩⟩ := hs
  · exact ⟨hl, Or.inl h1⟩
  · cases hv
    exact ⟨hl, Or.inr ⟨g, cap, cur, rfl, hb', by rw [h.grown.block g (Array.getElem?_eq_some_iff.1 hg).1 (fun e => hne 0 (by cases e; rfl))]; exact hg, r⟩⟩
/-- What one owns, written over. -/
theorem Wr.owned {w w' : World} {b lo hi n cap base : Nat} {T : TypeId} {xs ys : List Value} (h : Wr w w' b lo hi) (hs : Own w base T (some ⟨b, 0, none⟩) n cap xs) (hy : ys.length = n) (hseg : Seg w' b 0 ys) : Own w' base T (some ⟨b, 0, none⟩) n cap ys := by
  obtain ⟨hl, ⟨h1, _⟩ | ⟨g, cap', cur, hv, hb', hg, h1, h2, h3, h4⟩⟩ := hs
  · cases h1
  · cases hv
    obtain ⟨c', e, s, ho⟩ := h.cells _ _ _ hg
    refine ⟨by omega, Or.inr ⟨b, cap, c', rfl, hb', e, h1, h2, by omega, ?_⟩⟩
    refine List.ext_getElem? fun j => ?_
    rw [List.getElem?_take, Nat.mul_one]
    by_cases hj : j < n
    · rw [if_pos hj]
      have := (hseg j ys[j] (List.getElem?_eq_getElem (by omega))).1
      simp [World.cell?, e] at this
      rw [Array.getElem?_toList, this, List.getElem?_eq_getElem (by omega)]
    · rw [if_neg hj, List.getElem?_eq_none (by omega)]
/-- What was made just now: so many noughts. -/
theorem seg_of_own {w : World} {base b n cap : Nat} {T : TypeId} {xs : List Value} (h : Own w base T (some ⟨b, 0, none⟩) n cap xs) : Seg w b 0 xs ∧ b < w.heap.size ∧ base ≤ b := by
  obtain ⟨hl, ⟨h1, _⟩ | ⟨g, cap', cur, hv, hb', hg, h1, h2, h3, h4⟩⟩ := h
  · cases h1
  · cases hv
    refine ⟨?_, (Array.getElem?_eq_some_iff.1 hg).1, hb'⟩
    intro j u hu
    have hj := (List.getElem?_eq_some_iff.1 hu).1
    rw [← h4, Nat.mul_one, List.getElem?_take, if_pos (by omega)] at hu
    rw [Nat.zero_add]
    refine ⟨by simp [World.cell?, hg]; simpa using hu, by simp [World.frozen?, hg]⟩
end Go.Proofs.YteoepelmapjhcaaDoor
