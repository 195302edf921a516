/-
  Joined texts, part 1:
  Rows of values in one block of memory: what is read of them behind a store, a draw, a new block, a call that leaves old memory alone. It imports nothing of the program.
  Slices in memory, wherever they begin in their block: what is read of them behind a store, a draw, a new block, a call. It imports nothing of the program.
  What nat's Trim and Of answer; sums and differences of words.
  Numbers as digits to the base 65536: which digits a sum, a difference, a product has. It imports nothing of the program.
  How many digits a number needs, to the base 65536, and its digits without noughts at the end. It imports nothing of the program.
  A region whose order is open, an operation at a time: one that is wanted and yields in every world of interest, one that is not wanted, a call. It imports nothing of the program.
  slices.Backward over a nat: what a loop over it is handed.
  What nat's Cmp answers.
  Slices apart from a block, so that what is stored there leaves them as they are; and what nat answers, apart from all that was there before.
  Whole numbers in memory; what package whole's signed and plus answer.
  Points over a torus: which can be, where they lie, in which order. It imports nothing of the program.
  Areas, squares of distances, the circle's determinant: how great they are, what becomes of them when points are put for one another or moved. It imports nothing of the program.
  Which of two triangles is taken, where four points lie on a circle: the order of points, what does away with what, and that it is an order among the points to the left of an edge. It imports nothing of the program.
  Blocks of three and of four cells: what they hold, and that they can be written.
  Blocks of two to four cells, made one behind the other, and what they hold behind a store into another. It imports nothing of the program.
  What package whole's Small answers.
  What package lift's Can, Sum, Less, Cmp answer, and what they call.
  Plain arithmetic of numbers of two words: what word a sum, a difference and a product have. It imports nothing of the program.
  What package wide's smallest functions answer: a sum, a difference, a number with the other sign, as words.
  wide.Mul, Cmp, Sign, and the product whose text every law of this layer looks at.
  What package pred's can, area2, dist2, turn, Area2, Orient and Dist2 answer.
-/
import Derived.WalkKit
import Derived.WalkSmall
import Derived.Laws.OwnMore
import Derived.OwnWalk
import Derived.Laws.AppendOwnNone
import Derived.Test.YtkmgndaholglhaaRows
import Derived.WalkSpells
import Derived.Deep.QuietTactic
import Derived.BigQuiet
import Derived.RegionTactic
import Derived.ChangeAlike
import Derived.Deep.RegionHeld3
import Derived.RangeFuncNested
import Derived.RangeFuncBound
import Derived.RangeFuncCalls
import Derived.RangeFuncLeaves
import Derived.RangeFuncBox
import Derived.Shelf.Abstract
import Derived.Shelf.RegionOpen
import Derived.OwnWalkIn
import Derived.TacticsInMore
import Derived.LoopNIn
import Derived.LoopIn
import Derived.Laws.BitsAllLaws
import Derived.Deep.RegionWith
import Derived.Lib.ItoaNum
import Derived.Deep.AppendLies
import Derived.Lib.IndexBytes
import Derived.Laws.BytesArg
import Derived.Laws.Bits64b
import Derived.StillTactics
import Derived.Laws.Pointers
import Derived.Laws.Externs
import Derived.Shelf.Spec.BitsCarry
import Derived.RowKit3
namespace Go.Proofs.Ytkmgndaholglhaa
open Go.RowKit

/-- Block b holds the values xs from its head on, and none of these cells is frozen. -/
def Row (w : World) (b : Nat) (xs : List Value) : Prop := ∀ j v, xs[j]? = some v → w.cell? ⟨b, j, none⟩ = some v ∧ w.frozen? ⟨b, j, none⟩ = false
theorem Row.cell {w : World} {b : Nat} {xs : List Value} (h : Row w b xs) (j : Nat) (v : Value) (hj : xs[j]? = some v) : w.cell? ⟨b, j, none⟩ = some v := (h j v hj).1
theorem Row.free {w : World} {b : Nat} {xs : List Value} (h : Row w b xs) (j : Nat) (hj : j < xs.length) : w.frozen? ⟨b, j, none⟩ = false := (h j xs[j] (List.getElem?_eq_getElem hj)).2
theorem Row.drewN {w : World} {b : Nat} {xs : List Value} (h : Row w b xs) (n : Nat) : Row (w.drewN n) b xs := h
theorem Row.drew {w : World} {b : Nat} {xs : List Value} (h : Row w b xs) : Row w.drew b xs := h
theorem Row.set {w : World} {b : Nat} {xs : List Value} (h : Row w b xs) (i : Nat) (v : Value) (hi : i < xs.length) : Row (w.setCell ⟨b, i, none⟩ v) b (xs.set i v) := by
  intro j u hu
  rw [World.frozen?_setCell]
  by_cases e : i = j
  · subst e
    rw [List.getElem?_set_self hi] at hu
    simp only [Option.some.injEq] at hu
    subst hu
    exact ⟨World.cell?_setCell_same _ _ _ (h.cell i xs[i] (List.getElem?_eq_getElem hi)), h.free i hi⟩
  · rw [List.getElem?_set_ne e] at hu
    rw [World.cell?_setCell_other _ _ _ _ (by intro q; simp only [Addr.mk.injEq] at q; omega)]
    exact h j u hu
theorem Row.below {w w' : World} {b B : Nat} {xs : List Value} (h : Row w b xs) (hb : Below B w w') (hB : b < B) : Row w' b xs := by
  intro j u hu
  rw [hb.cell (p := ⟨b, j, none⟩) hB, hb.frozen (p := ⟨b, j, none⟩) hB]
  exact h j u hu
theorem Row.other {w : World} {b c i : Nat} {xs : List Value} (h : Row w b xs) (v : Value) (hc : c ≠ b) : Row (w.setCell ⟨c, i, none⟩ v) b xs := by
  intro j u hu
  rw [World.frozen?_setCell, World.cell?_setCell_other _ _ _ _ (by intro q; simp only [Addr.mk.injEq] at q; omega)]
  exact h j u hu
theorem Row.new (w : World) (xs : List Value) (t : TypeId) : Row (w.alloc (.cells xs.toArray t)) w.heap.size xs := by
  intro j u hu
  rw [World.cell?_alloc_new, World.frozen?_alloc_new]
  exact ⟨by simpa using hu, rfl⟩
theorem Row.alloc {w : World} {b : Nat} {xs : List Value} (h : Row w b xs) (o : Obj) (hb : b < w.heap.size) : Row (w.alloc o) b xs :=
  h.below (((Below.refl _ _).alloc (Nat.le_refl _) o)) hb
theorem bcell {W w1 : World} (hb : Below W.heap.size W w1) : (∀ b o, b < W.heap.size → w1.cell? ⟨b, o, none⟩ = W.cell? ⟨b, o, none⟩) ∧ (∀ b o, b < W.heap.size → w1.frozen? ⟨b, o, none⟩ = W.frozen? ⟨b, o, none⟩) :=
  ⟨fun b o h => hb.cell (p := ⟨b, o, none⟩) h, fun b o h => hb.frozen (p := ⟨b, o, none⟩) h⟩
end Go.Proofs.Ytkmgndaholglhaa

namespace Go.Proofs.Ytkmgndaholglhaa
open Go.RowKit
set_option linter.unusedVariables false

/-- Block b holds the values xs from offset o on, and none of these cells is frozen. -/
def Seg (w : World) (b o : Nat) (xs : List Value) : Prop := ∀ j v, xs[j]? = some v → w.cell? ⟨b, o + j, none⟩ = some v ∧ w.frozen? ⟨b, o + j, none⟩ = false
theorem Seg.cell {w : World} {b o : Nat} {xs : List Value} (h : Seg w b o xs) (j : Nat) (v : Value) (hj : xs[j]? = some v) : w.cell? ⟨b, o + j, none⟩ = some v := (h j v hj).1
theorem Seg.free {w : World} {b o : Nat} {xs : List Value} (h : Seg w b o xs) (j : Nat) (hj : j < xs.length) : w.frozen? ⟨b, o + j, none⟩ = false := (h j xs[j] (List.getElem?_eq_getElem hj)).2
theorem Seg.block {w w' : World} {b o : Nat} {xs : List Value} (h : Seg w b o xs) (hb : w'.heap[b]? = w.heap[b]?) : Seg w' b o xs := by
  intro j u hu
  rw [World.cell?_of_block (w := w) (a := ⟨b, o + j, none⟩) hb, World.frozen?_of_block (w := w) (a := ⟨b, o + j, none⟩) hb]
  exact h j u hu
theorem Seg.below {w w' : World} {b o B : Nat} {xs : List Value} (h : Seg w b o xs) (hb : Below B w w') (hB : b < B) : Seg w' b o xs := h.block (hb.block b hB)
theorem Seg.take {w : World} {b o : Nat} {xs : List Value} (h : Seg w b o xs) (n : Nat) : Seg w b o (xs.take n) := by
  intro j u hu
  rw [List.getElem?_take] at hu
  split at hu
  · exact h j u hu
  · cases hu
theorem Seg.drop {w : World} {b o : Nat} {xs : List Value} (h : Seg w b o xs) (n : Nat) : Seg w b (o + n) (xs.drop n) := by
  intro j u hu
  rw [List.getElem?_drop] at hu
  have := h (n + j) u hu
  rwa [show o + n + j = o + (n + j) by omega]
theorem Row.seg {w : World} {b : Nat} {xs : List Value} (h : Row w b xs) : Seg w b 0 xs := by
  intro j u hu
  rw [Nat.zero_add]
  exact h j u hu

/-- The slice (a, n, cap) holds the values xs. -/
structure Sl (w : World) (a : Option Addr) (n cap : Nat) (xs : List Value) : Prop where
  len : xs.length = n
  room : n ≤ cap
  big : cap ≤ maxLen
  nil : a = none → n = 0 ∧ cap = 0
  seg : n = 0 ∨ ∃ b o, a = some ⟨b, o, none⟩ ∧ b < w.heap.size ∧ Seg w b o xs
theorem Sl.below {w w' : World} {a : Option Addr} {n cap : Nat} {xs : List Value} (h : Sl w a n cap xs) (hb : Below w.heap.size w w') : Sl w' a n cap xs := by
  refine ⟨h.len, h.room, h.big, h.nil, h.seg.imp id ?_⟩
  rintro ⟨b, o, e, hlt, hs⟩
  exact ⟨b, o, e, Nat.lt_of_lt_of_le hlt hb.size, hs.below hb hlt⟩
/-- Where a slice has an element k, its address is known. -/
theorem Sl.at {w : World} {a : Option Addr} {n cap : Nat} {xs : List Value} (h : Sl w a n cap xs) (hn : 0 < n) : ∃ b o, a = some ⟨b, o, none⟩ ∧ b < w.heap.size ∧ Seg w b o xs := h.seg.resolve_left (by omega)
theorem Sl.take {w : World} {b o n cap m : Nat} {xs : List Value} (h : Sl w (some ⟨b, o, none⟩) n cap xs) (hm : m ≤ n) : Sl w (some ⟨b, o, none⟩) m cap (xs.take m) := by
  refine ⟨by rw [List.length_take, h.len]; omega, by have := h.room; omega, h.big, (by intro e; cases e), ?_⟩
  rcases Nat.eq_zero_or_pos m with e | e
  · exact Or.inl e
  · obtain ⟨b', o', e1, h1, h2⟩ := h.at (by omega)
    cases e1
    exact Or.inr ⟨b, o, rfl, h1, h2.take m⟩
/-- A slice in memory of the call's own, from base on. -/
abbrev Own (w : World) (base : Nat) (T : TypeId) (a : Option Addr) (n cap : Nat) (xs : List Value) : Prop := w.ownsRow base T 1 (.slice a n cap) n xs
theorem Own.sl {w : World} {base n cap : Nat} {T : TypeId} {a : Option Addr} {xs : List Value} (h : Own w base T a n cap xs) : Sl w a n cap xs := by
  obtain ⟨hl, ⟨h1, h2⟩ | ⟨g, cap', cur, hv, hb, hg, h1, h2, h3, h4⟩⟩ := h
  · cases h1
    refine ⟨by omega, Nat.le_refl _, Nat.zero_le _, fun _ => ⟨rfl, rfl⟩, Or.inl rfl⟩
  · cases hv
    refine ⟨by omega, h1, h2, (by intro e; cases e), Or.inr ⟨g, 0, rfl, (Array.getElem?_eq_some_iff.1 hg).1, ?_⟩⟩
    intro j u hu
    have hj : j < n := by
      have := (List.getElem?_eq_some_iff.1 hu).1
      omega
    rw [← h4, Nat.mul_one, List.getElem?_take, if_pos hj] at hu
    refine ⟨by simp [World.cell?, hg]; simpa using hu, by simp [World.frozen?, hg]⟩
theorem Own.form {w : World} {base n : Nat} {T : TypeId} {v : Value} {xs : List Value} (h : w.ownsRow base T 1 v n xs) : ∃ a cap, v = .slice a n cap ∧ Own w base T a n cap xs := by
  obtain ⟨hl, ⟨h1, h2⟩ | ⟨g, cap', cur, hv, hb, hg, h1, h2, h3, h4⟩⟩ := h
  · subst h1 h2
    exact ⟨none, 0, rfl, hl, Or.inl ⟨rfl, rfl⟩⟩
  · subst hv
    exact ⟨_, _, rfl, hl, Or.inr ⟨g, cap', cur, rfl, hb, hg, h1, h2, h3, h4⟩⟩
end Go.Proofs.Ytkmgndaholglhaa

namespace Go.Proofs.Ytkmgndaholglhaa
open Go.RowKit
set_option linter.unusedVariables false

theorem Below.to {w w' : World} (h : w.grownBy w' none) : Below w.heap.size w w' := (Below.refl _ w).grown h (Nat.le_refl _) (fun k e => by cases e)

end Go.Proofs.Ytkmgndaholglhaa

namespace Go.Proofs.Ytkmgndaholglhaa.hf
open Go.RowKit

/-- Digit i of v, to the base 65536 (of a number below nought: of v modulo as many digits as you like). -/
def dg (v : Int) (i : Nat) : Int := v / 65536 ^ i % 65536
def dcells (n : Nat) (v : Int) : List Value := (List.range n).map fun j => .int .i64 (dg v j)
end Go.Proofs.Ytkmgndaholglhaa.hf

namespace Go.Proofs.Ytkmgndaholglhaa.hf
open Go.RowKit
set_option linter.unusedVariables false

/-- How many digits v needs. -/
def nlen (v : Nat) : Nat := if h : v = 0 then 0 else nlen (v / 65536) + 1
  termination_by v
  decreasing_by exact Nat.div_lt_self (Nat.pos_of_ne_zero h) (by decide)
end Go.Proofs.Ytkmgndaholglhaa.hf

namespace Go.Proofs.Ytkmgndaholglhaa
variable {P : Program} {md : Region.Mode} {Q : Exit → Act → World → Prop} {S : World → Prop}

theorem ps1 {α : Type _} {xs : List α} {i : Nat} {a : α} : xs.toArray.setIfInBounds i a = (xs.set i a).toArray := List.setIfInBounds_toArray ..
theorem ps2 {α : Type _} {x : α} {xs : List α} {a : α} : (x :: xs).set 0 a = a :: xs := List.set_cons_zero
theorem ps3 {α : Type _} {x : α} {xs : List α} {n : Nat} {a : α} : (x :: xs).set (n + 1) a = x :: xs.set n a := List.set_cons_succ
theorem take_yes {l : List Oper} {i : Nat} {oi : Oper} {v : Value} {fuel : Nat} {listed : Array Bool} {a : Act} {w : World} (hi : l[i]? = some oi)
    (hs : Region.noSelect l.toArray = true) (hf : Region.free md l.toArray listed i = true) (hr : (Region.ready md l.toArray listed).contains i = true)
    (hQ : ∀ c a w, Q (.panic c) (a.put oi.dst v) w → Q (.panic c) a w) (hw : Region.wanted oi (yielded l.toArray a.tmps) = true) (hS : S w)
    (hy : ∀ w, S w → (execOp a.eval oi).run P w = .ok (.value v) w)
    (h : wpAnyH P md l.toArray Q S fuel (listed.setIfInBounds i true) (a.put oi.dst v) w) : wpAnyH P md l.toArray Q S (fuel + 1) listed a w :=
  wpAnyH_take (by simpa using hi) hs hf hr hQ (Or.inl ⟨hw, hy⟩) hS h
theorem tq {l : List Oper} {i : Nat} {oi : Oper} {v : Value} {fuel : Nat} {listed : Array Bool} {a : Act} {w : World} (hi : l[i]? = some oi)
    (hQ : ∀ c a w, Q (.panic c) (a.put oi.dst v) w → Q (.panic c) a w) (hy : ∀ w, S w → (execOp a.eval oi).run P w = .ok (.value v) w)
    (h : wpAnyH P md l.toArray Q S fuel (listed.setIfInBounds i true) (a.put oi.dst v) w)
    (hs : Region.noSelect l.toArray = true := by kernel_rfl) (hf : Region.free md l.toArray listed i = true := by kernel_rfl) (hr : (Region.ready md l.toArray listed).contains i = true := by kernel_rfl)
    (hw : Region.wanted oi (yielded l.toArray a.tmps) = true := by rfl) (hS : S w := by assumption) : wpAnyH P md l.toArray Q S (fuel + 1) listed a w :=
  take_yes hi hs hf hr hQ hw hS hy h
theorem ty {l : List Oper} {i : Nat} {oi : Oper} {v : Value} {fuel : Nat} {listed : Array Bool} {a : Act} {w : World} (hi : l[i]? = some oi)
    (hy : ∀ w, S w → (execOp a.eval oi).run P w = .ok (.value v) w) (h : wpAnyH P md l.toArray Q S fuel (listed.setIfInBounds i true) (a.put oi.dst v) w)
    (hs : Region.noSelect l.toArray = true := by kernel_rfl) (hf : Region.free md l.toArray listed i = true := by kernel_rfl) (hr : (Region.ready md l.toArray listed).contains i = true := by kernel_rfl)
    (hQ : ∀ c a w, Q (.panic c) (a.put oi.dst v) w → Q (.panic c) a w := by exact fun _ _ _ h => h) (hw : Region.wanted oi (yielded l.toArray a.tmps) = true := by rfl) (hS : S w := by assumption) : wpAnyH P md l.toArray Q S (fuel + 1) listed a w :=
  take_yes hi hs hf hr hQ hw hS hy h
theorem take_no {l : List Oper} {i : Nat} {oi : Oper} {fuel : Nat} {listed : Array Bool} {a : Act} {w : World} (hi : l[i]? = some oi)
    (hs : Region.noSelect l.toArray = true) (hf : Region.free md l.toArray listed i = true) (hr : (Region.ready md l.toArray listed).contains i = true)
    (hQ : ∀ c a w, Q (.panic c) (a.put oi.dst undef) w → Q (.panic c) a w) (hw : Region.wanted oi (yielded l.toArray a.tmps) = false) (hS : S w)
    (h : wpAnyH P md l.toArray Q S fuel (listed.setIfInBounds i true) (a.put oi.dst undef) w) : wpAnyH P md l.toArray Q S (fuel + 1) listed a w :=
  wpAnyH_take (v := undef) (by simpa using hi) hs hf hr hQ (Or.inr ⟨hw, rfl⟩) hS h
theorem take_call {l : List Oper} {i : Nat} {o : Oper} {fuel : Nat} {listed : Array Bool} {a : Act} {w : World} (ho : l[i]? = some o) (hr : Region.ready md l.toArray listed = [i])
    (h : ∀ K' : Act → World → Prop, Shut (∀ a w, S w → (S w → wpAnyH P md l.toArray Q S fuel (listed.setIfInBounds i true) a w) → K' a w) → if Region.wanted o (yielded l.toArray a.tmps) = true then Oper.wp P o a w K' Q else K' (a.put o.dst undef) w) :
    wpAnyH P md l.toArray Q S (fuel + 1) listed a w :=
  wpAnyH_ready hr (by simp) (AllReadyH.cons (by simpa using ho) h AllReadyH.nil)
end Go.Proofs.Ytkmgndaholglhaa

namespace Go.Proofs.Ytkmgndaholglhaa
open Go.RowKit Go.Shelf
set_option linter.unusedVariables false
attribute [local go_sem] Oper.semAt_some

/-- What has come when r are left: p, p - 1, .., r. -/
def dn (p r : Nat) : List (Fin (p + 1)) := (List.range (p + 1 - r)).map fun j => ⟨p - j, by omega⟩
end Go.Proofs.Ytkmgndaholglhaa

namespace Go.Proofs.Ytkmgndaholglhaa
open Go.RowKit Go.Shelf
set_option linter.unusedVariables false
attribute [local go_sem] Oper.semAt_some

/-- -1, 0 or 1. -/
def cmpI (x y : Int) : Int := if x < y then -1 else if y < x then 1 else 0
end Go.Proofs.Ytkmgndaholglhaa

namespace Go.Proofs.Ytkmgndaholglhaa
open Go.RowKit
set_option linter.unusedVariables false

theorem cell_on {w w' : World} {p : Addr} {v : Value} (hb : Below w.heap.size w w') (h : w.cell? p = some v) : w'.cell? p = some v := by
  refine (hb.cell (p := p) ?_).trans h
  refine Nat.lt_of_not_le fun hle => ?_
  unfold World.cell? at h
  rw [Array.getElem?_eq_none hle] at h
  simp at h
theorem free_on {w w' : World} {p : Addr} {v : Value} {f : Bool} (hb : Below w.heap.size w w') (h : w.cell? p = some v) (hf : w.frozen? p = f) : w'.frozen? p = f := by
  refine (hb.frozen (p := p) ?_).trans hf
  refine Nat.lt_of_not_le fun hle => ?_
  unfold World.cell? at h
  rw [Array.getElem?_eq_none hle] at h
  simp at h
/-- A block of two cells: what they hold, and that they can be written. -/
structure Bx (w : World) (b : Nat) (x y : Value) : Prop where
  c0 : w.cell? ⟨b, 0, none⟩ = some x
  c1 : w.cell? ⟨b, 1, none⟩ = some y
  f0 : w.frozen? ⟨b, 0, none⟩ = false
  f1 : w.frozen? ⟨b, 1, none⟩ = false
theorem Bx.on {w w' : World} {b : Nat} {x y : Value} (h : Bx w b x y) (hb : Below w.heap.size w w') : Bx w' b x y := ⟨cell_on hb h.c0, cell_on hb h.c1, free_on hb h.c0 h.f0, free_on hb h.c1 h.f1⟩
theorem bx_new (w : World) (x y : Value) (t : TypeId) : Bx (w.alloc (.cells #[x, y] t)) w.heap.size x y := by
  have h := Row.new w [x, y] t
  exact ⟨h.cell 0 _ rfl, h.cell 1 _ rfl, h.free 0 (by simp), h.free 1 (by simp)⟩
theorem bx_lt {w : World} {b : Nat} {x y : Value} (h : Bx w b x y) : b < w.heap.size := by
  refine Nat.lt_of_not_le fun hle => ?_
  have := h.c0
  unfold World.cell? at this
  rw [Array.getElem?_eq_none hle] at this
  simp at this
theorem Bx.put {w : World} {b k i : Nat} {x y v : Value} (h : Bx w b x y) (hk : k ≠ b) : Bx (w.setCell ⟨k, i, none⟩ v) b x y := by
  have hne : ∀ j, (⟨k, i, none⟩ : Addr) ≠ ⟨b, j, none⟩ := fun j e => by cases e; exact hk rfl
  refine ⟨?_, ?_, by rw [World.frozen?_setCell]; exact h.f0, by rw [World.frozen?_setCell]; exact h.f1⟩
  · rw [World.cell?_setCell_other _ _ _ _ (by intro q; simp only [Addr.mk.injEq] at q; omega)]; exact h.c0
  · rw [World.cell?_setCell_other _ _ _ _ (by intro q; simp only [Addr.mk.injEq] at q; omega)]; exact h.c1
end Go.Proofs.Ytkmgndaholglhaa

namespace Go.Proofs.Ytkmgndaholglhaa
open Go.RowKit
set_option linter.unusedVariables false

theorem below_put2 {B b : Nat} {w w' : World} (h : Below B w w') (hb : B ≤ b) (u v : Value) : Below B w ((w'.setCell ⟨b, 0, none⟩ u).setCell ⟨b, 1, none⟩ v) := (h.setCell hb _).setCell hb _
theorem also {w w1 w2 : World} (h : Below w.heap.size w w1) (k : Below w1.heap.size w1 w2) : Below w.heap.size w w2 := h.trans (k.mono h.size)

end Go.Proofs.Ytkmgndaholglhaa

namespace Go.Proofs.Ytkmgndaholglhaa
open Go.RowKit
set_option linter.unusedVariables false

theorem bd_i64 {x : Int} (h : (Lit.int .i64 x).wf = true) : -9223372036854775808 ≤ x ∧ x ≤ 9223372036854775807 := by
  simp [Lit.wf, IntKind.min, IntKind.max, IntKind.signed, IntKind.bits] at h
  exact ⟨by omega, by omega⟩
/-- A number that a point may have; a side that a torus may have. -/
def inC (c : Int) : Bool := decide (-1099511627776 ≤ c ∧ c ≤ 1099511627776)
def canC (x y : Int) : Bool := inC x && inC y
/-- Which of two points stands ahead. -/
def cmpP (x y z t : Int) : Int := if x = z then cmpI y t else cmpI x z
theorem inC_true {c : Int} : inC c = true ↔ (-1099511627776 ≤ c ∧ c ≤ 1099511627776) := by unfold inC; exact decide_eq_true_iff
theorem canC_true {x y : Int} : canC x y = true ↔ (inC x = true ∧ inC y = true) := by unfold canC; exact Bool.and_eq_true_iff
theorem wrap_in {x : Int} (h1 : -9223372036854775808 ≤ x) (h2 : x ≤ 9223372036854775807) : wrap64 x = x := by unfold wrap64; omega
theorem wrap_i64 (x : Int) : IntKind.i64.wrap x = wrap64 x := by unfold wrap64; simp [IntKind.wrap, IntKind.signed, IntKind.bits]; try omega
end Go.Proofs.Ytkmgndaholglhaa

namespace Go.Proofs.Ytkmgndaholglhaa
open Go.RowKit
set_option linter.unusedVariables false

/-- Twice a triangle's area: (b - a) across (c - a). -/
def areaP (ax ay bx by' cx cy : Int) : Int := (bx - ax) * (cy - ay) - (by' - ay) * (cx - ax)
def distP (ax ay bx by' : Int) : Int := (bx - ax) * (bx - ax) + (by' - ay) * (by' - ay)
/-- The determinant whose rows are p - d and its square, of p being a, b and c. -/
def detP (ax ay bx by' cx cy dx dy : Int) : Int :=
  distP ax ay dx dy * ((bx - dx) * (cy - dy) - (by' - dy) * (cx - dx)) - distP bx by' dx dy * ((ax - dx) * (cy - dy) - (ay - dy) * (cx - dx)) + distP cx cy dx dy * ((ax - dx) * (by' - dy) - (ay - dy) * (bx - dx))
/-- The determinant by areas about d, and by areas of the whole triangles. -/
theorem det_areas (ax ay bx by' cx cy dx dy : Int) : detP ax ay bx by' cx cy dx dy = distP ax ay dx dy * areaP dx dy bx by' cx cy - distP bx by' dx dy * areaP dx dy ax ay cx cy + distP cx cy dx dy * areaP dx dy ax ay bx by' := by
  unfold detP areaP; rfl
theorem prod_abs {x y : Int} {A B : Nat} (hx : x.natAbs ≤ A) (hy : y.natAbs ≤ B) : (x * y).natAbs ≤ A * B := by
  rw [Int.natAbs_mul]; exact Nat.mul_le_mul hx hy
/-- How great they are, of points that differ by at most D. -/
theorem cross_abs {p q r s : Int} {D : Nat} (h1 : p.natAbs ≤ D) (h2 : q.natAbs ≤ D) (h3 : r.natAbs ≤ D) (h4 : s.natAbs ≤ D) : (p * q - r * s).natAbs ≤ 2 * (D * D) := by
  have a := prod_abs h1 h2
  have b := prod_abs h3 h4
  omega
theorem dist_abs {ax ay bx by' : Int} {D : Nat} (h1 : (bx - ax).natAbs ≤ D) (h2 : (by' - ay).natAbs ≤ D) : (distP ax ay bx by').natAbs ≤ 2 * (D * D) := by
  have a := prod_abs h1 h1
  have b := prod_abs h2 h2
  unfold distP
  omega
theorem area_abs {ax ay bx by' cx cy : Int} {D : Nat} (h1 : (bx - ax).natAbs ≤ D) (h2 : (by' - ay).natAbs ≤ D) (h3 : (cx - ax).natAbs ≤ D) (h4 : (cy - ay).natAbs ≤ D) : (areaP ax ay bx by' cx cy).natAbs ≤ 2 * (D * D) := cross_abs h1 h4 h2 h3
theorem det_abs {ax ay bx by' cx cy dx dy : Int} {D : Nat} (a1 : (ax - dx).natAbs ≤ D) (a2 : (ay - dy).natAbs ≤ D) (b1 : (bx - dx).natAbs ≤ D) (b2 : (by' - dy).natAbs ≤ D) (c1 : (cx - dx).natAbs ≤ D) (c2 : (cy - dy).natAbs ≤ D) :
    (detP ax ay bx by' cx cy dx dy).natAbs ≤ 3 * (2 * (D * D) * (2 * (D * D))) := by
  have A := prod_abs (dist_abs (ax := ax) (ay := ay) (bx := dx) (by' := dy) (D := D) (by omega) (by omega)) (cross_abs b1 c2 b2 c1)
  have B := prod_abs (dist_abs (ax := bx) (ay := by') (bx := dx) (by' := dy) (D := D) (by omega) (by omega)) (cross_abs a1 c2 a2 c1)
  have C := prod_abs (dist_abs (ax := cx) (ay := cy) (bx := dx) (by' := dy) (D := D) (by omega) (by omega)) (cross_abs a1 b2 a2 b1)
  unfold detP
  generalize 2 * (D * D) * (2 * (D * D)) = M at *
  omega
theorem dist_nonneg (ax ay bx by' : Int) : 0 ≤ distP ax ay bx by' := by
  unfold distP
  have a : 0 ≤ (bx - ax) * (bx - ax) := by rw [← Int.natAbs_mul_self]; exact Int.natCast_nonneg _
  have b : 0 ≤ (by' - ay) * (by' - ay) := by rw [← Int.natAbs_mul_self]; exact Int.natCast_nonneg _
  omega
/-- Points that can be differ by at most 2^41. -/
theorem can_diff {x y : Int} (hx : inC x = true) (hy : inC y = true) : (x - y).natAbs ≤ 2199023255552 := by
  have := inC_true.1 hx
  have := inC_true.1 hy
  omega
/-- The sign as it is told. -/
theorem cmp_sign (x : Int) : cmpI x 0 = x.sign := by
  unfold cmpI
  rcases Int.lt_trichotomy x 0 with h | h | h
  · rw [if_pos h, Int.sign_eq_neg_one_of_neg h]
  · subst h; rfl
  · rw [if_neg (by omega), if_pos h, Int.sign_eq_one_of_pos h]
end Go.Proofs.Ytkmgndaholglhaa

namespace Go.Proofs.Ytkmgndaholglhaa
open Go.RowKit
set_option linter.unusedVariables false

abbrev Pt := Int × Int
def arQ (a b c : Pt) : Int := areaP a.1 a.2 b.1 b.2 c.1 c.2
def deQ (a b c d : Pt) : Int := detP a.1 a.2 b.1 b.2 c.1 c.2 d.1 d.2
/-- p stands ahead of q. -/
def ltQ (p q : Pt) : Bool := decide (p.1 < q.1 ∨ (p.1 = q.1 ∧ p.2 < q.2))
/-- p stands behind the three others. -/
def lastQ (p a b c : Pt) : Bool := ltQ a p && (ltQ b p && ltQ c p)
/-- Four points on a circle: whether d does away with a, b, c. -/
def tieQ (a b c d : Pt) : Bool := if lastQ d a b c then false else if lastQ c a b d then decide (0 < arQ a b d) else if lastQ b a c d then decide (0 < arQ a d c) else decide (0 < arQ d b c)
/-- Whether d does away with a, b, c, of points that can be, a, b, c turning left and d none of them. -/
def cirQ (a b c d : Pt) : Bool := if deQ a b c d = 0 then tieQ a b c d else decide (0 < deQ a b c d)
theorem lt_iff {p q : Pt} : ltQ p q = true ↔ (p.1 < q.1 ∨ (p.1 = q.1 ∧ p.2 < q.2)) := by unfold ltQ; exact decide_eq_true_iff
theorem lt_no {p q : Pt} : ltQ p q = false ↔ ¬(p.1 < q.1 ∨ (p.1 = q.1 ∧ p.2 < q.2)) := by unfold ltQ; exact decide_eq_false_iff_not
theorem pt_ne {p q : Pt} (h : p ≠ q) : p.1 ≠ q.1 ∨ p.2 ≠ q.2 := by
  rcases Decidable.em (p.1 = q.1) with h1 | h1
  · exact Or.inr fun h2 => h (Prod.ext h1 h2)
  · exact Or.inl h1
theorem lt_tri {p q : Pt} (h : p ≠ q) : (ltQ p q = true ∧ ltQ q p = false) ∨ (ltQ q p = true ∧ ltQ p q = false) := by
  have := pt_ne h
  rw [lt_iff, lt_no, lt_iff, lt_no]
  omega
theorem lt_trans {p q r : Pt} (h : ltQ p q = true) (k : ltQ q r = true) : ltQ p r = true := by
  rw [lt_iff] at *
  omega
theorem lt_irr (p : Pt) : ltQ p p = false := by rw [lt_no]; omega
theorem lt_anti {p q : Pt} (h : ltQ p q = true) : ltQ q p = false := by rw [lt_iff] at h; rw [lt_no]; omega
theorem cmp_last (x y z t : Int) : decide (0 < cmpP x y z t) = ltQ (z, t) (x, y) := by
  unfold cmpP cmpI ltQ
  rw [decide_eq_decide]
  dsimp only
  split
  · split
    · constructor <;> intro h <;> omega
    · split <;> constructor <;> intro h <;> omega
  · split
    · constructor <;> intro h <;> omega
    · split <;> constructor <;> intro h <;> omega
theorem last6 {p x y z : Pt} (h1 : ltQ x p = true) (h2 : ltQ y p = true) (h3 : ltQ z p = true) : ltQ x p = true ∧ ltQ y p = true ∧ ltQ z p = true ∧ ltQ p x = false ∧ ltQ p y = false ∧ ltQ p z = false := ⟨h1, h2, h3, lt_anti h1, lt_anti h2, lt_anti h3⟩
/-- Of four points just one stands last. -/
theorem one_last {a b c d : Pt} (ab : a ≠ b) (ac : a ≠ c) (bc : b ≠ c) (da : d ≠ a) (db : d ≠ b) (dc : d ≠ c) :
    (ltQ a d = true ∧ ltQ b d = true ∧ ltQ c d = true ∧ ltQ d a = false ∧ ltQ d b = false ∧ ltQ d c = false) ∨
    (ltQ a c = true ∧ ltQ b c = true ∧ ltQ d c = true ∧ ltQ c a = false ∧ ltQ c b = false ∧ ltQ c d = false) ∨
    (ltQ a b = true ∧ ltQ c b = true ∧ ltQ d b = true ∧ ltQ b a = false ∧ ltQ b c = false ∧ ltQ b d = false) ∨
    (ltQ b a = true ∧ ltQ c a = true ∧ ltQ d a = true ∧ ltQ a b = false ∧ ltQ a c = false ∧ ltQ a d = false) := by
  rcases lt_tri ab with ⟨x, _⟩ | ⟨x, _⟩ <;> rcases lt_tri dc with ⟨y, _⟩ | ⟨y, _⟩
  · rcases lt_tri bc with ⟨z, _⟩ | ⟨z, _⟩
    · exact Or.inr (Or.inl (last6 (lt_trans x z) z y))
    · exact Or.inr (Or.inr (Or.inl (last6 x z (lt_trans y z))))
  · rcases lt_tri db with ⟨z, _⟩ | ⟨z, _⟩
    · exact Or.inr (Or.inr (Or.inl (last6 x (lt_trans y z) z)))
    · exact Or.inl (last6 (lt_trans x z) z y)
  · rcases lt_tri ac with ⟨z, _⟩ | ⟨z, _⟩
    · exact Or.inr (Or.inl (last6 z (lt_trans x z) y))
    · exact Or.inr (Or.inr (Or.inr (last6 x z (lt_trans y z))))
  · rcases lt_tri da with ⟨z, _⟩ | ⟨z, _⟩
    · exact Or.inr (Or.inr (Or.inr (last6 x (lt_trans y z) z)))
    · exact Or.inl (last6 z (lt_trans x z) y)
theorem ar_ne {a b c : Pt} (h : 0 < arQ a b c) : a ≠ b ∧ a ≠ c ∧ b ≠ c := by
  refine ⟨?_, ?_, ?_⟩ <;> rintro rfl <;> unfold arQ areaP at h <;> grind
end Go.Proofs.Ytkmgndaholglhaa

namespace Go.Proofs.Ytkmgndaholglhaa
open Go.RowKit
set_option linter.unusedVariables false

theorem cell_lt {w : World} {p : Addr} {v : Value} (h : w.cell? p = some v) : p.block < w.heap.size := by
  refine Nat.lt_of_not_le fun hle => ?_
  unfold World.cell? at h
  rw [Array.getElem?_eq_none hle] at h
  simp at h
/-- A block of 3 cells. -/
structure B3 (w : World) (b : Nat) (x0 x1 x2 : Value) : Prop where
  c0 : w.cell? ⟨b, 0, none⟩ = some x0
  c1 : w.cell? ⟨b, 1, none⟩ = some x1
  c2 : w.cell? ⟨b, 2, none⟩ = some x2
  f0 : w.frozen? ⟨b, 0, none⟩ = false
  f1 : w.frozen? ⟨b, 1, none⟩ = false
  f2 : w.frozen? ⟨b, 2, none⟩ = false
theorem B3.set {w : World} {b : Nat} {x0 x1 x2 u0 u1 u2 : Value} (h : B3 w b x0 x1 x2) : B3 (((w.setCell ⟨b, 0, none⟩ u0).setCell ⟨b, 1, none⟩ u1).setCell ⟨b, 2, none⟩ u2) b u0 u1 u2 := by
  refine ⟨?_, ?_, ?_, by simp only [World.frozen?_setCell]; exact h.f0, by simp only [World.frozen?_setCell]; exact h.f1, by simp only [World.frozen?_setCell]; exact h.f2⟩
  · rw [World.cell?_setCell_other _ _ _ _ (by intro q; simp only [Addr.mk.injEq] at q; omega)]; rw [World.cell?_setCell_other _ _ _ _ (by intro q; simp only [Addr.mk.injEq] at q; omega)]; have hh : _ = some x0 := h.c0
    have h1 : w.cell? ⟨b, 0, none⟩ = some x0 := by
      exact hh
    exact World.cell?_setCell_same _ _ _ h1
  · rw [World.cell?_setCell_other _ _ _ _ (by intro q; simp only [Addr.mk.injEq] at q; omega)]; have hh : _ = some x1 := h.c1
    have h1 : (w.setCell ⟨b, 0, none⟩ u0).cell? ⟨b, 1, none⟩ = some x1 := by
      rw [World.cell?_setCell_other _ _ _ _ (by intro q; simp only [Addr.mk.injEq] at q; omega)]; exact hh
    exact World.cell?_setCell_same _ _ _ h1
  · have hh : _ = some x2 := h.c2
    have h1 : ((w.setCell ⟨b, 0, none⟩ u0).setCell ⟨b, 1, none⟩ u1).cell? ⟨b, 2, none⟩ = some x2 := by
      rw [World.cell?_setCell_other _ _ _ _ (by intro q; simp only [Addr.mk.injEq] at q; omega)]; rw [World.cell?_setCell_other _ _ _ _ (by intro q; simp only [Addr.mk.injEq] at q; omega)]; exact hh
    exact World.cell?_setCell_same _ _ _ h1
/-- A block of 4 cells. -/
structure B4 (w : World) (b : Nat) (x0 x1 x2 x3 : Value) : Prop where
  c0 : w.cell? ⟨b, 0, none⟩ = some x0
  c1 : w.cell? ⟨b, 1, none⟩ = some x1
  c2 : w.cell? ⟨b, 2, none⟩ = some x2
  c3 : w.cell? ⟨b, 3, none⟩ = some x3
  f0 : w.frozen? ⟨b, 0, none⟩ = false
  f1 : w.frozen? ⟨b, 1, none⟩ = false
  f2 : w.frozen? ⟨b, 2, none⟩ = false
  f3 : w.frozen? ⟨b, 3, none⟩ = false
theorem B4.on {w w' : World} {b : Nat} {x0 x1 x2 x3 : Value} (h : B4 w b x0 x1 x2 x3) (hb : Below w.heap.size w w') : B4 w' b x0 x1 x2 x3 := ⟨cell_on hb h.c0, cell_on hb h.c1, cell_on hb h.c2, cell_on hb h.c3, free_on hb h.c0 h.f0, free_on hb h.c1 h.f1, free_on hb h.c2 h.f2, free_on hb h.c3 h.f3⟩
theorem B4.set {w : World} {b : Nat} {x0 x1 x2 x3 u0 u1 u2 u3 : Value} (h : B4 w b x0 x1 x2 x3) : B4 ((((w.setCell ⟨b, 0, none⟩ u0).setCell ⟨b, 1, none⟩ u1).setCell ⟨b, 2, none⟩ u2).setCell ⟨b, 3, none⟩ u3) b u0 u1 u2 u3 := by
  refine ⟨?_, ?_, ?_, ?_, by simp only [World.frozen?_setCell]; exact h.f0, by simp only [World.frozen?_setCell]; exact h.f1, by simp only [World.frozen?_setCell]; exact h.f2, by simp only [World.frozen?_setCell]; exact h.f3⟩
  · rw [World.cell?_setCell_other _ _ _ _ (by intro q; simp only [Addr.mk.injEq] at q; omega)]; rw [World.cell?_setCell_other _ _ _ _ (by intro q; simp only [Addr.mk.injEq] at q; omega)]; rw [World.cell?_setCell_other _ _ _ _ (by intro q; simp only [Addr.mk.injEq] at q; omega)]; have hh : _ = some x0 := h.c0
    have h1 : w.cell? ⟨b, 0, none⟩ = some x0 := by
      exact hh
    exact World.cell?_setCell_same _ _ _ h1
  · rw [World.cell?_setCell_other _ _ _ _ (by intro q; simp only [Addr.mk.injEq] at q; omega)]; rw [World.cell?_setCell_other _ _ _ _ (by intro q; simp only [Addr.mk.injEq] at q; omega)]; have hh : _ = some x1 := h.c1
    have h1 : (w.setCell ⟨b, 0, none⟩ u0).cell? ⟨b, 1, none⟩ = some x1 := by
      rw [World.cell?_setCell_other _ _ _ _ (by intro q; simp only [Addr.mk.injEq] at q; omega)]; exact hh
    exact World.cell?_setCell_same _ _ _ h1
  · rw [World.cell?_setCell_other _ _ _ _ (by intro q; simp only [Addr.mk.injEq] at q; omega)]; have hh : _ = some x2 := h.c2
    have h1 : ((w.setCell ⟨b, 0, none⟩ u0).setCell ⟨b, 1, none⟩ u1).cell? ⟨b, 2, none⟩ = some x2 := by
      rw [World.cell?_setCell_other _ _ _ _ (by intro q; simp only [Addr.mk.injEq] at q; omega)]; rw [World.cell?_setCell_other _ _ _ _ (by intro q; simp only [Addr.mk.injEq] at q; omega)]; exact hh
    exact World.cell?_setCell_same _ _ _ h1
  · have hh : _ = some x3 := h.c3
    have h1 : (((w.setCell ⟨b, 0, none⟩ u0).setCell ⟨b, 1, none⟩ u1).setCell ⟨b, 2, none⟩ u2).cell? ⟨b, 3, none⟩ = some x3 := by
      rw [World.cell?_setCell_other _ _ _ _ (by intro q; simp only [Addr.mk.injEq] at q; omega)]; rw [World.cell?_setCell_other _ _ _ _ (by intro q; simp only [Addr.mk.injEq] at q; omega)]; rw [World.cell?_setCell_other _ _ _ _ (by intro q; simp only [Addr.mk.injEq] at q; omega)]; exact hh
    exact World.cell?_setCell_same _ _ _ h1
end Go.Proofs.Ytkmgndaholglhaa

namespace Go.Proofs.Ytkmgndaholglhaa
open Go.RowKit
set_option linter.unusedVariables false
theorem below_put4 {B b : Nat} {w w' : World} (h : Below B w w') (hb : B ≤ b) (u v t s : Value) : Below B w ((((w'.setCell ⟨b, 0, none⟩ u).setCell ⟨b, 1, none⟩ v).setCell ⟨b, 2, none⟩ t).setCell ⟨b, 3, none⟩ s) := (((h.setCell hb _).setCell hb _).setCell hb _).setCell hb _
theorem b4_row {w : World} {k : Nat} {x y z t : Value} (h : Row w k [x, y, z, t]) : B4 w k x y z t := ⟨(h 0 x rfl).1, (h 1 y rfl).1, (h 2 z rfl).1, (h 3 t rfl).1, (h 0 x rfl).2, (h 1 y rfl).2, (h 2 z rfl).2, (h 3 t rfl).2⟩
theorem cell_put1 {w : World} {n k i j : Nat} {v : Value} (h : w.cell? ⟨n, i, none⟩ = some v) (hk : n ≠ k) (u : Value) : (w.setCell ⟨k, j, none⟩ u).cell? ⟨n, i, none⟩ = some v := by
  rw [World.cell?_setCell_other _ _ _ _ (by intro q; simp only [Addr.mk.injEq] at q; omega)]; exact h
theorem cell_put2 {w : World} {n k i : Nat} {x : Value} (h : w.cell? ⟨n, i, none⟩ = some x) (hk : n ≠ k) (u v : Value) : ((w.setCell ⟨k, 0, none⟩ u).setCell ⟨k, 1, none⟩ v).cell? ⟨n, i, none⟩ = some x := cell_put1 (cell_put1 h hk u) hk v
theorem cell_put3 {w : World} {n k i : Nat} {x : Value} (h : w.cell? ⟨n, i, none⟩ = some x) (hk : n ≠ k) (u v t : Value) : (((w.setCell ⟨k, 0, none⟩ u).setCell ⟨k, 1, none⟩ v).setCell ⟨k, 2, none⟩ t).cell? ⟨n, i, none⟩ = some x := cell_put1 (cell_put2 h hk u v) hk t
theorem cell_put4 {w : World} {n k i : Nat} {x : Value} (h : w.cell? ⟨n, i, none⟩ = some x) (hk : n ≠ k) (u v t s : Value) : ((((w.setCell ⟨k, 0, none⟩ u).setCell ⟨k, 1, none⟩ v).setCell ⟨k, 2, none⟩ t).setCell ⟨k, 3, none⟩ s).cell? ⟨n, i, none⟩ = some x := cell_put1 (cell_put3 h hk u v t) hk s
theorem bs_22 (w : World) (x00 x01 x10 x11 : Value) (t0 t1 : TypeId) : ∃ W, W = ((w.alloc (.cells #[x00, x01] t0)).alloc (.cells #[x10, x11] t1)) ∧ Below w.heap.size w W ∧ Bx W (w.heap.size) x00 x01 ∧ Bx W (w.heap.size + 1) x10 x11 ∧ w.heap.size + 1 < W.heap.size := by
  have e0 : Below w.heap.size w (w.alloc (.cells #[x00, x01] t0)) := (Below.refl _ _).alloc (Nat.le_refl _) _
  have h0 := bx_new w x00 x01 t0
  have e1 : Below (w.alloc (.cells #[x00, x01] t0)).heap.size (w.alloc (.cells #[x00, x01] t0)) ((w.alloc (.cells #[x00, x01] t0)).alloc (.cells #[x10, x11] t1)) := (Below.refl _ _).alloc (Nat.le_refl _) _
  have h1 := bx_new (w.alloc (.cells #[x00, x01] t0)) x10 x11 t1
  rw [World.size_alloc] at h1
  exact ⟨_, rfl, also (e0) e1, (h0.on e1), h1, by simp⟩
theorem bs_2 (w : World) (x00 x01 : Value) (t0 : TypeId) : ∃ W, W = (w.alloc (.cells #[x00, x01] t0)) ∧ Below w.heap.size w W ∧ Bx W (w.heap.size) x00 x01 ∧ w.heap.size < W.heap.size := by
  have e0 : Below w.heap.size w (w.alloc (.cells #[x00, x01] t0)) := (Below.refl _ _).alloc (Nat.le_refl _) _
  have h0 := bx_new w x00 x01 t0
  exact ⟨_, rfl, e0, h0, by simp⟩
theorem bs_222 (w : World) (x00 x01 x10 x11 x20 x21 : Value) (t0 t1 t2 : TypeId) : ∃ W, W = (((w.alloc (.cells #[x00, x01] t0)).alloc (.cells #[x10, x11] t1)).alloc (.cells #[x20, x21] t2)) ∧ Below w.heap.size w W ∧ Bx W (w.heap.size) x00 x01 ∧ Bx W (w.heap.size + 1) x10 x11 ∧ Bx W (w.heap.size + 1 + 1) x20 x21 ∧ w.heap.size + 1 + 1 < W.heap.size := by
  have e0 : Below w.heap.size w (w.alloc (.cells #[x00, x01] t0)) := (Below.refl _ _).alloc (Nat.le_refl _) _
  have h0 := bx_new w x00 x01 t0
  have e1 : Below (w.alloc (.cells #[x00, x01] t0)).heap.size (w.alloc (.cells #[x00, x01] t0)) ((w.alloc (.cells #[x00, x01] t0)).alloc (.cells #[x10, x11] t1)) := (Below.refl _ _).alloc (Nat.le_refl _) _
  have h1 := bx_new (w.alloc (.cells #[x00, x01] t0)) x10 x11 t1
  rw [World.size_alloc] at h1
  have e2 : Below ((w.alloc (.cells #[x00, x01] t0)).alloc (.cells #[x10, x11] t1)).heap.size ((w.alloc (.cells #[x00, x01] t0)).alloc (.cells #[x10, x11] t1)) (((w.alloc (.cells #[x00, x01] t0)).alloc (.cells #[x10, x11] t1)).alloc (.cells #[x20, x21] t2)) := (Below.refl _ _).alloc (Nat.le_refl _) _
  have h2 := bx_new ((w.alloc (.cells #[x00, x01] t0)).alloc (.cells #[x10, x11] t1)) x20 x21 t2
  rw [World.size_alloc, World.size_alloc] at h2
  exact ⟨_, rfl, also (also (e0) e1) e2, ((h0.on e1).on e2), (h1.on e2), h2, by simp⟩
theorem bs_2222 (w : World) (x00 x01 x10 x11 x20 x21 x30 x31 : Value) (t0 t1 t2 t3 : TypeId) : ∃ W, W = ((((w.alloc (.cells #[x00, x01] t0)).alloc (.cells #[x10, x11] t1)).alloc (.cells #[x20, x21] t2)).alloc (.cells #[x30, x31] t3)) ∧ Below w.heap.size w W ∧ Bx W (w.heap.size) x00 x01 ∧ Bx W (w.heap.size + 1) x10 x11 ∧ Bx W (w.heap.size + 1 + 1) x20 x21 ∧ Bx W (w.heap.size + 1 + 1 + 1) x30 x31 ∧ w.heap.size + 1 + 1 + 1 < W.heap.size := by
  have e0 : Below w.heap.size w (w.alloc (.cells #[x00, x01] t0)) := (Below.refl _ _).alloc (Nat.le_refl _) _
  have h0 := bx_new w x00 x01 t0
  have e1 : Below (w.alloc (.cells #[x00, x01] t0)).heap.size (w.alloc (.cells #[x00, x01] t0)) ((w.alloc (.cells #[x00, x01] t0)).alloc (.cells #[x10, x11] t1)) := (Below.refl _ _).alloc (Nat.le_refl _) _
  have h1 := bx_new (w.alloc (.cells #[x00, x01] t0)) x10 x11 t1
  rw [World.size_alloc] at h1
  have e2 : Below ((w.alloc (.cells #[x00, x01] t0)).alloc (.cells #[x10, x11] t1)).heap.size ((w.alloc (.cells #[x00, x01] t0)).alloc (.cells #[x10, x11] t1)) (((w.alloc (.cells #[x00, x01] t0)).alloc (.cells #[x10, x11] t1)).alloc (.cells #[x20, x21] t2)) := (Below.refl _ _).alloc (Nat.le_refl _) _
  have h2 := bx_new ((w.alloc (.cells #[x00, x01] t0)).alloc (.cells #[x10, x11] t1)) x20 x21 t2
  rw [World.size_alloc, World.size_alloc] at h2
  have e3 : Below (((w.alloc (.cells #[x00, x01] t0)).alloc (.cells #[x10, x11] t1)).alloc (.cells #[x20, x21] t2)).heap.size (((w.alloc (.cells #[x00, x01] t0)).alloc (.cells #[x10, x11] t1)).alloc (.cells #[x20, x21] t2)) ((((w.alloc (.cells #[x00, x01] t0)).alloc (.cells #[x10, x11] t1)).alloc (.cells #[x20, x21] t2)).alloc (.cells #[x30, x31] t3)) := (Below.refl _ _).alloc (Nat.le_refl _) _
  have h3 := bx_new (((w.alloc (.cells #[x00, x01] t0)).alloc (.cells #[x10, x11] t1)).alloc (.cells #[x20, x21] t2)) x30 x31 t3
  rw [World.size_alloc, World.size_alloc, World.size_alloc] at h3
  exact ⟨_, rfl, also (also (also (e0) e1) e2) e3, (((h0.on e1).on e2).on e3), ((h1.on e2).on e3), (h2.on e3), h3, by simp⟩
end Go.Proofs.Ytkmgndaholglhaa

namespace Go.Proofs.Ytkmgndaholglhaa
open Go.RowKit
set_option linter.unusedVariables false

theorem cmpLong_any (x y : Int) (w : World) :
    Calls Try.prog 58 #[.int .i64 x, .int .i64 y] w fun e w' => e = .returned (.int .i64 (cmpI x y)) ∧ w = w' := by
  unfold cmpI
  go_enter Try.func58, Try.ntmps58
  go_wp2
  all_goals (go_ret; exact ⟨rfl, rfl⟩)
end Go.Proofs.Ytkmgndaholglhaa

namespace Go.Proofs.Ytkmgndaholglhaa
open Go.RowKit
set_option linter.unusedVariables false

theorem lCoord (c : Int) (w : World) {b : Bool} (hb : b = inC c) : Calls Try.prog 44 #[.int .i64 c] w fun e w' => e = .returned (.bool b) ∧ Below w.heap.size w w' := by
  subst hb
  unfold inC
  go_enter Try.func44, Try.ntmps44
  go_wp2
  all_goals (go_ret; exact ⟨by simp; omega, Below.refl _ _⟩)
theorem lCmp (x y z t : Int) (w : World) {g : Int} (hg : g = cmpP x y z t) : Calls Try.prog 49 #[.agg #[.int .i64 x, .int .i64 y], .agg #[.int .i64 z, .int .i64 t]] w fun e w' => e = .returned (.int .i64 g) ∧ Below w.heap.size w w' := by
  subst hg
  unfold cmpP
  by_cases g : x = z
  · have g' : (x == z) = true := by simpa using g
    rw [if_pos g]
    clear g
    go_enter Try.func49, Try.ntmps49
    go_wp2_with (go_at_call 58; refine (cmpLong_any y t _).mono ?_; rintro e w' ⟨rfl, hw⟩; subst hw)
    go_ret
    exact ⟨rfl, ((Below.refl _ _).alloc (Nat.le_refl _) _).alloc (by simp) _⟩
  · have g' : (x == z) = false := by simpa using g
    rw [if_neg g]
    clear g
    go_enter Try.func49, Try.ntmps49
    go_wp2_with (go_at_call 58; refine (cmpLong_any x z _).mono ?_; rintro e w' ⟨rfl, hw⟩; subst hw)
    go_ret
    exact ⟨rfl, ((Below.refl _ _).alloc (Nat.le_refl _) _).alloc (by simp) _⟩
set_option maxRecDepth 100000 in
theorem lCan (x y : Int) (w : World) {b : Bool} (hb : b = canC x y) : Calls Try.prog 26 #[.agg #[.int .i64 x, .int .i64 y]] w fun e w' => e = .returned (.bool b) ∧ Below w.heap.size w w' := by
  subst hb
  unfold canC
  cases hx : inC x
  · skip
    obtain ⟨W, hW, bW, x_p, sW⟩ := bs_2 w (.int .i64 x) (.int .i64 y) 31
    have zbW := bW.size
    have BB := bW
    go_enter Try.func26, Try.ntmps26
    go_wp2_with (go_at_call 44; fail)
    rw [← hW]
    clear hW
    refine (lCoord x W hx.symm).mono ?_
    rintro e w1 ⟨rfl, bw1⟩
    have zbw1 := bw1.size
    replace BB := also BB bw1
    replace x_p := x_p.on bw1
    have ⟨x_p_0, x_p_1, x_p_2, x_p_3⟩ := x_p
    go_wp2
    go_ret
    exact ⟨by simp, BB⟩
  · skip
    obtain ⟨W, hW, bW, x_p, sW⟩ := bs_2 w (.int .i64 x) (.int .i64 y) 31
    have zbW := bW.size
    have BB := bW
    go_enter Try.func26, Try.ntmps26
    go_wp2_with (go_at_call 44; fail)
    rw [← hW]
    clear hW
    refine (lCoord x W hx.symm).mono ?_
    rintro e w1 ⟨rfl, bw1⟩
    have zbw1 := bw1.size
    replace BB := also BB bw1
    replace x_p := x_p.on bw1
    have ⟨x_p_0, x_p_1, x_p_2, x_p_3⟩ := x_p
    go_wp2_with (go_at_call 44; fail)
    refine (lCoord y w1 rfl).mono ?_
    rintro e w2 ⟨rfl, bw2⟩
    clear x_p_0 x_p_1 x_p_2 x_p_3
    have zbw2 := bw2.size
    replace BB := also BB bw2
    replace x_p := x_p.on bw2
    go_wp2
    go_ret
    exact ⟨by simp, BB⟩
end Go.Proofs.Ytkmgndaholglhaa

namespace Go.Proofs.Ytkmgndaholglhaa.lw
open Go.RowKit

/-- The high word, with its sign, of a number taken modulo 2^128. -/
def hi (v : Int) : Int := (v / 18446744073709551616 + 9223372036854775808) % 18446744073709551616 - 9223372036854775808
/-- The low word, without a sign. -/
def lo (v : Int) : Int := v % 18446744073709551616

theorem lo_range (v : Int) : 0 ≤ lo v ∧ lo v < 18446744073709551616 := by unfold lo; omega
/-- The borrow, under a name. -/
def bor (x y : Int) : Int := if x < y then 1 else 0
theorem bor_range (x y : Int) : 0 ≤ bor x y ∧ bor x y ≤ 1 := by unfold bor; split <;> decide

theorem hi_0 : (0 : Int) = hi 0 := by decide
theorem lo_0 : (0 : Int) = lo 0 := by decide
theorem add_lo (a b : Int) : (lo a + lo b) % 18446744073709551616 = lo (a + b) := by unfold lo; omega
theorem add_hi (a b : Int) : wrap64 ((IntKind.u64.wrap (hi a) + IntKind.u64.wrap (hi b) + (lo a + lo b) / 18446744073709551616) % 18446744073709551616) = hi (a + b) := by
  rw [IntKind.wrap_u64, IntKind.wrap_u64]; unfold hi lo wrap64; omega
theorem sub_lo (a b : Int) : (lo a - lo b) % 18446744073709551616 = lo (a - b) := by unfold lo; omega
theorem sub_hi (a b : Int) : wrap64 ((IntKind.u64.wrap (hi a) - IntKind.u64.wrap (hi b) - bor (lo a) (lo b)) % 18446744073709551616) = hi (a - b) := by
  rw [IntKind.wrap_u64, IntKind.wrap_u64]; unfold bor wrap64; split <;> (simp only [hi, lo] at *; omega)
theorem mask32 (x : Int) (h0 : 0 ≤ x) (h1 : x < 18446744073709551616) : bits .and .u64 x 4294967295 = x % 4294967296 := by
  obtain ⟨n, rfl⟩ := Int.eq_ofNat_of_zero_le h0
  have h := bits_and_u64_nat n 4294967295 (by omega) (by omega)
  have e : n &&& 4294967295 = n % 4294967296 := Nat.and_two_pow_sub_one_eq_mod n 32
  rw [e] at h
  exact h.trans (by omega)
theorem half_mul (a b : Int) (a0 : 0 ≤ a) (a1 : a < 4294967296) (b0 : 0 ≤ b) (b1 : b < 4294967296) : 0 ≤ a * b ∧ a * b ≤ 18446744065119617025 := by
  refine ⟨Int.mul_nonneg a0 b0, ?_⟩
  have := Int.mul_le_mul (show a ≤ 4294967295 by omega) (show b ≤ 4294967295 by omega) b0 (by decide)
  omega
theorem school (a b c d : Int) : (a * 4294967296 + b) * (c * 4294967296 + d) = a * c * 18446744073709551616 + a * d * 4294967296 + b * c * 4294967296 + b * d := by
  have h1 : a * 4294967296 * (c * 4294967296) = a * c * (4294967296 * 4294967296) := by rw [Int.mul_assoc a, Int.mul_left_comm 4294967296 c, ← Int.mul_assoc]
  have h2 : a * 4294967296 * d = a * d * 4294967296 := by rw [Int.mul_assoc a, Int.mul_comm 4294967296 d, ← Int.mul_assoc]
  have h3 : b * (c * 4294967296) = b * c * 4294967296 := (Int.mul_assoc b c _).symm
  rw [Int.add_mul, Int.mul_add, Int.mul_add, h1, h2, h3]
  omega
theorem mul64_hi (x y : Int) (x0 : 0 ≤ x) (x1 : x < 18446744073709551616) (y0 : 0 ≤ y) (y1 : y < 18446744073709551616) :
    IntKind.u64.wrap (IntKind.u64.wrap (IntKind.u64.wrap (x / 4294967296 * (y / 4294967296)) + IntKind.u64.wrap (IntKind.u64.wrap (x / 4294967296 * bits .and .u64 y 4294967295) + IntKind.u64.wrap (bits .and .u64 x 4294967295 * bits .and .u64 y 4294967295) / 4294967296) / 4294967296) +
      IntKind.u64.wrap (bits .and .u64 (IntKind.u64.wrap (IntKind.u64.wrap (x / 4294967296 * bits .and .u64 y 4294967295) + IntKind.u64.wrap (bits .and .u64 x 4294967295 * bits .and .u64 y 4294967295) / 4294967296)) 4294967295 + IntKind.u64.wrap (bits .and .u64 x 4294967295 * (y / 4294967296))) / 4294967296) = x * y / 18446744073709551616 := by
  rw [mask32 x x0 x1, mask32 y y0 y1, mask32 (IntKind.u64.wrap _) (wrap_u64_nonneg _) (by rw [IntKind.wrap_u64]; omega)]
  have e := school (x / 4294967296) (x % 4294967296) (y / 4294967296) (y % 4294967296)
  have ex : x / 4294967296 * 4294967296 + x % 4294967296 = x := by omega
  have ey : y / 4294967296 * 4294967296 + y % 4294967296 = y := by omega
  rw [ex, ey] at e
  rw [e]
  have b1 := half_mul (x / 4294967296) (y / 4294967296) (by omega) (by omega) (by omega) (by omega)
  have b2 := half_mul (x / 4294967296) (y % 4294967296) (by omega) (by omega) (by omega) (by omega)
  have b3 := half_mul (x % 4294967296) (y / 4294967296) (by omega) (by omega) (by omega) (by omega)
  have b4 := half_mul (x % 4294967296) (y % 4294967296) (by omega) (by omega) (by omega) (by omega)
  clear e ex ey
  generalize x / 4294967296 * (y / 4294967296) = p1 at *
  generalize x / 4294967296 * (y % 4294967296) = p2 at *
  generalize x % 4294967296 * (y / 4294967296) = p3 at *
  generalize x % 4294967296 * (y % 4294967296) = p4 at *
  simp only [IntKind.wrap_u64]
  omega

/-- What is left of a product of two words that were taken without their signs. -/
theorem mul_lo (a b : Int) : IntKind.u64.wrap a * IntKind.u64.wrap b % 18446744073709551616 = lo (a * b) := by
  rw [IntKind.wrap_u64, IntKind.wrap_u64]; unfold lo; exact (Int.mul_emod a b _).symm
theorem ret_tup2 {k l : IntKind} {a b c d : Int} (h : a = c) (h' : b = d) : Ending.returned (.tuple #[.int k a, .int l b]) = .returned (.tuple #[.int k c, .int l d]) := by rw [h, h']
theorem ret_int {k : IntKind} {a b : Int} (h : a = b) : Ending.returned (.int k a) = .returned (.int k b) := by rw [h]

/-- -1, 0, 1: how two numbers lie. -/
def cmpI (x y : Int) : Int := if x < y then -1 else if y < x then 1 else 0
end Go.Proofs.Ytkmgndaholglhaa.lw

namespace Go.Proofs.Ytkmgndaholglhaa.lw
open Go.RowKit

theorem add64 (x y c : Int) (hx : 0 ≤ x) (hy : 0 ≤ y) (hc0 : 0 ≤ c) (hc : c ≤ 1) (w : World) : (callFunc 66 #[.int .u64 x, .int .u64 y, .int .u64 c]).run Try.prog w =
    .ok (.value (.tuple #[.int .u64 ((x + y + c) % 18446744073709551616), .int .u64 ((x + y + c) / 18446744073709551616)])) w := by
  rw [run_callFunc_extern Try.func66 (by kernel_rfl) (by kernel_rfl) (by kernel_rfl) (e := add64Entry) (by kernel_rfl), run_add64 x y c hx hy hc0 hc]
  rfl
theorem add64_0 (x y : Int) (hx : 0 ≤ x) (hy : 0 ≤ y) (w : World) : (callFunc 66 #[.int .u64 x, .int .u64 y, .int .u64 0]).run Try.prog w =
    .ok (.value (.tuple #[.int .u64 ((x + y) % 18446744073709551616), .int .u64 ((x + y) / 18446744073709551616)])) w := by
  simpa using add64 x y 0 hx hy (Int.le_refl 0) (by decide) w
theorem sub64 (x y b : Int) (hx : 0 ≤ x) (hy : 0 ≤ y) (hy' : y < 18446744073709551616) (hb0 : 0 ≤ b) (hb : b ≤ 1) (w : World) : (callFunc 71 #[.int .u64 x, .int .u64 y, .int .u64 b]).run Try.prog w =
    .ok (.value (.tuple #[.int .u64 ((x - y - b) % 18446744073709551616), .int .u64 (bor x (y + b))])) w := by
  obtain ⟨x, rfl⟩ := Int.eq_ofNat_of_zero_le hx
  obtain ⟨y, rfl⟩ := Int.eq_ofNat_of_zero_le hy
  obtain ⟨b, rfl⟩ := Int.eq_ofNat_of_zero_le hb0
  have e1 : (((x + 18446744073709551616 - y - b) % 18446744073709551616 : Nat) : Int) = ((x : Int) - y - b) % 18446744073709551616 := by omega
  have e2 : ((if x < y + b then 1 else 0 : Nat) : Int) = bor x (y + b) := by unfold bor; split <;> split <;> omega
  rw [← e1, ← e2, run_callFunc_extern Try.func71 (by kernel_rfl) (by kernel_rfl) (by kernel_rfl) (e := sub64Entry) (by kernel_rfl), run_sub64 x y b (by omega)]
  rfl
theorem sub64_0 (x y : Int) (hx : 0 ≤ x) (hy : 0 ≤ y) (hy' : y < 18446744073709551616) (w : World) : (callFunc 71 #[.int .u64 x, .int .u64 y, .int .u64 0]).run Try.prog w =
    .ok (.value (.tuple #[.int .u64 ((x - y) % 18446744073709551616), .int .u64 (bor x y)])) w := by
  simpa using sub64 x y 0 hx hy hy' (Int.le_refl 0) (by decide) w

theorem add_any {ah al bh bl : Int} (a b : Int) (ha : ah = hi a) (hl : al = lo a) (hb : bh = hi b) (hm : bl = lo b) (w : World) :
    Calls Try.prog 65 #[.agg #[.int .i64 ah, .int .u64 al], .agg #[.int .i64 bh, .int .u64 bl]] w fun e w' =>
      e = .returned (.agg #[.int .i64 (hi (a + b)), .int .u64 (lo (a + b))]) ∧ Below w.heap.size w w' := by
  subst ha hl hb hm
  obtain ⟨a1, a2⟩ := lo_range a; obtain ⟨b1, b2⟩ := lo_range b
  have k0 : 0 ≤ (lo a + lo b) / 18446744073709551616 := by omega
  have k1 : (lo a + lo b) / 18446744073709551616 ≤ 1 := by omega
  have k2 := wrap_u64_nonneg (hi a)
  have k3 := wrap_u64_nonneg (hi b)
  go_enter Try.func65, Try.ntmps65
  go_wp2_with (first | simp only [add64_0 (lo a) (lo b) a1 b1] | simp only [add64 _ _ _ k2 k3 k0 k1])
  refine bodyPost_ret (v := .agg #[.int .i64 (hi (a + b)), .int .u64 (lo (a + b))]) (by simp [results, Try.results65, go_sem, add_lo, add_hi]) rfl ⟨rfl, ?_⟩
  exact (((Below.refl _ _).alloc (Nat.le_refl _) _).alloc (by simp) _).alloc (by simp; omega) _

theorem sub_any {ah al bh bl : Int} (a b : Int) (ha : ah = hi a) (hl : al = lo a) (hb : bh = hi b) (hm : bl = lo b) (w : World) :
    Calls Try.prog 60 #[.agg #[.int .i64 ah, .int .u64 al], .agg #[.int .i64 bh, .int .u64 bl]] w fun e w' =>
      e = .returned (.agg #[.int .i64 (hi (a - b)), .int .u64 (lo (a - b))]) ∧ Below w.heap.size w w' := by
  subst ha hl hb hm
  obtain ⟨a1, a2⟩ := lo_range a; obtain ⟨b1, b2⟩ := lo_range b
  obtain ⟨k0, k1⟩ := bor_range (lo a) (lo b)
  have k2 := wrap_u64_nonneg (hi a)
  have k3 := wrap_u64_nonneg (hi b)
  have k4 : IntKind.u64.wrap (hi b) < 18446744073709551616 := by rw [IntKind.wrap_u64]; omega
  go_enter Try.func60, Try.ntmps60
  go_wp2_with (first | simp only [sub64_0 (lo a) (lo b) a1 b1 b2] | simp only [sub64 _ _ _ k2 k3 k4 k0 k1])
  refine bodyPost_ret (v := .agg #[.int .i64 (hi (a - b)), .int .u64 (lo (a - b))]) (by simp [results, Try.results60, go_sem, sub_lo, sub_hi]) rfl ⟨rfl, ?_⟩
  exact (((Below.refl _ _).alloc (Nat.le_refl _) _).alloc (by simp) _).alloc (by simp; omega) _

theorem mul64_any (x y : Int) (x0 : 0 ≤ x) (x1 : x < 18446744073709551616) (y0 : 0 ≤ y) (y1 : y < 18446744073709551616) (w : World) :
    Calls Try.prog 72 #[.int .u64 x, .int .u64 y] w fun e w' => e = .returned (.tuple #[.int .u64 (x * y / 18446744073709551616), .int .u64 (x * y % 18446744073709551616)]) ∧ w' = w := by
  go_enter Try.func72, Try.ntmps72
  go_wp2
  go_ret2
  exact ⟨ret_tup2 (mul64_hi x y x0 x1 y0 y1) (IntKind.wrap_u64 _), rfl⟩

theorem cmpI64_any (x y : Int) (w : World) :
    Calls Try.prog 58 #[.int .i64 x, .int .i64 y] w fun e w' => e = .returned (.int .i64 (cmpI x y)) ∧ w' = w := by
  unfold cmpI
  go_enter Try.func58, Try.ntmps58
  go_wp2
  all_goals (go_ret; exact ⟨rfl, rfl⟩)
theorem cmpU64_any (x y : Int) (w : World) :
    Calls Try.prog 59 #[.int .u64 x, .int .u64 y] w fun e w' => e = .returned (.int .i64 (cmpI x y)) ∧ w' = w := by
  unfold cmpI
  go_enter Try.func59, Try.ntmps59
  go_wp2
  all_goals (go_ret; exact ⟨rfl, rfl⟩)
end Go.Proofs.Ytkmgndaholglhaa.lw

namespace Go.Proofs.Ytkmgndaholglhaa.lw
open Go.RowKit
set_option linter.unusedVariables false
set_option maxRecDepth 100000

theorem u_neg (a : Int) (h0 : a < 0) (h1 : -9223372036854775808 ≤ a) : IntKind.u64.wrap a = a + 18446744073709551616 := by rw [IntKind.wrap_u64]; omega
theorem mul_pp (a b : Int) : wrap64 (a * b / 18446744073709551616) = hi (a * b) := by unfold wrap64 hi; omega
theorem mul_np (a b : Int) (a0 : a < 0) (a1 : -9223372036854775808 ≤ a) : wrap64 (IntKind.u64.wrap (IntKind.u64.wrap a * b / 18446744073709551616 - b)) = hi (a * b) := by
  rw [u_neg a a0 a1, Int.add_mul, IntKind.wrap_u64]; unfold wrap64 hi; omega
theorem mul_pn (a b : Int) (b0 : b < 0) (b1 : -9223372036854775808 ≤ b) : wrap64 (IntKind.u64.wrap (a * IntKind.u64.wrap b / 18446744073709551616 - a)) = hi (a * b) := by
  rw [u_neg b b0 b1, Int.mul_add, IntKind.wrap_u64]; unfold wrap64 hi; omega
theorem mul_nn (a b : Int) (a0 : a < 0) (a1 : -9223372036854775808 ≤ a) (b0 : b < 0) (b1 : -9223372036854775808 ≤ b) : wrap64 (IntKind.u64.wrap (IntKind.u64.wrap (IntKind.u64.wrap a * IntKind.u64.wrap b / 18446744073709551616 - IntKind.u64.wrap b) - IntKind.u64.wrap a)) = hi (a * b) := by
  rw [u_neg a a0 a1, u_neg b b0 b1, Int.add_mul, Int.mul_add, Int.mul_add, IntKind.wrap_u64, IntKind.wrap_u64]; unfold wrap64 hi; omega
theorem lo_pp (a b : Int) : a * b % 18446744073709551616 = lo (a * b) := rfl
theorem lo_np (a b : Int) : IntKind.u64.wrap a * b % 18446744073709551616 = lo (a * b) := by rw [IntKind.wrap_u64]; unfold lo; rw [Int.mul_emod, Int.emod_emod, ← Int.mul_emod]
theorem lo_pn (a b : Int) : a * IntKind.u64.wrap b % 18446744073709551616 = lo (a * b) := by rw [IntKind.wrap_u64]; unfold lo; rw [Int.mul_emod, Int.emod_emod, ← Int.mul_emod]

theorem mul_any_pp (a b : Int) (a0 : -9223372036854775808 ≤ a) (a1 : a ≤ 9223372036854775807) (b0 : -9223372036854775808 ≤ b) (b1 : b ≤ 9223372036854775807) (ha : 0 ≤ a) (hb : 0 ≤ b) (w : World) :
    Calls Try.prog 61 #[.int .i64 a, .int .i64 b] w fun e w' => e = .returned (.agg #[.int .i64 (hi (a * b)), .int .u64 (lo (a * b))]) ∧ Below w.heap.size w w' := by
  have va : IntKind.u64.wrap a < 18446744073709551616 := by rw [IntKind.wrap_u64]; omega
  have vb : IntKind.u64.wrap b < 18446744073709551616 := by rw [IntKind.wrap_u64]; omega
  go_enter Try.func61, Try.ntmps61
  go_wp2_with (go_at_call 72; refine (mul64_any _ _ ha (by omega) hb (by omega) _).mono ?_; rintro e w' ⟨rfl, rfl⟩)
  exact bodyPost_ret (v := .agg #[.int .i64 (hi (a * b)), .int .u64 (lo (a * b))]) (by simp [results, Try.results61, go_sem, lo_pp, mul_pp]) rfl ⟨rfl, (Below.refl _ _).alloc (Nat.le_refl _) _⟩
theorem mul_any_np (a b : Int) (a0 : -9223372036854775808 ≤ a) (a1 : a ≤ 9223372036854775807) (b0 : -9223372036854775808 ≤ b) (b1 : b ≤ 9223372036854775807) (ha : a < 0) (hb : 0 ≤ b) (w : World) :
    Calls Try.prog 61 #[.int .i64 a, .int .i64 b] w fun e w' => e = .returned (.agg #[.int .i64 (hi (a * b)), .int .u64 (lo (a * b))]) ∧ Below w.heap.size w w' := by
  have va : IntKind.u64.wrap a < 18446744073709551616 := by rw [IntKind.wrap_u64]; omega
  have vb : IntKind.u64.wrap b < 18446744073709551616 := by rw [IntKind.wrap_u64]; omega
  go_enter Try.func61, Try.ntmps61
  go_wp2_with (go_at_call 72; refine (mul64_any _ _ (wrap_u64_nonneg a) va hb (by omega) _).mono ?_; rintro e w' ⟨rfl, rfl⟩)
  exact bodyPost_ret (v := .agg #[.int .i64 (hi (a * b)), .int .u64 (lo (a * b))]) (by simp [results, Try.results61, go_sem, lo_np, mul_np a b ha a0]) rfl ⟨rfl, (Below.refl _ _).alloc (Nat.le_refl _) _⟩
theorem mul_any_pn (a b : Int) (a0 : -9223372036854775808 ≤ a) (a1 : a ≤ 9223372036854775807) (b0 : -9223372036854775808 ≤ b) (b1 : b ≤ 9223372036854775807) (ha : 0 ≤ a) (hb : b < 0) (w : World) :
    Calls Try.prog 61 #[.int .i64 a, .int .i64 b] w fun e w' => e = .returned (.agg #[.int .i64 (hi (a * b)), .int .u64 (lo (a * b))]) ∧ Below w.heap.size w w' := by
  have va : IntKind.u64.wrap a < 18446744073709551616 := by rw [IntKind.wrap_u64]; omega
  have vb : IntKind.u64.wrap b < 18446744073709551616 := by rw [IntKind.wrap_u64]; omega
  go_enter Try.func61, Try.ntmps61
  go_wp2_with (go_at_call 72; refine (mul64_any _ _ ha (by omega) (wrap_u64_nonneg b) vb _).mono ?_; rintro e w' ⟨rfl, rfl⟩)
  exact bodyPost_ret (v := .agg #[.int .i64 (hi (a * b)), .int .u64 (lo (a * b))]) (by simp [results, Try.results61, go_sem, lo_pn, mul_pn a b hb b0]) rfl ⟨rfl, (Below.refl _ _).alloc (Nat.le_refl _) _⟩
theorem mul_any_nn (a b : Int) (a0 : -9223372036854775808 ≤ a) (a1 : a ≤ 9223372036854775807) (b0 : -9223372036854775808 ≤ b) (b1 : b ≤ 9223372036854775807) (ha : a < 0) (hb : b < 0) (w : World) :
    Calls Try.prog 61 #[.int .i64 a, .int .i64 b] w fun e w' => e = .returned (.agg #[.int .i64 (hi (a * b)), .int .u64 (lo (a * b))]) ∧ Below w.heap.size w w' := by
  have va : IntKind.u64.wrap a < 18446744073709551616 := by rw [IntKind.wrap_u64]; omega
  have vb : IntKind.u64.wrap b < 18446744073709551616 := by rw [IntKind.wrap_u64]; omega
  go_enter Try.func61, Try.ntmps61
  go_wp2_with (go_at_call 72; refine (mul64_any _ _ (wrap_u64_nonneg a) va (wrap_u64_nonneg b) vb _).mono ?_; rintro e w' ⟨rfl, rfl⟩)
  exact bodyPost_ret (v := .agg #[.int .i64 (hi (a * b)), .int .u64 (lo (a * b))]) (by simp [results, Try.results61, go_sem, mul_lo, mul_nn a b ha a0 hb b0]) rfl ⟨rfl, (Below.refl _ _).alloc (Nat.le_refl _) _⟩
theorem mul_any (a b : Int) (a0 : -9223372036854775808 ≤ a) (a1 : a ≤ 9223372036854775807) (b0 : -9223372036854775808 ≤ b) (b1 : b ≤ 9223372036854775807) (w : World) :
    Calls Try.prog 61 #[.int .i64 a, .int .i64 b] w fun e w' => e = .returned (.agg #[.int .i64 (hi (a * b)), .int .u64 (lo (a * b))]) ∧ Below w.heap.size w w' := by
  rcases Int.lt_or_le a 0 with ha | ha <;> rcases Int.lt_or_le b 0 with hb | hb
  · exact mul_any_nn a b a0 a1 b0 b1 ha hb w
  · exact mul_any_np a b a0 a1 b0 b1 ha hb w
  · exact mul_any_pn a b a0 a1 b0 b1 ha hb w
  · exact mul_any_pp a b a0 a1 b0 b1 ha hb w

theorem cmp_hi (a b : Int) (a0 : -170141183460469231731687303715884105728 ≤ a) (a1 : a < 170141183460469231731687303715884105728) (b0 : -170141183460469231731687303715884105728 ≤ b) (b1 : b < 170141183460469231731687303715884105728) (h : hi a ≠ hi b) : cmpI (hi a) (hi b) = cmpI a b := by
  have e : hi a = a / 18446744073709551616 := by unfold hi; omega
  have e' : hi b = b / 18446744073709551616 := by unfold hi; omega
  rw [e, e'] at h ⊢; unfold cmpI; split <;> split <;> (try split) <;> (try split) <;> omega
theorem cmp_lo (a b : Int) (a0 : -170141183460469231731687303715884105728 ≤ a) (a1 : a < 170141183460469231731687303715884105728) (b0 : -170141183460469231731687303715884105728 ≤ b) (b1 : b < 170141183460469231731687303715884105728) (h : hi a = hi b) : cmpI (lo a) (lo b) = cmpI a b := by
  have e : hi a = a / 18446744073709551616 := by unfold hi; omega
  have e' : hi b = b / 18446744073709551616 := by unfold hi; omega
  rw [e, e'] at h; unfold cmpI lo; split <;> split <;> (try split) <;> (try split) <;> omega
theorem cmp_any {ah al bh bl : Int} (a b : Int) (ha : ah = hi a) (hl : al = lo a) (hb : bh = hi b) (hm : bl = lo b) (a0 : -170141183460469231731687303715884105728 ≤ a) (a1 : a < 170141183460469231731687303715884105728) (b0 : -170141183460469231731687303715884105728 ≤ b) (b1 : b < 170141183460469231731687303715884105728) (w : World) :
    Calls Try.prog 41 #[.agg #[.int .i64 ah, .int .u64 al], .agg #[.int .i64 bh, .int .u64 bl]] w fun e w' => e = .returned (.int .i64 (cmpI a b)) ∧ Below w.heap.size w w' := by
  subst ha hl hb hm
  by_cases g : hi a = hi b
  · have E : Hid _ := cmp_lo a b a0 a1 b0 b1 g
    have g' : (hi a == hi b) = true := by simpa using g
    clear g
    go_enter Try.func41, Try.ntmps41
    go_wp2_with (go_at_call 59; refine (cmpU64_any _ _ _).mono ?_; rintro e w' ⟨rfl, rfl⟩)
    go_ret
    exact ⟨ret_int E.out, ((Below.refl _ _).alloc (Nat.le_refl _) _).alloc (by simp) _⟩
  · have E : Hid _ := cmp_hi a b a0 a1 b0 b1 g
    have g' : (hi a == hi b) = false := by simpa using g
    clear g
    go_enter Try.func41, Try.ntmps41
    go_wp2_with (go_at_call 58; refine (cmpI64_any _ _ _).mono ?_; rintro e w' ⟨rfl, rfl⟩)
    go_ret
    exact ⟨ret_int E.out, ((Below.refl _ _).alloc (Nat.le_refl _) _).alloc (by simp) _⟩
theorem sign_any {ah al : Int} (a : Int) (ha : ah = hi a) (hl : al = lo a) (a0 : -170141183460469231731687303715884105728 ≤ a) (a1 : a < 170141183460469231731687303715884105728) (w : World) :
    Calls Try.prog 24 #[.agg #[.int .i64 ah, .int .u64 al]] w fun e w' => e = .returned (.int .i64 (cmpI a 0)) ∧ Below w.heap.size w w' := by
  subst ha hl
  go_enter Try.func24, Try.ntmps24
  go_wp2_with (go_at_call 41; refine (cmp_any a 0 rfl rfl hi_0 lo_0 a0 a1 (by decide) (by decide) _).mono ?_; rintro e w' ⟨rfl, hb⟩)
  go_ret
  exact ⟨rfl, ((Below.refl _ _).alloc (Nat.le_refl _) _).trans (hb.mono (by simp))⟩
end Go.Proofs.Ytkmgndaholglhaa.lw

namespace Go.Proofs.Ytkmgndaholglhaa
open Go.RowKit
set_option linter.unusedVariables false

/-- The cells of points, one behind the other. -/
def pcells : List (Int × Int) → List Value
  | [] => []
  | p :: l => .int .i64 p.1 :: .int .i64 p.2 :: pcells l
theorem pcells_at : ∀ (L : List (Int × Int)) (k : Nat) (x y : Int), L[k]? = some (x, y) → (pcells L)[k * 2]? = some (.int .i64 x) ∧ (pcells L)[k * 2 + 1]? = some (.int .i64 y)
  | [], k, x, y, h => by simp at h
  | p :: l, 0, x, y, h => by simp at h; subst h; exact ⟨rfl, rfl⟩
  | p :: l, k + 1, x, y, h => by
    have h' : l[k]? = some (x, y) := by simpa using h
    have := pcells_at l k x y h'
    have e1 : (k + 1) * 2 = k * 2 + 1 + 1 := by omega
    rw [e1]
    exact ⟨this.1, this.2⟩
/-- Whether all points can be. -/
def canAll (L : List (Int × Int)) : Bool := L.all fun p => canC p.1 p.2
theorem canAll_drop {L : List (Int × Int)} {k : Nat} {x y : Int} (h : L[k]? = some (x, y)) : canAll (L.drop k) = (canC x y && canAll (L.drop (k + 1))) := by
  obtain ⟨hk, he⟩ := List.getElem?_eq_some_iff.1 h
  rw [List.drop_eq_getElem_cons hk, he]
  rfl
theorem lw_sign (x : Int) : lw.cmpI x 0 = x.sign := cmp_sign x
set_option maxRecDepth 100000 in
theorem pcan (L : List (Int × Int)) (n b : Nat) (w : World) (hn : n = L.length) (hs : n ≤ 1000) (hr : Row w b (pcells L)) (hb : b < w.heap.size) {r : Bool} (hres : r = canAll L) : Calls Try.prog 42 #[.slice (some ⟨b, 0, none⟩) n n] w fun e w' => e = .returned (.bool r) ∧ Below w.heap.size w w' := by
  subst hn
  have HR : Hid _ := hres
  clear hres
  go_enter Try.func42, Try.ntmps42
  go_wp2
  go_loopw [7] (fun i wr => ∃ k : Nat, k ≤ L.length ∧ i = .int .i64 (k : Int) ∧ canAll L = canAll (L.drop k) ∧ Below w.heap.size w wr) (fun i _ => L.length - (intOf i).toNat)
  case atStart => exact ⟨0, by omega, rfl, rfl, Below.refl _ _⟩
  case round =>
    obtain ⟨k, hk, rfl, hd, bel⟩ := hrel
    by_cases hlt : k < L.length
    · obtain ⟨x, y, hxy⟩ : ∃ x y, L[k]? = some (x, y) := ⟨L[k].1, L[k].2, by rw [List.getElem?_eq_getElem hlt]⟩
      obtain ⟨c1, c2⟩ := pcells_at L k x y hxy
      have hr' := hr.below bel hb
      have q1 := hr'.cell _ _ c1
      have q2 := hr'.cell _ _ c2
      rw [canAll_drop hxy] at hd
      have HD : Hid _ := hd
      clear hr hr' hxy c1 c2 hd
      obtain ⟨V, hV, bV, x_p, sV⟩ := bs_2 wr (.int .i64 x) (.int .i64 y) 31
      cases hc : canC x y
      · go_wp2_with (go_at_call 26; fail)
        rw [← hV]
        clear hV
        refine (lCan x y V hc.symm).mono ?_
        rintro e w1 ⟨rfl, b1⟩
        go_wp2
        go_ret
        exact ⟨by rw [HR.out, HD.out, hc]; rfl, also (also bel bV) b1⟩
      · go_wp2_with (go_at_call 26; fail)
        rw [← hV]
        clear hV
        refine (lCan x y V hc.symm).mono ?_
        rintro e w1 ⟨rfl, b1⟩
        have hw : wrap64 ((k : Int) + 1) = (k : Int) + 1 := wrap_in (by omega) (by omega)
        go_wp2
        go_roundw
        case rel => exact ⟨k + 1, by omega, by simp, by rw [HD.out, hc]; rfl, also (also bel bV) b1⟩
        case measure => simp [intOf]; omega
    · obtain rfl : k = L.length := by omega
      go_wp2
      go_ret
      exact ⟨by rw [HR.out, hd, List.drop_length]; rfl, bel⟩
theorem can3 {a1 a2 b1 b2 c1 c2 : Int} : canAll [(a1, a2), (b1, b2), (c1, c2)] = true ↔ (canC a1 a2 = true ∧ canC b1 b2 = true ∧ canC c1 c2 = true) := by simp [canAll]
theorem can4 {a1 a2 b1 b2 c1 c2 d1 d2 : Int} : canAll [(a1, a2), (b1, b2), (c1, c2), (d1, d2)] = true ↔ (canC a1 a2 = true ∧ canC b1 b2 = true ∧ canC c1 c2 = true ∧ canC d1 d2 = true) := by simp [canAll]
/-- Differences of points that can be. -/
theorem can_sub {x y : Int} (hx : inC x = true) (hy : inC y = true) : wrap64 (x - y) = x - y ∧ -9223372036854775808 ≤ x - y ∧ x - y ≤ 9223372036854775807 := by
  have h := can_diff hx hy
  exact ⟨wrap_in (by omega) (by omega), by omega, by omega⟩
/-- Twice the area, the square of the distance, as they are told: nought, if a point can't be. -/
def arP (a1 a2 b1 b2 c1 c2 : Int) : Int := if canAll [(a1, a2), (b1, b2), (c1, c2)] then areaP a1 a2 b1 b2 c1 c2 else 0
theorem area_wide {a1 a2 b1 b2 c1 c2 : Int} (ha : canC a1 a2 = true) (hb : canC b1 b2 = true) (hc : canC c1 c2 = true) : -10000000000000000000000000 ≤ areaP a1 a2 b1 b2 c1 c2 ∧ areaP a1 a2 b1 b2 c1 c2 ≤ 10000000000000000000000000 := by
  have h := area_abs (D := 2199023255552) (can_diff (canC_true.1 hb).1 (canC_true.1 ha).1) (can_diff (canC_true.1 hb).2 (canC_true.1 ha).2) (can_diff (canC_true.1 hc).1 (canC_true.1 ha).1) (can_diff (canC_true.1 hc).2 (canC_true.1 ha).2)
  omega
theorem dist_wide {a1 a2 b1 b2 : Int} (ha : canC a1 a2 = true) (hb : canC b1 b2 = true) : 0 ≤ distP a1 a2 b1 b2 ∧ distP a1 a2 b1 b2 ≤ 10000000000000000000000000 := by
  have h := dist_abs (D := 2199023255552) (can_diff (canC_true.1 hb).1 (canC_true.1 ha).1) (can_diff (canC_true.1 hb).2 (canC_true.1 ha).2)
  have := dist_nonneg a1 a2 b1 b2
  omega
theorem ar_wide (a1 a2 b1 b2 c1 c2 : Int) : -10000000000000000000000000 ≤ arP a1 a2 b1 b2 c1 c2 ∧ arP a1 a2 b1 b2 c1 c2 ≤ 10000000000000000000000000 := by
  unfold arP
  cases h : canAll [(a1, a2), (b1, b2), (c1, c2)]
  · exact ⟨by simp, by simp⟩
  · obtain ⟨h1, h2, h3⟩ := can3.1 h
    exact area_wide h1 h2 h3
set_option maxRecDepth 100000 in
set_option maxHeartbeats 4000000 in
theorem parea (a1 a2 b1 b2 c1 c2 : Int) (w : World) (ha : canC a1 a2 = true) (hb : canC b1 b2 = true) (hc : canC c1 c2 = true) {u v : Int} (hu : u = lw.hi (areaP a1 a2 b1 b2 c1 c2)) (hv : v = lw.lo (areaP a1 a2 b1 b2 c1 c2)) :
    Calls Try.prog 43 #[.agg #[.int .i64 a1, .int .i64 a2], .agg #[.int .i64 b1, .int .i64 b2], .agg #[.int .i64 c1, .int .i64 c2]] w fun e w' => e = .returned (.agg #[.int .i64 u, .int .u64 v]) ∧ Below w.heap.size w w' := by
  obtain ⟨x, hx⟩ : ∃ x, x = b1 - a1 := ⟨_, rfl⟩
  have c_x := can_sub (canC_true.1 hb).1 (canC_true.1 ha).1
  rw [← hx] at c_x
  have w_x : wrap64 (b1 - a1) = x := by rw [← hx]; exact c_x.1
  have v_x : IntKind.i64.wrap (b1 - a1) = x := (wrap_i64 _).trans w_x
  have R_x : Hid _ := c_x.2
  have E_x : Hid _ := hx
  clear c_x hx
  obtain ⟨y, hy⟩ : ∃ y, y = c2 - a2 := ⟨_, rfl⟩
  have c_y := can_sub (canC_true.1 hc).2 (canC_true.1 ha).2
  rw [← hy] at c_y
  have w_y : wrap64 (c2 - a2) = y := by rw [← hy]; exact c_y.1
  have v_y : IntKind.i64.wrap (c2 - a2) = y := (wrap_i64 _).trans w_y
  have R_y : Hid _ := c_y.2
  have E_y : Hid _ := hy
  clear c_y hy
  obtain ⟨z, hz⟩ : ∃ z, z = b2 - a2 := ⟨_, rfl⟩
  have c_z := can_sub (canC_true.1 hb).2 (canC_true.1 ha).2
  rw [← hz] at c_z
  have w_z : wrap64 (b2 - a2) = z := by rw [← hz]; exact c_z.1
  have v_z : IntKind.i64.wrap (b2 - a2) = z := (wrap_i64 _).trans w_z
  have R_z : Hid _ := c_z.2
  have E_z : Hid _ := hz
  clear c_z hz
  obtain ⟨t, ht⟩ : ∃ t, t = c1 - a1 := ⟨_, rfl⟩
  have c_t := can_sub (canC_true.1 hc).1 (canC_true.1 ha).1
  rw [← ht] at c_t
  have w_t : wrap64 (c1 - a1) = t := by rw [← ht]; exact c_t.1
  have v_t : IntKind.i64.wrap (c1 - a1) = t := (wrap_i64 _).trans w_t
  have R_t : Hid _ := c_t.2
  have E_t : Hid _ := ht
  clear c_t ht
  have HU : Hid (u = lw.hi (x * y - z * t)) := by unfold Hid; rw [hu, E_x.out, E_y.out, E_z.out, E_t.out]; rfl
  have HV : Hid (v = lw.lo (x * y - z * t)) := by unfold Hid; rw [hv, E_x.out, E_y.out, E_z.out, E_t.out]; rfl
  clear hu hv ha hb hc
  obtain ⟨W, hW, bW, x_a, x_b, x_c, x_r, sW⟩ := bs_2222 w (.int .i64 a1) (.int .i64 a2) (.int .i64 b1) (.int .i64 b2) (.int .i64 c1) (.int .i64 c2) (.int .i64 0) (.int .u64 0) 31 31 31 49
  have zbW := bW.size
  have BB := bW
  go_enter Try.func43, Try.ntmps43
  go_wp2
  rw [← hW]
  clear hW
  have dd1 : Below W.heap.size W W.drew := (Below.refl _ _).drew
  have zdd1 := dd1.size
  replace BB := also BB dd1
  replace x_a := x_a.on dd1
  replace x_b := x_b.on dd1
  replace x_c := x_c.on dd1
  replace x_r := x_r.on dd1
  refine wp_region_held_drew (S := (fun w' => w'.cell? ⟨w.heap.size, 0, none⟩ = some (.int .i64 a1) ∧ w'.cell? ⟨w.heap.size, 1, none⟩ = some (.int .i64 a2) ∧ w'.cell? ⟨w.heap.size + 1, 0, none⟩ = some (.int .i64 b1) ∧ w'.cell? ⟨w.heap.size + 1, 1, none⟩ = some (.int .i64 b2) ∧ w'.cell? ⟨w.heap.size + 1 + 1, 0, none⟩ = some (.int .i64 c1) ∧ w'.cell? ⟨w.heap.size + 1 + 1, 1, none⟩ = some (.int .i64 c2) ∧ Below w.heap.size w w')) (by kernel_rfl) ?_ (fun hHeld => ?_)
  · exact ⟨x_a.c0, x_a.c1, x_b.c0, x_b.c1, x_c.c0, x_c.c1, BB⟩
  refine ty (i := 0) (v := ?vs0) rfl ?hys0 ?_
  case hys0 => (intro w hSw; (try dsimp only at hSw); go_simp <;> with_reducible rfl)
  simp only [Act.put, ps1, ps2, ps3]
  refine ty (i := 1) (v := ?vs1) rfl ?hys1 ?_
  case hys1 => (intro w hSw; (try dsimp only at hSw); go_simp <;> with_reducible rfl)
  simp only [Act.put, ps1, ps2, ps3]
  refine ty (i := 2) (v := ?vs2) rfl ?hys2 ?_
  case hys2 => (intro w hSw; (try dsimp only at hSw); go_simp <;> with_reducible rfl)
  simp only [Act.put, ps1, ps2, ps3]
  refine ty (i := 3) (v := ?vs3) rfl ?hys3 ?_
  case hys3 => (intro w hSw; (try dsimp only at hSw); go_simp <;> with_reducible rfl)
  simp only [Act.put, ps1, ps2, ps3]
  refine ty (i := 4) (v := ?vs4) rfl ?hys4 ?_
  case hys4 => (intro w hSw; (try dsimp only at hSw); go_simp <;> with_reducible rfl)
  simp only [Act.put, ps1, ps2, ps3]
  refine ty (i := 5) (v := ?vs5) rfl ?hys5 ?_
  case hys5 => (intro w hSw; (try dsimp only at hSw); go_simp <;> with_reducible rfl)
  simp only [Act.put, ps1, ps2, ps3]
  refine ty (i := 6) (v := ?vs6) rfl ?hys6 ?_
  case hys6 => (intro w hSw; (try dsimp only at hSw); go_simp <;> with_reducible rfl)
  simp only [Act.put, ps1, ps2, ps3]
  refine ty (i := 7) (v := ?vs7) rfl ?hys7 ?_
  case hys7 => (intro w hSw; (try dsimp only at hSw); go_simp <;> with_reducible rfl)
  simp only [Act.put, ps1, ps2, ps3]
  refine ty (i := 8) (v := ?vs8) rfl ?hys8 ?_
  case hys8 => (intro w hSw; (try dsimp only at hSw); go_simp <;> with_reducible rfl)
  simp only [Act.put, ps1, ps2, ps3]
  refine ty (i := 9) (v := ?vs9) rfl ?hys9 ?_
  case hys9 => (intro w hSw; (try dsimp only at hSw); go_simp <;> with_reducible rfl)
  simp only [Act.put, ps1, ps2, ps3]
  refine ty (i := 11) (v := ?vs11) rfl ?hys11 ?_
  case hys11 => (intro w hSw; (try dsimp only at hSw); go_simp <;> with_reducible rfl)
  simp only [Act.put, ps1, ps2, ps3]
  refine ty (i := 12) (v := ?vs12) rfl ?hys12 ?_
  case hys12 => (intro w hSw; (try dsimp only at hSw); go_simp <;> with_reducible rfl)
  simp only [Act.put, ps1, ps2, ps3]
  refine ty (i := 13) (v := ?vs13) rfl ?hys13 ?_
  case hys13 => (intro w hSw; (try dsimp only at hSw); go_simp <;> with_reducible rfl)
  simp only [Act.put, ps1, ps2, ps3]
  refine ty (i := 14) (v := ?vs14) rfl ?hys14 ?_
  case hys14 => (intro w hSw; (try dsimp only at hSw); go_simp <;> with_reducible rfl)
  simp only [Act.put, ps1, ps2, ps3]
  refine ty (i := 15) (v := ?vs15) rfl ?hys15 ?_
  case hys15 => (intro w hSw; (try dsimp only at hSw); go_simp <;> with_reducible rfl)
  simp only [Act.put, ps1, ps2, ps3]
  refine ty (i := 16) (v := ?vs16) rfl ?hys16 ?_
  case hys16 => (intro w hSw; (try dsimp only at hSw); go_simp <;> with_reducible rfl)
  simp only [Act.put, ps1, ps2, ps3]
  refine ty (i := 17) (v := ?vs17) rfl ?hys17 ?_
  case hys17 => (intro w hSw; (try dsimp only at hSw); go_simp <;> with_reducible rfl)
  simp only [Act.put, ps1, ps2, ps3]
  refine ty (i := 18) (v := ?vs18) rfl ?hys18 ?_
  case hys18 => (intro w hSw; (try dsimp only at hSw); go_simp <;> with_reducible rfl)
  simp only [Act.put, ps1, ps2, ps3]
  refine ty (i := 19) (v := ?vs19) rfl ?hys19 ?_
  case hys19 => (intro w hSw; (try dsimp only at hSw); go_simp <;> with_reducible rfl)
  simp only [Act.put, ps1, ps2, ps3]
  refine ty (i := 20) (v := ?vs20) rfl ?hys20 ?_
  case hys20 => (intro w hSw; (try dsimp only at hSw); go_simp <;> with_reducible rfl)
  simp only [Act.put, ps1, ps2, ps3]
  refine take_call (i := 10) rfl (by kernel_rfl) (fun Kc hK => ?_)
  go_simp
  (go_at_call 61; refine (lw.mul_any x y R_x.out.1 R_x.out.2 R_y.out.1 R_y.out.2 _).mono ?_; rintro e w1 ⟨rfl, bw1⟩)
  refine hK.out _ _ ?_ (fun hHeld => ?_)
  · exact ⟨cell_on bw1 hHeld.1, cell_on bw1 hHeld.2.1, cell_on bw1 hHeld.2.2.1, cell_on bw1 hHeld.2.2.2.1, cell_on bw1 hHeld.2.2.2.2.1, cell_on bw1 hHeld.2.2.2.2.2.1, also hHeld.2.2.2.2.2.2 bw1⟩
  clear hK Kc
  have zbw1 := bw1.size
  replace BB := also BB bw1
  replace x_a := x_a.on bw1
  replace x_b := x_b.on bw1
  replace x_c := x_c.on bw1
  replace x_r := x_r.on bw1
  refine take_call (i := 21) rfl (by kernel_rfl) (fun Kc hK => ?_)
  go_simp
  (go_at_call 61; refine (lw.mul_any z t R_z.out.1 R_z.out.2 R_t.out.1 R_t.out.2 _).mono ?_; rintro e w2 ⟨rfl, bw2⟩)
  refine hK.out _ _ ?_ (fun hHeld => ?_)
  · exact ⟨cell_on bw2 hHeld.1, cell_on bw2 hHeld.2.1, cell_on bw2 hHeld.2.2.1, cell_on bw2 hHeld.2.2.2.1, cell_on bw2 hHeld.2.2.2.2.1, cell_on bw2 hHeld.2.2.2.2.2.1, also hHeld.2.2.2.2.2.2 bw2⟩
  clear hK Kc
  have zbw2 := bw2.size
  replace BB := also BB bw2
  replace x_a := x_a.on bw2
  replace x_b := x_b.on bw2
  replace x_c := x_c.on bw2
  replace x_r := x_r.on bw2
  refine take_call (i := 22) rfl (by kernel_rfl) (fun Kc hK => ?_)
  go_simp
  (go_at_call 60; refine (lw.sub_any (x * y) (z * t) rfl rfl rfl rfl _).mono ?_; rintro e w3 ⟨rfl, bw3⟩)
  refine hK.out _ _ ?_ (fun hHeld => ?_)
  · exact ⟨cell_on bw3 hHeld.1, cell_on bw3 hHeld.2.1, cell_on bw3 hHeld.2.2.1, cell_on bw3 hHeld.2.2.2.1, cell_on bw3 hHeld.2.2.2.2.1, cell_on bw3 hHeld.2.2.2.2.2.1, also hHeld.2.2.2.2.2.2 bw3⟩
  clear hK Kc
  have zbw3 := bw3.size
  replace BB := also BB bw3
  replace x_a := x_a.on bw3
  replace x_b := x_b.on bw3
  replace x_c := x_c.on bw3
  replace x_r := x_r.on bw3
  have ⟨x_r_0, x_r_1, x_r_2, x_r_3⟩ := x_r
  refine take_call (i := 23) rfl (by kernel_rfl) (fun Kc hK => ?_)
  go_simp
  refine hK.out _ _ ?_ (fun hHeld => ?_)
  · first | exact ⟨cell_put2 hHeld.1 (by omega) _ _, cell_put2 hHeld.2.1 (by omega) _ _, cell_put2 hHeld.2.2.1 (by omega) _ _, cell_put2 hHeld.2.2.2.1 (by omega) _ _, cell_put2 hHeld.2.2.2.2.1 (by omega) _ _, cell_put2 hHeld.2.2.2.2.2.1 (by omega) _ _, below_put2 hHeld.2.2.2.2.2.2 (by omega) _ _⟩ | exact ⟨x_a.c0, x_a.c1, x_b.c0, x_b.c1, x_c.c0, x_c.c1, BB⟩
  clear hK Kc
  refine wpAnyH_done (by kernel_rfl) ?_ _
  go_wp2
  exact bodyPost_ret (v := .agg #[.int .i64 (lw.hi (x * y - z * t)), .int .u64 (lw.lo (x * y - z * t))]) (by simp [results, Try.results43, go_sem, *]) rfl (⟨by rw [HU.out, HV.out], below_put2 BB (by omega) _ _⟩)
set_option maxRecDepth 100000 in
set_option maxHeartbeats 4000000 in
theorem pdist (a1 a2 b1 b2 : Int) (w : World) (ha : canC a1 a2 = true) (hb : canC b1 b2 = true) {u v : Int} (hu : u = lw.hi (distP a1 a2 b1 b2)) (hv : v = lw.lo (distP a1 a2 b1 b2)) :
    Calls Try.prog 46 #[.agg #[.int .i64 a1, .int .i64 a2], .agg #[.int .i64 b1, .int .i64 b2]] w fun e w' => e = .returned (.agg #[.int .i64 u, .int .u64 v]) ∧ Below w.heap.size w w' := by
  obtain ⟨x, hx⟩ : ∃ x, x = b1 - a1 := ⟨_, rfl⟩
  have c_x := can_sub (canC_true.1 hb).1 (canC_true.1 ha).1
  rw [← hx] at c_x
  have w_x : wrap64 (b1 - a1) = x := by rw [← hx]; exact c_x.1
  have v_x : IntKind.i64.wrap (b1 - a1) = x := (wrap_i64 _).trans w_x
  have R_x : Hid _ := c_x.2
  have E_x : Hid _ := hx
  clear c_x hx
  obtain ⟨y, hy⟩ : ∃ y, y = b2 - a2 := ⟨_, rfl⟩
  have c_y := can_sub (canC_true.1 hb).2 (canC_true.1 ha).2
  rw [← hy] at c_y
  have w_y : wrap64 (b2 - a2) = y := by rw [← hy]; exact c_y.1
  have v_y : IntKind.i64.wrap (b2 - a2) = y := (wrap_i64 _).trans w_y
  have R_y : Hid _ := c_y.2
  have E_y : Hid _ := hy
  clear c_y hy
  have HU : Hid (u = lw.hi (x * x + y * y)) := by unfold Hid; rw [hu, E_x.out, E_y.out]; rfl
  have HV : Hid (v = lw.lo (x * x + y * y)) := by unfold Hid; rw [hv, E_x.out, E_y.out]; rfl
  clear hu hv ha hb
  obtain ⟨W, hW, bW, x_a, x_b, x_r, sW⟩ := bs_222 w (.int .i64 a1) (.int .i64 a2) (.int .i64 b1) (.int .i64 b2) (.int .i64 0) (.int .u64 0) 31 31 49
  have zbW := bW.size
  have BB := bW
  go_enter Try.func46, Try.ntmps46
  go_wp2
  rw [← hW]
  clear hW
  have dd1 : Below W.heap.size W W.drew := (Below.refl _ _).drew
  have zdd1 := dd1.size
  replace BB := also BB dd1
  replace x_a := x_a.on dd1
  replace x_b := x_b.on dd1
  replace x_r := x_r.on dd1
  refine wp_region_held_drew (S := (fun w' => w'.cell? ⟨w.heap.size, 0, none⟩ = some (.int .i64 a1) ∧ w'.cell? ⟨w.heap.size, 1, none⟩ = some (.int .i64 a2) ∧ w'.cell? ⟨w.heap.size + 1, 0, none⟩ = some (.int .i64 b1) ∧ w'.cell? ⟨w.heap.size + 1, 1, none⟩ = some (.int .i64 b2) ∧ Below w.heap.size w w')) (by kernel_rfl) ?_ (fun hHeld => ?_)
  · exact ⟨x_a.c0, x_a.c1, x_b.c0, x_b.c1, BB⟩
  refine ty (i := 0) (v := ?vs0) rfl ?hys0 ?_
  case hys0 => (intro w hSw; (try dsimp only at hSw); go_simp <;> with_reducible rfl)
  simp only [Act.put, ps1, ps2, ps3]
  refine ty (i := 1) (v := ?vs1) rfl ?hys1 ?_
  case hys1 => (intro w hSw; (try dsimp only at hSw); go_simp <;> with_reducible rfl)
  simp only [Act.put, ps1, ps2, ps3]
  refine ty (i := 2) (v := ?vs2) rfl ?hys2 ?_
  case hys2 => (intro w hSw; (try dsimp only at hSw); go_simp <;> with_reducible rfl)
  simp only [Act.put, ps1, ps2, ps3]
  refine ty (i := 3) (v := ?vs3) rfl ?hys3 ?_
  case hys3 => (intro w hSw; (try dsimp only at hSw); go_simp <;> with_reducible rfl)
  simp only [Act.put, ps1, ps2, ps3]
  refine ty (i := 4) (v := ?vs4) rfl ?hys4 ?_
  case hys4 => (intro w hSw; (try dsimp only at hSw); go_simp <;> with_reducible rfl)
  simp only [Act.put, ps1, ps2, ps3]
  refine ty (i := 5) (v := ?vs5) rfl ?hys5 ?_
  case hys5 => (intro w hSw; (try dsimp only at hSw); go_simp <;> with_reducible rfl)
  simp only [Act.put, ps1, ps2, ps3]
  refine ty (i := 6) (v := ?vs6) rfl ?hys6 ?_
  case hys6 => (intro w hSw; (try dsimp only at hSw); go_simp <;> with_reducible rfl)
  simp only [Act.put, ps1, ps2, ps3]
  refine ty (i := 7) (v := ?vs7) rfl ?hys7 ?_
  case hys7 => (intro w hSw; (try dsimp only at hSw); go_simp <;> with_reducible rfl)
  simp only [Act.put, ps1, ps2, ps3]
  refine ty (i := 8) (v := ?vs8) rfl ?hys8 ?_
  case hys8 => (intro w hSw; (try dsimp only at hSw); go_simp <;> with_reducible rfl)
  simp only [Act.put, ps1, ps2, ps3]
  refine ty (i := 9) (v := ?vs9) rfl ?hys9 ?_
  case hys9 => (intro w hSw; (try dsimp only at hSw); go_simp <;> with_reducible rfl)
  simp only [Act.put, ps1, ps2, ps3]
  refine ty (i := 10) (v := ?vs10) rfl ?hys10 ?_
  case hys10 => (intro w hSw; (try dsimp only at hSw); go_simp <;> with_reducible rfl)
  simp only [Act.put, ps1, ps2, ps3]
  refine ty (i := 11) (v := ?vs11) rfl ?hys11 ?_
  case hys11 => (intro w hSw; (try dsimp only at hSw); go_simp <;> with_reducible rfl)
  simp only [Act.put, ps1, ps2, ps3]
  refine wpAnyH_done (by kernel_rfl) ?_ _
  go_wp2_with (go_at_call 61; fail)
  refine (lw.mul_any x x R_x.out.1 R_x.out.2 R_x.out.1 R_x.out.2 _).mono ?_
  rintro e w1 ⟨rfl, bw1⟩
  have zbw1 := bw1.size
  replace BB := also BB bw1
  replace x_a := x_a.on bw1
  replace x_b := x_b.on bw1
  replace x_r := x_r.on bw1
  go_wp2_with (go_at_call 61; fail)
  refine (lw.mul_any y y R_y.out.1 R_y.out.2 R_y.out.1 R_y.out.2 _).mono ?_
  rintro e w2 ⟨rfl, bw2⟩
  have zbw2 := bw2.size
  replace BB := also BB bw2
  replace x_a := x_a.on bw2
  replace x_b := x_b.on bw2
  replace x_r := x_r.on bw2
  go_wp2_with (go_at_call 65; fail)
  refine (lw.add_any (x * x) (y * y) rfl rfl rfl rfl _).mono ?_
  rintro e w3 ⟨rfl, bw3⟩
  have zbw3 := bw3.size
  replace BB := also BB bw3
  replace x_a := x_a.on bw3
  replace x_b := x_b.on bw3
  replace x_r := x_r.on bw3
  have ⟨x_r_0, x_r_1, x_r_2, x_r_3⟩ := x_r
  go_wp2
  exact bodyPost_ret (v := .agg #[.int .i64 (lw.hi (x * x + y * y)), .int .u64 (lw.lo (x * x + y * y))]) (by simp [results, Try.results46, go_sem, *]) rfl (⟨by rw [HU.out, HV.out], below_put2 BB (by omega) _ _⟩)
end Go.Proofs.Ytkmgndaholglhaa
