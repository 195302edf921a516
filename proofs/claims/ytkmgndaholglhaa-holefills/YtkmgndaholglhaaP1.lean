/-
  Joined texts, part 1:
  Rows of values in one block of memory: what is read of them behind a store, a draw, a new block, a call that leaves old memory alone. It imports nothing of the program.
  Slices in memory, wherever they begin in their block: what is read of them behind a store, a draw, a new block, a call. It imports nothing of the program.
  Numbers as digits to the base 4294967296: which digits a sum, a difference, a product has. It imports nothing of the program.
  What nat's Trim and Of answer; sums and differences of words.
  Sums and differences of words.
  What nat's Add answers.
  Numbers as digits to the base 65536: which digits a sum, a difference, a product has. It imports nothing of the program.
  How many digits a number needs, to the base 65536, and its digits without noughts at the end. It imports nothing of the program.
  The arithmetic of a difference, and of a division by a small number, digit by digit. It imports nothing of the program.
  The arithmetic of a product, digit by digit. It imports nothing of the program.
  Digits to the base 65536, cut, joined, held against each other. It imports nothing of the program.
  A region whose order is open, an operation at a time: one that is wanted and yields in every world of interest, one that is not wanted, a call. It imports nothing of the program.
  What zelligeref03's Trim and Of answer.
  slices.Backward over a nat: what a loop over it is handed.
  What nat's Cmp answers.
  What nat's Cmp answers where both numbers have the same length.
  What nat answers, with letters for the lengths: the contracts of the other texts, said once more for those who call nat.
  Slices apart from a block, so that what is stored there leaves them as they are; and what nat answers, apart from all that was there before.
  Whole numbers in memory; what package whole's signed and plus answer.
  What package whole's Add, Sub, Neg, Norm and Mul answer.
  Points over a torus: which can be, where they lie, in which order. It imports nothing of the program.
  Areas, squares of distances, the circle's determinant: how great they are, what becomes of them when points are put for one another or moved. It imports nothing of the program.
  Which of two triangles is taken, where four points lie on a circle: the order of points, what does away with what, and that it is an order among the points to the left of an edge. It imports nothing of the program.
  Of the points to the left of an edge, what does away with what is an order: so of some there is one with which none does away. It imports nothing of the program.
-/
import Derived.WalkKit
import Derived.WalkSmall
import Derived.Laws.OwnMore
import Derived.OwnWalk
import Derived.Laws.AppendOwnNone
import Derived.Test.YtkmgndaholglhaaRows
import Derived.WalkSpells
import Derived.Deep.QuietTactic
import Derived.BigQuiet
import Derived.RegionTactic
import Derived.ChangeAlike
import Derived.Laws.BitsAllLaws
import Derived.Deep.RegionWith
import Derived.Deep.RegionHeld3
import Derived.Deep.AppendLies
import Derived.RangeFuncNested
import Derived.RangeFuncBound
import Derived.RangeFuncCalls
import Derived.RangeFuncLeaves
import Derived.RangeFuncBox
import Derived.Shelf.Abstract
import Derived.Shelf.RegionOpen
import Derived.OwnWalkIn
import Derived.TacticsInMore
import Derived.LoopNIn
import Derived.LoopIn
import Derived.Lib.ItoaNum
import Derived.Lib.IndexBytes
import Derived.Laws.BytesArg
namespace Go.Proofs.Ytkmgndaholglhaa
open Go.RowKit

def Row (w : World) (b : Nat) (xs : List Value) : Prop := ∀ j v, xs[j]? = some v → w.cell? ⟨b, j, none⟩ = some v ∧ w.frozen? ⟨b, j, none⟩ = false
theorem Row.cell {w : World} {b : Nat} {xs : List Value} (h : Row w b xs) (j : Nat) (v : Value) (hj : xs[j]? = some v) : w.cell? ⟨b, j, none⟩ = some v := (h j v hj).1
theorem Row.free {w : World} {b : Nat} {xs : List Value} (h : Row w b xs) (j : Nat) (hj : j < xs.length) : w.frozen? ⟨b, j, none⟩ = false := (h j xs[j] (List.getElem?_eq_getElem hj)).2
theorem Row.drewN {w : World} {b : Nat} {xs : List Value} (h : Row w b xs) (n : Nat) : Row (w.drewN n) b xs := h
theorem Row.drew {w : World} {b : Nat} {xs : List Value} (h : Row w b xs) : Row w.drew b xs := h
theorem Row.set {w : World} {b : Nat} {xs : List Value} (h : Row w b xs) (i : Nat) (v : Value) (hi : i < xs.length) : Row (w.setCell ⟨b, i, none⟩ v) b (xs.set i v) := by
 intro j u hu
 rw [World.frozen?_setCell]
 by_cases e : i = j
 ·subst e
  rw [List.getElem?_set_self hi] at hu
  simp only [Option.some.injEq] at hu
  subst hu
  exact ⟨World.cell?_setCell_same _ _ _ (h.cell i xs[i] (List.getElem?_eq_getElem hi)), h.free i hi⟩
 ·rw [List.getElem?_set_ne e] at hu
  rw [World.cell?_setCell_other _ _ _ _ (by intro q; simp only [Addr.mk.injEq] at q; omega)]
  exact h j u hu
theorem Row.below {w w' : World} {b B : Nat} {xs : List Value} (h : Row w b xs) (hb : Below B w w') (hB : b < B) : Row w' b xs := by
 intro j u hu
 rw [hb.cell (p := ⟨b, j, none⟩) hB, hb.frozen (p := ⟨b, j, none⟩) hB]
 exact h j u hu
theorem Row.other {w : World} {b c i : Nat} {xs : List Value} (h : Row w b xs) (v : Value) (hc : c ≠ b) : Row (w.setCell ⟨c, i, none⟩ v) b xs := by
 intro j u hu
 rw [World.frozen?_setCell, World.cell?_setCell_other _ _ _ _ (by intro q; simp only [Addr.mk.injEq] at q; omega)]
 exact h j u hu
theorem Row.new (w : World) (xs : List Value) (t : TypeId) : Row (w.alloc (.cells xs.toArray t)) w.heap.size xs := by
 intro j u hu
 rw [World.cell?_alloc_new, World.frozen?_alloc_new]
 exact ⟨by simpa using hu, rfl⟩
theorem Row.alloc {w : World} {b : Nat} {xs : List Value} (h : Row w b xs) (o : Obj) (hb : b < w.heap.size) : Row (w.alloc o) b xs :=
 h.below (((Below.refl _ _).alloc (Nat.le_refl _) o)) hb
theorem bcell {W w1 : World} (hb : Below W.heap.size W w1) : (∀ b o, b < W.heap.size → w1.cell? ⟨b, o, none⟩ = W.cell? ⟨b, o, none⟩) ∧ (∀ b o, b < W.heap.size → w1.frozen? ⟨b, o, none⟩ = W.frozen? ⟨b, o, none⟩) :=
 ⟨fun b o h => hb.cell (p := ⟨b, o, none⟩) h, fun b o h => hb.frozen (p := ⟨b, o, none⟩) h⟩
end Go.Proofs.Ytkmgndaholglhaa

namespace Go.Proofs.Ytkmgndaholglhaa
open Go.RowKit
set_option linter.unusedVariables false

def Seg (w : World) (b o : Nat) (xs : List Value) : Prop := ∀ j v, xs[j]? = some v → w.cell? ⟨b, o + j, none⟩ = some v ∧ w.frozen? ⟨b, o + j, none⟩ = false
theorem Seg.cell {w : World} {b o : Nat} {xs : List Value} (h : Seg w b o xs) (j : Nat) (v : Value) (hj : xs[j]? = some v) : w.cell? ⟨b, o + j, none⟩ = some v := (h j v hj).1
theorem Seg.free {w : World} {b o : Nat} {xs : List Value} (h : Seg w b o xs) (j : Nat) (hj : j < xs.length) : w.frozen? ⟨b, o + j, none⟩ = false := (h j xs[j] (List.getElem?_eq_getElem hj)).2
theorem Seg.set {w : World} {b o : Nat} {xs : List Value} (h : Seg w b o xs) (i : Nat) (v : Value) (hi : i < xs.length) : Seg (w.setCell ⟨b, o + i, none⟩ v) b o (xs.set i v) := by
 intro j u hu
 rw [World.frozen?_setCell]
 by_cases e : i = j
 ·subst e
  rw [List.getElem?_set_self hi] at hu
  simp only [Option.some.injEq] at hu
  subst hu
  exact ⟨World.cell?_setCell_same _ _ _ (h.cell i xs[i] (List.getElem?_eq_getElem hi)), h.free i hi⟩
 ·rw [List.getElem?_set_ne e] at hu
  rw [World.cell?_setCell_other _ _ _ _ (by intro q; simp only [Addr.mk.injEq] at q; omega)]
  exact h j u hu
theorem Seg.other {w : World} {b c o i : Nat} {xs : List Value} (h : Seg w b o xs) (v : Value) (hc : c ≠ b) : Seg (w.setCell ⟨c, i, none⟩ v) b o xs := by
 intro j u hu
 rw [World.frozen?_setCell, World.cell?_setCell_other _ _ _ _ (by intro q; simp only [Addr.mk.injEq] at q; omega)]
 exact h j u hu
theorem Seg.block {w w' : World} {b o : Nat} {xs : List Value} (h : Seg w b o xs) (hb : w'.heap[b]? = w.heap[b]?) : Seg w' b o xs := by
 intro j u hu
 rw [World.cell?_of_block (w := w) (a := ⟨b, o + j, none⟩) hb, World.frozen?_of_block (w := w) (a := ⟨b, o + j, none⟩) hb]
 exact h j u hu
theorem Seg.below {w w' : World} {b o B : Nat} {xs : List Value} (h : Seg w b o xs) (hb : Below B w w') (hB : b < B) : Seg w' b o xs := h.block (hb.block b hB)
theorem Seg.take {w : World} {b o : Nat} {xs : List Value} (h : Seg w b o xs) (n : Nat) : Seg w b o (xs.take n) := by
 intro j u hu
 rw [List.getElem?_take] at hu
 split at hu
 ·exact h j u hu
 ·cases hu
theorem Seg.drop {w : World} {b o : Nat} {xs : List Value} (h : Seg w b o xs) (n : Nat) : Seg w b (o + n) (xs.drop n) := by
 intro j u hu
 rw [List.getElem?_drop] at hu
 have := h (n + j) u hu
 rwa [show o + n + j = o + (n + j) by omega]
theorem Row.seg {w : World} {b : Nat} {xs : List Value} (h : Row w b xs) : Seg w b 0 xs := by
 intro j u hu
 rw [Nat.zero_add]
 exact h j u hu

structure Sl (w : World) (a : Option Addr) (n cap : Nat) (xs : List Value) : Prop where
 len : xs.length = n
 room : n ≤ cap
 big : cap ≤ maxLen
 nil : a = none → n = 0 ∧ cap = 0
 seg : n = 0 ∨ ∃ b o, a = some ⟨b, o, none⟩ ∧ b < w.heap.size ∧ Seg w b o xs
theorem Sl.below {w w' : World} {a : Option Addr} {n cap : Nat} {xs : List Value} (h : Sl w a n cap xs) (hb : Below w.heap.size w w') : Sl w' a n cap xs := by
 refine ⟨h.len, h.room, h.big, h.nil, h.seg.imp id ?_⟩
 rintro ⟨b, o, e, hlt, hs⟩
 exact ⟨b, o, e, Nat.lt_of_lt_of_le hlt hb.size, hs.below hb hlt⟩
theorem Sl.at {w : World} {a : Option Addr} {n cap : Nat} {xs : List Value} (h : Sl w a n cap xs) (hn : 0 < n) : ∃ b o, a = some ⟨b, o, none⟩ ∧ b < w.heap.size ∧ Seg w b o xs := h.seg.resolve_left (by omega)
theorem Sl.take {w : World} {b o n cap m : Nat} {xs : List Value} (h : Sl w (some ⟨b, o, none⟩) n cap xs) (hm : m ≤ n) : Sl w (some ⟨b, o, none⟩) m cap (xs.take m) := by
 refine ⟨by rw [List.length_take, h.len]; omega, by have := h.room; omega, h.big, (by intro e; cases e), ?_⟩
 rcases Nat.eq_zero_or_pos m with e | e
 ·exact Or.inl e
 ·obtain ⟨b', o', e1, h1, h2⟩ := h.at (by omega)
  cases e1
  exact Or.inr ⟨b, o, rfl, h1, h2.take m⟩
theorem sl_nil (w : World) : Sl w none 0 0 [] := ⟨rfl, Nat.le_refl _, Nat.zero_le _, fun _ => ⟨rfl, rfl⟩, Or.inl rfl⟩

abbrev Own (w : World) (base : Nat) (T : TypeId) (a : Option Addr) (n cap : Nat) (xs : List Value) : Prop := w.ownsRow base T 1 (.slice a n cap) n xs
theorem Own.sl {w : World} {base n cap : Nat} {T : TypeId} {a : Option Addr} {xs : List Value} (h : Own w base T a n cap xs) : Sl w a n cap xs := by
 obtain ⟨hl, ⟨h1, h2⟩ | ⟨g, cap', cur, hv, hb, hg, h1, h2, h3, h4⟩⟩ := h
 ·cases h1
  refine ⟨by omega, Nat.le_refl _, Nat.zero_le _, fun _ => ⟨rfl, rfl⟩, Or.inl rfl⟩
 ·cases hv
  refine ⟨by omega, h1, h2, (by intro e; cases e), Or.inr ⟨g, 0, rfl, (Array.getElem?_eq_some_iff.1 hg).1, ?_⟩⟩
  intro j u hu
  have hj : j < n := by
   have := (List.getElem?_eq_some_iff.1 hu).1
   omega
  rw [← h4, Nat.mul_one, List.getElem?_take, if_pos hj] at hu
  refine ⟨by simp [World.cell?, hg]; simpa using hu, by simp [World.frozen?, hg]⟩
theorem Own.form {w : World} {base n : Nat} {T : TypeId} {v : Value} {xs : List Value} (h : w.ownsRow base T 1 v n xs) : ∃ a cap, v = .slice a n cap ∧ Own w base T a n cap xs := by
 obtain ⟨hl, ⟨h1, h2⟩ | ⟨g, cap', cur, hv, hb, hg, h1, h2, h3, h4⟩⟩ := h
 ·subst h1 h2
  exact ⟨none, 0, rfl, hl, Or.inl ⟨rfl, rfl⟩⟩
 ·subst hv
  exact ⟨_, _, rfl, hl, Or.inr ⟨g, cap', cur, rfl, hb, hg, h1, h2, h3, h4⟩⟩
theorem Own.take {w : World} {base n cap m : Nat} {T : TypeId} {a : Option Addr} {xs : List Value} (h : Own w base T a n cap xs) (hm : m ≤ n) : Own w base T a m cap (xs.take m) := by
 obtain ⟨hl, ⟨h1, h2⟩ | ⟨g, cap', cur, hv, hb', hg, h1, h2, h3, h4⟩⟩ := h
 ·subst h2
  obtain rfl : m = 0 := by omega
  cases h1
  exact ⟨by simp, Or.inl ⟨rfl, rfl⟩⟩
 ·cases hv
  refine ⟨by rw [List.length_take, hl]; omega, Or.inr ⟨g, cap, cur, rfl, hb', hg, by omega, h2, h3, ?_⟩⟩
  rw [← h4, List.take_take, Nat.mul_one, Nat.mul_one, Nat.min_eq_left hm]
structure Wr (w w' : World) (b lo hi : Nat) : Prop where
 grown : w.grownBy w' (some b)
 cells : ∀ c t f, w.heap[b]? = some (.cells c t f) → ∃ c', w'.heap[b]? = some (.cells c' t f) ∧ c'.size = c.size ∧ ∀ o, (o < lo ∨ hi ≤ o) → c'[o]? = c[o]?
theorem Wr.refl (w : World) (b lo hi : Nat) : Wr w w b lo hi := ⟨World.grownBy.refl _ _, fun c t f h => ⟨c, h, rfl, fun _ _ => rfl⟩⟩
theorem Wr.trans {w w' w'' : World} {b lo hi : Nat} (h : Wr w w' b lo hi) (k : Wr w' w'' b lo hi) : Wr w w'' b lo hi := by
 refine ⟨⟨k.grown.os.trans h.grown.os, k.grown.tape.trans h.grown.tape, k.grown.output.trans h.grown.output, Nat.le_trans h.grown.size k.grown.size, fun i hi hne => (k.grown.block i (Nat.lt_of_lt_of_le hi h.grown.size) hne).trans (h.grown.block i hi hne)⟩, fun c t f hc => ?_⟩
 obtain ⟨c1, e1, s1, o1⟩ := h.cells c t f hc
 obtain ⟨c2, e2, s2, o2⟩ := k.cells c1 t f e1
 exact ⟨c2, e2, s2.trans s1, fun o ho => (o2 o ho).trans (o1 o ho)⟩
theorem Wr.set {w w' : World} {b lo hi i : Nat} (h : Wr w w' b lo hi) (v : Value) (h1 : lo ≤ i) (h2 : i < hi) : Wr w (w'.setCell ⟨b, i, none⟩ v) b lo hi := by
 refine h.trans ⟨⟨rfl, rfl, rfl, by simp, fun k hk hne => Below.heap_setCell _ _ _ _ (by simpa using hne)⟩, fun c t f hc => ?_⟩
 refine ⟨c.setIfInBounds i v, ?_, by simp, fun o ho => ?_⟩
 ·simp [World.setCell, Array.getElem?_modify, hc]
 ·rw [Array.getElem?_setIfInBounds_ne (by omega)]
theorem Wr.owned {w w' : World} {b lo hi n cap base : Nat} {T : TypeId} {xs ys : List Value} (h : Wr w w' b lo hi) (hs : Own w base T (some ⟨b, 0, none⟩) n cap xs) (hy : ys.length = n) (hseg : Seg w' b 0 ys) : Own w' base T (some ⟨b, 0, none⟩) n cap ys := by
 obtain ⟨hl, ⟨h1, _⟩ | ⟨g, cap', cur, hv, hb', hg, h1, h2, h3, h4⟩⟩ := hs
 ·cases h1
 ·cases hv
  obtain ⟨c', e, s, ho⟩ := h.cells _ _ _ hg
  refine ⟨by omega, Or.inr ⟨b, cap, c', rfl, hb', e, h1, h2, by omega, ?_⟩⟩
  refine List.ext_getElem? fun j => ?_
  rw [List.getElem?_take, Nat.mul_one]
  by_cases hj : j < n
  ·rw [if_pos hj]
   have := (hseg j ys[j] (List.getElem?_eq_getElem (by omega))).1
   simp [World.cell?, e] at this
   rw [Array.getElem?_toList, this, List.getElem?_eq_getElem (by omega)]
  ·rw [if_neg hj, List.getElem?_eq_none (by omega)]
theorem seg_of_own {w : World} {base b n cap : Nat} {T : TypeId} {xs : List Value} (h : Own w base T (some ⟨b, 0, none⟩) n cap xs) : Seg w b 0 xs ∧ b < w.heap.size ∧ base ≤ b := by
 obtain ⟨hl, ⟨h1, _⟩ | ⟨g, cap', cur, hv, hb', hg, h1, h2, h3, h4⟩⟩ := h
 ·cases h1
 ·cases hv
  refine ⟨?_, (Array.getElem?_eq_some_iff.1 hg).1, hb'⟩
  intro j u hu
  have hj := (List.getElem?_eq_some_iff.1 hu).1
  rw [← h4, Nat.mul_one, List.getElem?_take, if_pos (by omega)] at hu
  rw [Nat.zero_add]
  refine ⟨by simp [World.cell?, hg]; simpa using hu, by simp [World.frozen?, hg]⟩
end Go.Proofs.Ytkmgndaholglhaa

namespace Go.Proofs.Ytkmgndaholglhaa.wd
open Go.RowKit

def dg (v : Int) (i : Nat) : Int := v / 4294967296 ^ i % 4294967296
theorem dg_range (v : Int) (i : Nat) : 0 ≤ dg v i ∧ dg v i < 4294967296 := by unfold dg; omega
theorem p256 (i : Nat) : (0 : Int) < 4294967296 ^ i := Int.pow_pos (by decide)
def dcells (n : Nat) (v : Int) : List Value := (List.range n).map fun j => .int .u32 (dg v j)
theorem dcells_at (n : Nat) (v : Int) (i : Nat) (h : i < n) : (dcells n v)[i]? = some (.int .u32 (dg v i)) := by simp [dcells, h]
end Go.Proofs.Ytkmgndaholglhaa.wd

namespace Go.Proofs.Ytkmgndaholglhaa
open Go.RowKit
set_option linter.unusedVariables false

theorem infoInt : (Try.prog.info? 3).map (fun i => (i.zero, i.size, i.bytes)) = some (some (.int .i64 0), 1, 8) := by kernel_rfl

theorem Below.to {w w' : World} (h : w.grownBy w' none) : Below w.heap.size w w' := (Below.refl _ w).grown h (Nat.le_refl _) (fun k e => by cases e)

end Go.Proofs.Ytkmgndaholglhaa

namespace Go.Proofs.Ytkmgndaholglhaa
open Go.RowKit
set_option linter.unusedVariables false

theorem dcells_two (x : Nat) (h : x < 18446744073709551616) : wd.dcells 2 (x : Int) = [.int .u32 ((x : Int) % 4294967296), .int .u32 ((x : Int) / 4294967296)] := by
 simp [wd.dcells, List.range_succ, wd.dg]
 omega
theorem own_two (w : World) (x : Nat) (h : x < 18446744073709551616) : Own (w.alloc (.cells #[.int .u32 ((x : Int) % 4294967296), .int .u32 ((x : Int) / 4294967296)] 76)) w.heap.size 76 (some ⟨w.heap.size, 0, none⟩) 2 2 (wd.dcells 2 x) := by
 rw [dcells_two x h]
 exact World.ownsRow_lit w _ 2 (Nat.le_refl _) (by decide) rfl
end Go.Proofs.Ytkmgndaholglhaa

namespace Go.Proofs.Ytkmgndaholglhaa
open Go.RowKit
set_option linter.unusedVariables false

theorem make_any {P : Program} (w : World) {ops : Array Oper} {rest : List Oper} {o : Oper} {a : Act} {Q : Exit → Act → World → Prop}
  (hg : o.guard = none) (l c : Operand) (t : TypeId) (hop : o.op = Op.makeSlice t l c)
  (base : Nat) (e : TypeId) (i : TypeInfo) (z : Value) (h1 : P.underlying t = some (.slice e)) (h2 : P.info? e = some i) (h3 : i.zero = some z) (h4 : i.size = 1) (hz : z.cells = #[z])
  (kl kc : IntKind) (L C : Int) (n : Nat) (hl : a.eval l = .int kl L) (hc : a.eval c = .int kc C) (hL : L = (n : Int)) (hC : C = (n : Int)) (b2 : i.bytes * n ≤ 281474976710656) (b3 : n ≤ maxLen) (b4 : base ≤ w.heap.size)
  (hK : ∀ w', Own w' base e (some ⟨w.heap.size, 0, none⟩) n n (List.replicate n z) → Below w.heap.size w w' → wpList P ops Q rest (a.put o.dst (.slice (some ⟨w.heap.size, 0, none⟩) n n)) w') :
  wpList P ops Q (o :: rest) a w := by
 refine wpList_make_full w hg l c t hop base e i z 1 h1 h2 h3 h4 kl kc L C n hl hc hL hC b2 b3 b4 ?_
 intro w' h hgr
 rw [hz, Nat.mul_one, toList_madeCells_one] at h
 exact hK w' h (Below.to hgr)
theorem Own.set {w : World} {base b n cap i : Nat} {T : TypeId} {xs : List Value} (h : Own w base T (some ⟨b, 0, none⟩) n cap xs) (v : Value) (hi : i < n) : Own (w.setCell ⟨b, i, none⟩ v) base T (some ⟨b, 0, none⟩) n cap (xs.set i v) := by
 have hs := (seg_of_own h).1.set i v (by have := h.sl.len; omega)
 rw [Nat.zero_add] at hs
 exact ((Wr.refl w b 0 n).set v (Nat.zero_le _) hi).owned h (by rw [List.length_set]; exact h.sl.len) hs
theorem Own.cell {w : World} {base b n cap : Nat} {T : TypeId} {xs : List Value} (h : Own w base T (some ⟨b, 0, none⟩) n cap xs) (j : Nat) (v : Value) (hj : xs[j]? = some v) : w.cell? ⟨b, j, none⟩ = some v := by
 have := (seg_of_own h).1.cell j v hj
 rwa [Nat.zero_add] at this
theorem Own.free {w : World} {base b n cap : Nat} {T : TypeId} {xs : List Value} (h : Own w base T (some ⟨b, 0, none⟩) n cap xs) (j : Nat) (hj : j < n) : w.frozen? ⟨b, j, none⟩ = false := by
 have := (seg_of_own h).1.free j (by have := h.sl.len; omega)
 rwa [Nat.zero_add] at this

end Go.Proofs.Ytkmgndaholglhaa

namespace Go.Proofs.Ytkmgndaholglhaa.hf
open Go.RowKit

def dg (v : Int) (i : Nat) : Int := v / 65536 ^ i % 65536
theorem dg_range (v : Int) (i : Nat) : 0 ≤ dg v i ∧ dg v i < 65536 := by unfold dg; omega
theorem p256 (i : Nat) : (0 : Int) < 65536 ^ i := Int.pow_pos (by decide)
def fill (n : Nat) (p : Nat → Bool) (u v : Int) : List Value := (List.range n).map fun j => .int .i64 (if p j then dg u j else dg v j)
def dcells (n : Nat) (v : Int) : List Value := (List.range n).map fun j => .int .i64 (dg v j)
def mix (n i : Nat) (u v : Int) : List Value := fill n (fun j => decide (j < i)) u v
theorem fill_length (n : Nat) (p : Nat → Bool) (u v : Int) : (fill n p u v).length = n := by simp [fill]
theorem dcells_length (n : Nat) (v : Int) : (dcells n v).length = n := by simp [dcells]
theorem dcells_at (n : Nat) (v : Int) (i : Nat) (h : i < n) : (dcells n v)[i]? = some (.int .i64 (dg v i)) := by simp [dcells, h]
theorem fill_at (n : Nat) (p : Nat → Bool) (u v : Int) (i : Nat) (h : i < n) : (fill n p u v)[i]? = some (.int .i64 (if p i then dg u i else dg v i)) := by simp [fill, h]
theorem mix_at (n k : Nat) (u v : Int) (i : Nat) (h : i < n) (hk : k ≤ i) : (mix n k u v)[i]? = some (.int .i64 (dg v i)) := by
 rw [mix, fill_at _ _ _ _ _ h]; simp; omega
theorem fill_congr {n : Nat} {p q : Nat → Bool} {u v u' v' : Int} (h : ∀ j, j < n → (if p j then dg u j else dg v j) = (if q j then dg u' j else dg v' j)) : fill n p u v = fill n q u' v' := by
 unfold fill
 refine List.map_congr_left fun j hj => ?_
 rw [h j (by simpa using hj)]
theorem fill_set (n : Nat) (p : Nat → Bool) (u v : Int) (i : Nat) : (fill n p u v).set i (.int .i64 (dg u i)) = fill n (fun j => p j || j == i) u v := by
 refine List.ext_getElem? fun j => ?_
 rw [List.getElem?_set]
 by_cases e : i = j
 ·subst e
  by_cases h : i < n
  ·rw [if_pos rfl, if_pos (by rw [fill_length]; exact h), fill_at _ _ _ _ _ h]; simp
  ·rw [if_pos rfl, if_neg (by rw [fill_length]; exact h), List.getElem?_eq_none (by rw [fill_length]; omega)]
 ·by_cases h : j < n
  ·rw [if_neg e, fill_at _ _ _ _ _ h, fill_at _ _ _ _ _ h]
   have e' : (j == i) = false := by simp; omega
   simp [e']
  ·rw [if_neg e, List.getElem?_eq_none (by simp [fill_length]; omega), List.getElem?_eq_none (by simp [fill_length]; omega)]
theorem mix_set (n i : Nat) (u v : Int) : (mix n i u v).set i (.int .i64 (dg u i)) = mix n (i + 1) u v := by
 unfold mix
 rw [fill_set]
 refine fill_congr fun j _ => ?_
 have : (decide (j < i) || j == i) = decide (j < i + 1) := by rw [Bool.eq_iff_iff]; simp; omega
 rw [this]
theorem mix_zero (n : Nat) (u v : Int) : mix n 0 u v = dcells n v := by unfold mix fill dcells; simp
theorem mix_full (n : Nat) (u v : Int) : mix n n u v = dcells n u := by
 unfold mix fill dcells
 refine List.map_congr_left fun j hj => ?_
 have : j < n := by simpa using hj
 simp [this]
theorem dg_congr {u v : Int} {i j : Nat} (t : Int) (h : u = v + t * 65536 ^ i) (hj : j < i) : dg u j = dg v j := by
 unfold dg
 obtain ⟨d, rfl⟩ : ∃ d, i = j + 1 + d := ⟨i - (j + 1), by omega⟩
 have e : t * (65536 : Int) ^ (j + 1 + d) = (65536 * (t * 65536 ^ d)) * 65536 ^ j := by
  rw [show j + 1 + d = d + 1 + j by omega, Int.pow_add, Int.pow_succ, ← Int.mul_assoc, ← Int.mul_assoc, Int.mul_comm (t * 65536 ^ d) 65536]
 rw [h, e, Int.add_mul_ediv_right _ _ (Int.ne_of_gt (p256 j))]
 omega
def carry (x y : Int) (i : Nat) : Int := (x % 65536 ^ i + y % 65536 ^ i) / 65536 ^ i
theorem carry_zero (x y : Int) : carry x y 0 = 0 := by simp [carry]
theorem emod_succ (x : Int) (i : Nat) : x % 65536 ^ (i + 1) = dg x i * 65536 ^ i + x % 65536 ^ i := by
 unfold dg
 have hp := p256 i
 have h1 := Int.mul_ediv_add_emod x (65536 ^ i)
 have h2 := Int.mul_ediv_add_emod (x / 65536 ^ i) 65536
 have b := Int.emod_nonneg x (Int.ne_of_gt hp)
 have b' := Int.emod_lt_of_pos x hp
 have c := Int.emod_nonneg (x / 65536 ^ i) (show (65536 : Int) ≠ 0 by decide)
 have c' := Int.emod_lt_of_pos (x / 65536 ^ i) (show (0 : Int) < 65536 by decide)
 have e : x = (x / 65536 ^ i % 65536 * 65536 ^ i + x % 65536 ^ i) + (x / 65536 ^ i / 65536) * 65536 ^ (i + 1) := by
  have : (x / 65536 ^ i / 65536) * (65536 : Int) ^ (i + 1) = (65536 * (x / 65536 ^ i / 65536)) * 65536 ^ i := by rw [Int.pow_succ, Int.mul_comm ((65536 : Int) ^ i) 65536, ← Int.mul_assoc, Int.mul_comm _ 65536]
  rw [this]
  have h3 : (65536 * (x / 65536 ^ i / 65536)) * (65536 : Int) ^ i + x / 65536 ^ i % 65536 * 65536 ^ i = x / 65536 ^ i * 65536 ^ i := by rw [← Int.add_mul, h2]
  have h4 : x / 65536 ^ i * (65536 : Int) ^ i = 65536 ^ i * (x / 65536 ^ i) := Int.mul_comm _ _
  omega
 have l0 : 0 ≤ x / 65536 ^ i % 65536 * 65536 ^ i + x % 65536 ^ i := Int.add_nonneg (Int.mul_nonneg c (Int.le_of_lt hp)) b
 have l1 : x / 65536 ^ i % 65536 * 65536 ^ i + x % 65536 ^ i < 65536 ^ (i + 1) := by
  have : x / 65536 ^ i % 65536 * (65536 : Int) ^ i ≤ 65535 * 65536 ^ i := Int.mul_le_mul_of_nonneg_right (by omega) (Int.le_of_lt hp)
  rw [Int.pow_succ]
  omega
 have key : x % 65536 ^ (i + 1) = (x / 65536 ^ i % 65536 * 65536 ^ i + x % 65536 ^ i) % 65536 ^ (i + 1) := by
  have := congrArg (· % (65536 : Int) ^ (i + 1)) e
  simpa [Int.add_mul_emod_self_right] using this
 rw [key, Int.emod_eq_of_lt l0 l1]
theorem carry_sum (x y : Int) (i : Nat) : (x % 65536 ^ (i + 1) + y % 65536 ^ (i + 1)) / 65536 ^ i = carry x y i + dg x i + dg y i := by
 rw [emod_succ, emod_succ]
 unfold carry
 have e : dg x i * 65536 ^ i + x % 65536 ^ i + (dg y i * 65536 ^ i + y % 65536 ^ i) = (x % 65536 ^ i + y % 65536 ^ i) + (dg x i + dg y i) * 65536 ^ i := by rw [Int.add_mul]; omega
 rw [e, Int.add_mul_ediv_right _ _ (Int.ne_of_gt (p256 i))]
 omega
theorem carry_succ (x y : Int) (i : Nat) : carry x y (i + 1) = (carry x y i + dg x i + dg y i) / 65536 := by
 rw [← carry_sum]
 show (x % 65536 ^ (i + 1) + y % 65536 ^ (i + 1)) / 65536 ^ (i + 1) = _
 have hp := p256 i
 rw [Int.pow_succ, Int.ediv_ediv, if_neg (by omega)]
 omega
theorem add_digit (x y : Int) (i : Nat) : (carry x y i + dg x i + dg y i) % 65536 = dg (x + y) i := by
 unfold dg carry
 have hp := p256 i
 have h1 := Int.mul_ediv_add_emod x (65536 ^ i)
 have h2 := Int.mul_ediv_add_emod y (65536 ^ i)
 have e : x + y = (x % 65536 ^ i + y % 65536 ^ i) + (x / 65536 ^ i + y / 65536 ^ i) * 65536 ^ i := by
  have a1 : x / 65536 ^ i * (65536 : Int) ^ i = 65536 ^ i * (x / 65536 ^ i) := Int.mul_comm _ _
  have a2 : y / 65536 ^ i * (65536 : Int) ^ i = 65536 ^ i * (y / 65536 ^ i) := Int.mul_comm _ _
  rw [Int.add_mul]; omega
 have e2 : (x + y) / 65536 ^ i = (x % 65536 ^ i + y % 65536 ^ i) / 65536 ^ i + (x / 65536 ^ i + y / 65536 ^ i) := by
  conv => lhs; rw [e]
  exact Int.add_mul_ediv_right _ _ (Int.ne_of_gt hp)
 rw [e2]
 omega
theorem carry_range (x y : Int) (i : Nat) : 0 ≤ carry x y i ∧ carry x y i ≤ 1 := by
 unfold carry
 have hp := p256 i
 have a := Int.emod_nonneg x (Int.ne_of_gt hp)
 have a' := Int.emod_lt_of_pos x hp
 have b := Int.emod_nonneg y (Int.ne_of_gt hp)
 have b' := Int.emod_lt_of_pos y hp
 refine ⟨Int.ediv_nonneg (by omega) (by omega), ?_⟩
 have : (x % 65536 ^ i + y % 65536 ^ i) / 65536 ^ i < 2 := Int.ediv_lt_of_lt_mul hp (by omega)
 omega
end Go.Proofs.Ytkmgndaholglhaa.hf

namespace Go.Proofs.Ytkmgndaholglhaa.hf
open Go.RowKit
set_option linter.unusedVariables false

def IsLen (v n : Nat) : Prop := v < 65536 ^ n ∧ (n = 0 ∨ 65536 ^ (n - 1) ≤ v)
theorem isLen_one {v n m : Nat} (h : IsLen v n) (h' : IsLen v m) : n = m := by
 obtain ⟨a, b⟩ := h
 obtain ⟨a', b'⟩ := h'
 rcases Nat.lt_trichotomy n m with e | e | e
 ·rcases b' with b' | b'
  ·omega
  ·have := Nat.pow_le_pow_right (n := 65536) (by decide) (show n ≤ m - 1 by omega)
   omega
 ·exact e
 ·rcases b with b | b
  ·omega
  ·have := Nat.pow_le_pow_right (n := 65536) (by decide) (show m ≤ n - 1 by omega)
   omega
theorem isLen_cut : ∀ (n v : Nat), v < 65536 ^ n → ∃ m, m ≤ n ∧ IsLen v m
 | 0, v, h => ⟨0, Nat.le_refl _, h, Or.inl rfl⟩
 | n + 1, v, h => by
  by_cases c : v < 65536 ^ n
  ·obtain ⟨m, h1, h2⟩ := isLen_cut n v c
   exact ⟨m, by omega, h2⟩
  ·exact ⟨n + 1, Nat.le_refl _, h, Or.inr (by simp; omega)⟩
def nlen (v : Nat) : Nat := if h : v = 0 then 0 else nlen (v / 65536) + 1
 termination_by v
 decreasing_by exact Nat.div_lt_self (Nat.pos_of_ne_zero h) (by decide)
theorem nlen_is (v : Nat) : IsLen v (nlen v) := by
 induction v using Nat.strongRecOn with
 | ind v ih =>
  unfold nlen
  split
  ·rename_i h
   rw [h]
   exact ⟨by decide, Or.inl rfl⟩
  ·rename_i h
   obtain ⟨h1, h2⟩ := ih (v / 65536) (Nat.div_lt_self (Nat.pos_of_ne_zero h) (by decide))
   refine ⟨?_, Or.inr ?_⟩
   ·rw [Nat.pow_succ]
    exact (Nat.div_lt_iff_lt_mul (by decide)).1 h1
   ·rw [Nat.add_sub_cancel]
    rcases h2 with h2 | h2
    ·rw [h2]
     exact Nat.pos_of_ne_zero h
    ·rcases Nat.eq_zero_or_pos (nlen (v / 65536)) with h3 | h3
     ·rw [h3]
      exact Nat.pos_of_ne_zero h
     ·have h4 := (Nat.le_div_iff_mul_le (by decide)).1 h2
      rw [← Nat.pow_succ] at h4
      rwa [show (nlen (v / 65536) - 1).succ = nlen (v / 65536) by omega] at h4
theorem nlen_eq {v n : Nat} (h : IsLen v n) : nlen v = n := isLen_one (nlen_is v) h
theorem nlen_le {v n : Nat} (h : v < 65536 ^ n) : nlen v ≤ n := by
 obtain ⟨m, h1, h2⟩ := isLen_cut n v h
 rw [nlen_eq h2]; exact h1
theorem nlen_zero : nlen 0 = 0 := nlen_eq ⟨by decide, Or.inl rfl⟩
theorem nlen_lt (v : Nat) : v < 65536 ^ nlen v := (nlen_is v).1
theorem nlen_pos {v : Nat} (h : 0 < v) : 0 < nlen v := by
 rcases Nat.lt_or_ge 0 (nlen v) with l | l
 ·exact l
 ·have := nlen_lt v
  rw [show nlen v = 0 by omega] at this
  simp at this
  omega
theorem lt_of_nlen {u v : Nat} (h : nlen u < nlen v) : u < v := by
 obtain ⟨_, b⟩ := nlen_is v
 rcases b with b | b
 ·omega
 ·have := nlen_lt u
  have := Nat.pow_le_pow_right (n := 65536) (by decide) (show nlen u ≤ nlen v - 1 by omega)
  omega
theorem pow_cast (k : Nat) : ((65536 ^ k : Nat) : Int) = (65536 : Int) ^ k := by rw [Int.natCast_pow]; rfl
theorem dg_nat (v k : Nat) : dg (v : Int) k = ((v / 65536 ^ k % 65536 : Nat) : Int) := by
 unfold dg
 rw [← pow_cast]
 omega
theorem dg_over {v k : Nat} (h : v < 65536 ^ k) : dg (v : Int) k = 0 := by rw [dg_nat, Nat.div_eq_of_lt h]; rfl
theorem dg_top {v n : Nat} (h : IsLen v (n + 1)) : dg (v : Int) n ≠ 0 := by
 obtain ⟨a, b⟩ := h
 have b : 65536 ^ n ≤ v := by
  rcases b with b | b
  ·omega
  ·exact b
 rw [dg_nat]
 have h1 : 1 ≤ v / 65536 ^ n := (Nat.one_le_div_iff (Nat.pow_pos (by decide))).2 b
 have h2 : v / 65536 ^ n < 65536 := by
  rw [Nat.pow_succ] at a
  exact Nat.div_lt_of_lt_mul a
 rw [Nat.mod_eq_of_lt h2]
 omega
theorem lt_of_dg_zero {v n : Nat} (h : v < 65536 ^ (n + 1)) (z : dg (v : Int) n = 0) : v < 65536 ^ n := by
 rcases Nat.lt_or_ge v (65536 ^ n) with l | l
 ·exact l
 ·exact absurd z (dg_top ⟨h, Or.inr (by simpa using l)⟩)
theorem eq_of_dcells : ∀ (n : Nat) (u v : Nat), u < 65536 ^ n → v < 65536 ^ n → (∀ j, j < n → dg (u : Int) j = dg (v : Int) j) → u = v := by
 intro n
 induction n with
 | zero => intro u v hu hv _; simp at hu hv; omega
 | succ n ih =>
  intro u v hu hv h
  have e := ih (u % 65536 ^ n) (v % 65536 ^ n) (Nat.mod_lt _ (Nat.pow_pos (by decide))) (Nat.mod_lt _ (Nat.pow_pos (by decide))) (fun j hj => by
   have a : ∀ x : Nat, dg ((x % 65536 ^ n : Nat) : Int) j = dg (x : Int) j := fun x => by
    refine dg_congr (i := n) (-((x / 65536 ^ n : Nat) : Int)) ?_ hj
    have := Nat.mod_add_div x (65536 ^ n)
    rw [← pow_cast, Int.neg_mul, ← Int.natCast_mul, Nat.mul_comm (x / 65536 ^ n)]
    omega
   rw [a, a]
   exact h j (by omega))
  have t := h n (by omega)
  rw [dg_nat, dg_nat] at t
  have du : u / 65536 ^ n < 65536 := by rw [Nat.pow_succ] at hu; exact Nat.div_lt_of_lt_mul hu
  have dv : v / 65536 ^ n < 65536 := by rw [Nat.pow_succ] at hv; exact Nat.div_lt_of_lt_mul hv
  rw [Nat.mod_eq_of_lt du, Nat.mod_eq_of_lt dv] at t
  have t' : u / 65536 ^ n = v / 65536 ^ n := by omega
  have h1 := Nat.mod_add_div u (65536 ^ n)
  have h2 := Nat.mod_add_div v (65536 ^ n)
  rw [e, t'] at h1
  omega
end Go.Proofs.Ytkmgndaholglhaa.hf

namespace Go.Proofs.Ytkmgndaholglhaa.hf
open Go.RowKit
set_option linter.unusedVariables false

def bor (x y : Int) : Int := if x < y then 1 else 0
def bw (x y : Int) (i : Nat) : Int := -((x % 65536 ^ i - y % 65536 ^ i) / 65536 ^ i)
theorem bw_zero (x y : Int) : bw x y 0 = 0 := by simp [bw, Int.emod_one]
theorem bw_sum (x y : Int) (i : Nat) : (x % 65536 ^ (i + 1) - y % 65536 ^ (i + 1)) / 65536 ^ i = dg x i - dg y i - bw x y i := by
 rw [emod_succ, emod_succ]
 unfold bw
 have e : dg x i * 65536 ^ i + x % 65536 ^ i - (dg y i * 65536 ^ i + y % 65536 ^ i) = (x % 65536 ^ i - y % 65536 ^ i) + (dg x i - dg y i) * 65536 ^ i := by rw [Int.sub_mul]; omega
 rw [e, Int.add_mul_ediv_right _ _ (Int.ne_of_gt (p256 i))]
 omega
theorem bw_range (x y : Int) (i : Nat) : 0 ≤ bw x y i ∧ bw x y i ≤ 1 := by
 unfold bw
 have hp := p256 i
 have a := Int.emod_nonneg x (Int.ne_of_gt hp)
 have a' := Int.emod_lt_of_pos x hp
 have b := Int.emod_nonneg y (Int.ne_of_gt hp)
 have b' := Int.emod_lt_of_pos y hp
 have h1 : (x % 65536 ^ i - y % 65536 ^ i) / 65536 ^ i < 1 := Int.ediv_lt_of_lt_mul hp (by omega)
 have h2 : -1 ≤ (x % 65536 ^ i - y % 65536 ^ i) / 65536 ^ i := Int.le_ediv_of_mul_le hp (by omega)
 omega
theorem bw_succ (x y : Int) (i : Nat) : bor (dg x i) (dg y i + bw x y i) = bw x y (i + 1) := by
 have e : bw x y (i + 1) = -((dg x i - dg y i - bw x y i) / 65536) := by
  rw [← bw_sum]
  show -((x % 65536 ^ (i + 1) - y % 65536 ^ (i + 1)) / 65536 ^ (i + 1)) = _
  have hp := p256 i
  rw [Int.pow_succ, Int.ediv_ediv, if_neg (by omega)]
  omega
 rw [e]
 have h := bw_range x y i
 have a := dg_range x i
 have b := dg_range y i
 unfold bor
 split <;> omega
theorem sub_digit (x y : Int) (i : Nat) : (dg x i - dg y i - bw x y i) % 65536 = dg (x - y) i := by
 unfold dg bw
 have hp := p256 i
 have h1 := Int.mul_ediv_add_emod x (65536 ^ i)
 have h2 := Int.mul_ediv_add_emod y (65536 ^ i)
 have e : x - y = (x % 65536 ^ i - y % 65536 ^ i) + (x / 65536 ^ i - y / 65536 ^ i) * 65536 ^ i := by
  have a1 : x / 65536 ^ i * (65536 : Int) ^ i = 65536 ^ i * (x / 65536 ^ i) := Int.mul_comm _ _
  have a2 : y / 65536 ^ i * (65536 : Int) ^ i = 65536 ^ i * (y / 65536 ^ i) := Int.mul_comm _ _
  rw [Int.sub_mul]; omega
 have e2 : (x - y) / 65536 ^ i = (x % 65536 ^ i - y % 65536 ^ i) / 65536 ^ i + (x / 65536 ^ i - y / 65536 ^ i) := by
  conv => lhs; rw [e]
  exact Int.add_mul_ediv_right _ _ (Int.ne_of_gt hp)
 rw [e2]
 omega
end Go.Proofs.Ytkmgndaholglhaa.hf

namespace Go.Proofs.Ytkmgndaholglhaa.hf
set_option linter.unusedVariables false

def tk (O xi y : Int) (i k : Nat) : Int := O % 65536 ^ (i + k) + xi * 65536 ^ i * (y % 65536 ^ k)
def cy (O xi y : Int) (i k : Nat) : Int := tk O xi y i k / 65536 ^ (i + k)
theorem pow_ik (i k : Nat) : (65536 : Int) ^ (i + k) = 65536 ^ i * 65536 ^ k := Int.pow_add _ _ _
theorem tk_succ (O xi y : Int) (i k : Nat) : tk O xi y i (k + 1) = tk O xi y i k + (dg O (i + k) + xi * dg y k) * 65536 ^ (i + k) := by
 unfold tk
 rw [← Nat.add_assoc, emod_succ, emod_succ, Int.add_mul, Int.mul_add, pow_ik]
 have e : xi * 65536 ^ i * (dg y k * 65536 ^ k) = xi * dg y k * (65536 ^ i * 65536 ^ k) := by
  rw [Int.mul_assoc xi, Int.mul_left_comm (65536 ^ i) (dg y k), Int.mul_assoc xi (dg y k)]
 rw [e]; omega
theorem cy_sum (O xi y : Int) (i k : Nat) : tk O xi y i (k + 1) / 65536 ^ (i + k) = cy O xi y i k + dg O (i + k) + xi * dg y k := by
 rw [tk_succ, Int.add_mul_ediv_right _ _ (Int.ne_of_gt (p256 _))]; unfold cy; omega
theorem cy_succ (O xi y : Int) (i k : Nat) : cy O xi y i (k + 1) = (cy O xi y i k + dg O (i + k) + xi * dg y k) / 65536 := by
 rw [← cy_sum]
 show tk O xi y i (k + 1) / 65536 ^ (i + k + 1) = _
 have hp := p256 (i + k)
 rw [Int.pow_succ, Int.ediv_ediv, if_neg (by omega)]; omega
theorem mul_digit (O xi y : Int) (i k : Nat) : (cy O xi y i k + dg O (i + k) + xi * dg y k) % 65536 = dg (O + xi * 65536 ^ i * y) (i + k) := by
 rw [← cy_sum]
 show dg (tk O xi y i (k + 1)) (i + k) = _
 refine (dg_congr (i := i + k + 1) (O / 65536 ^ (i + k + 1) + xi * (y / 65536 ^ (k + 1))) ?_ (by omega)).symm
 unfold tk
 have h1 := Int.mul_ediv_add_emod O (65536 ^ (i + k + 1))
 have h2 := Int.mul_ediv_add_emod y (65536 ^ (k + 1))
 have e0 : i + (k + 1) = i + k + 1 := by omega
 rw [e0, Int.add_mul]
 have e1 : O / 65536 ^ (i + k + 1) * (65536 : Int) ^ (i + k + 1) = 65536 ^ (i + k + 1) * (O / 65536 ^ (i + k + 1)) := Int.mul_comm _ _
 have e2 : xi * (y / 65536 ^ (k + 1)) * (65536 : Int) ^ (i + k + 1) = xi * 65536 ^ i * (65536 ^ (k + 1) * (y / 65536 ^ (k + 1))) := by
  rw [← e0, pow_ik i (k + 1)]
  generalize (65536 : Int) ^ (k + 1) = K
  rw [Int.mul_assoc xi, Int.mul_assoc xi, Int.mul_left_comm (y / K) (65536 ^ i) K, Int.mul_comm (y / K) K]
 have e3 : xi * 65536 ^ i * y = xi * 65536 ^ i * (65536 ^ (k + 1) * (y / 65536 ^ (k + 1))) + xi * 65536 ^ i * (y % 65536 ^ (k + 1)) := by rw [← Int.mul_add, h2]
 rw [e1, e2, e3]; omega
theorem cy_zero (O xi y : Int) (i : Nat) : cy O xi y i 0 = 0 := by
 unfold cy tk
 have hp := p256 i
 have a := Int.emod_nonneg O (Int.ne_of_gt hp)
 have a' := Int.emod_lt_of_pos O hp
 have e : y % (65536 : Int) ^ 0 = 0 := by simp [Int.emod_one]
 rw [e]
 simp only [Nat.add_zero, Int.mul_zero, Int.add_zero]
 exact Int.ediv_eq_zero_of_lt a a'
theorem cy_range (O xi y : Int) (i k : Nat) (h0 : 0 ≤ xi) (h1 : xi < 65536) : 0 ≤ cy O xi y i k ∧ cy O xi y i k ≤ 65535 := by
 unfold cy tk
 have hp := p256 (i + k)
 have hi := p256 i
 have hk := p256 k
 have a := Int.emod_nonneg O (Int.ne_of_gt hp)
 have a' := Int.emod_lt_of_pos O hp
 have b := Int.emod_nonneg y (Int.ne_of_gt hk)
 have b' := Int.emod_lt_of_pos y hk
 have c : 0 ≤ xi * 65536 ^ i * (y % 65536 ^ k) := Int.mul_nonneg (Int.mul_nonneg h0 (Int.le_of_lt hi)) b
 have c' : xi * 65536 ^ i * (y % 65536 ^ k) ≤ 65535 * 65536 ^ (i + k) := by
  rw [pow_ik, ← Int.mul_assoc]
  exact Int.mul_le_mul (Int.mul_le_mul_of_nonneg_right (by omega) (Int.le_of_lt hi)) (by omega) b (Int.mul_nonneg (by decide) (Int.le_of_lt hi))
 refine ⟨Int.ediv_nonneg (by omega) (by omega), ?_⟩
 have : (O % 65536 ^ (i + k) + xi * 65536 ^ i * (y % 65536 ^ k)) / 65536 ^ (i + k) < 65536 := Int.ediv_lt_of_lt_mul hp (by omega)
 omega
theorem mul_next (x y : Int) (i : Nat) : x % 65536 ^ i * y + dg x i * 65536 ^ i * y = x % 65536 ^ (i + 1) * y := by rw [emod_succ, Int.add_mul]; omega
theorem mix_start (n i : Nat) (O xi y : Int) : mix n i (O + xi * 65536 ^ i * y) O = dcells n O := by
 rw [← mix_zero n O O]
 refine fill_congr fun j _ => ?_
 by_cases h : j < i
 ·have e : dg (O + xi * 65536 ^ i * y) j = dg O j := dg_congr (i := i) (xi * y) (by rw [Int.mul_assoc, Int.mul_comm (65536 ^ i) y, ← Int.mul_assoc]) h
  simp [h, e]
 ·simp [h]
end Go.Proofs.Ytkmgndaholglhaa.hf

namespace Go.Proofs.Ytkmgndaholglhaa.hf
open Go.RowKit
set_option linter.unusedVariables false

theorem dg_div (v : Int) (i j : Nat) : dg (v / 65536 ^ i) j = dg v (i + j) := by
 unfold dg
 have hp := p256 i
 rw [Int.pow_add, Int.ediv_ediv, if_neg (by omega)]
 omega
theorem dcells_take (n m : Nat) (v : Int) (h : m ≤ n) : (dcells n v).take m = dcells m v := by
 unfold dcells
 rw [← List.map_take, List.take_range, Nat.min_eq_left h]
theorem dcells_join (n m : Nat) (u v : Int) : dcells n u ++ dcells m v = dcells (n + m) (u % 65536 ^ n + v * 65536 ^ n) := by
 refine List.ext_getElem? fun j => ?_
 by_cases h : j < n
 ·rw [List.getElem?_append_left (by rw [dcells_length]; exact h), dcells_at _ _ _ h, dcells_at _ _ _ (by omega)]
  have h1 := Int.mul_ediv_add_emod u (65536 ^ n)
  rw [dg_congr (u := u) (v := u % 65536 ^ n + v * 65536 ^ n) (i := n) (u / 65536 ^ n - v) (by rw [Int.sub_mul]; have : u / 65536 ^ n * (65536 : Int) ^ n = 65536 ^ n * (u / 65536 ^ n) := Int.mul_comm _ _; omega) h]
 ·rw [List.getElem?_append_right (by rw [dcells_length]; omega), dcells_length]
  by_cases h2 : j < n + m
  ·rw [dcells_at _ _ _ (by omega), dcells_at _ _ _ h2]
   have hp := p256 n
   have a := Int.emod_nonneg u (Int.ne_of_gt hp)
   have a' := Int.emod_lt_of_pos u hp
   have e : (u % 65536 ^ n + v * 65536 ^ n) / 65536 ^ n = v := by
    rw [Int.add_mul_ediv_right _ _ (Int.ne_of_gt hp), Int.ediv_eq_zero_of_lt a a']; omega
   have := dg_div (u % 65536 ^ n + v * 65536 ^ n) n (j - n)
   rw [e, show n + (j - n) = j by omega] at this
   rw [this]
  ·rw [List.getElem?_eq_none (by rw [dcells_length]; omega), List.getElem?_eq_none (by rw [dcells_length]; omega)]
theorem dcells_zero (n : Nat) : dcells n 0 = List.replicate n (.int .i64 0) := by
 refine List.ext_getElem? fun j => ?_
 by_cases h : j < n
 ·rw [dcells_at _ _ _ h, List.getElem?_replicate, if_pos h]; simp [dg]
 ·rw [List.getElem?_eq_none (by rw [dcells_length]; omega), List.getElem?_eq_none (by simp; omega)]
theorem dcells_succ (t : Nat) (a : Int) : dcells (t + 1) a = dcells t a ++ [.int .i64 (dg a t)] := by
 unfold dcells; rw [List.range_succ, List.map_append]; rfl
theorem nlen_eq_zero {u : Nat} : nlen u = 0 ↔ u = 0 := by
 refine ⟨fun h => ?_, fun h => by rw [h, nlen_zero]⟩
 have := nlen_lt u
 rw [h] at this
 simpa using this
theorem div_step (u k : Nat) : u / 65536 ^ k = 65536 * (u / 65536 ^ (k + 1)) + u / 65536 ^ k % 65536 := by
 rw [Nat.pow_succ, ← Nat.div_div_eq_div_mul]; omega
theorem lt_of_top {u v k : Nat} (h : u / 65536 ^ (k + 1) = v / 65536 ^ (k + 1)) (hd : dg (u : Int) k < dg (v : Int) k) : u < v := by
 rw [dg_nat, dg_nat] at hd
 have h1 := div_step u k
 have h2 := div_step v k
 rcases Nat.lt_or_ge u v with l | l
 ·exact l
 ·have := Nat.div_le_div_right (c := 65536 ^ k) l
  omega
theorem pow_nat (k : Nat) : 0 < 65536 ^ k := Nat.pow_pos (by decide)
end Go.Proofs.Ytkmgndaholglhaa.hf

namespace Go.Proofs.Ytkmgndaholglhaa
variable {P : Program} {md : Region.Mode} {Q : Exit → Act → World → Prop} {S : World → Prop}

theorem ps1 {α : Type _} {xs : List α} {i : Nat} {a : α} : xs.toArray.setIfInBounds i a = (xs.set i a).toArray := List.setIfInBounds_toArray ..
theorem ps2 {α : Type _} {x : α} {xs : List α} {a : α} : (x :: xs).set 0 a = a :: xs := List.set_cons_zero
theorem ps3 {α : Type _} {x : α} {xs : List α} {n : Nat} {a : α} : (x :: xs).set (n + 1) a = x :: xs.set n a := List.set_cons_succ
theorem take_yes {l : List Oper} {i : Nat} {oi : Oper} {v : Value} {fuel : Nat} {listed : Array Bool} {a : Act} {w : World} (hi : l[i]? = some oi)
  (hs : Region.noSelect l.toArray = true) (hf : Region.free md l.toArray listed i = true) (hr : (Region.ready md l.toArray listed).contains i = true)
  (hQ : ∀ c a w, Q (.panic c) (a.put oi.dst v) w → Q (.panic c) a w) (hw : Region.wanted oi (yielded l.toArray a.tmps) = true) (hS : S w)
  (hy : ∀ w, S w → (execOp a.eval oi).run P w = .ok (.value v) w)
  (h : wpAnyH P md l.toArray Q S fuel (listed.setIfInBounds i true) (a.put oi.dst v) w) : wpAnyH P md l.toArray Q S (fuel + 1) listed a w :=
 wpAnyH_take (by simpa using hi) hs hf hr hQ (Or.inl ⟨hw, hy⟩) hS h
theorem tq {l : List Oper} {i : Nat} {oi : Oper} {v : Value} {fuel : Nat} {listed : Array Bool} {a : Act} {w : World} (hi : l[i]? = some oi)
  (hQ : ∀ c a w, Q (.panic c) (a.put oi.dst v) w → Q (.panic c) a w) (hy : ∀ w, S w → (execOp a.eval oi).run P w = .ok (.value v) w)
  (h : wpAnyH P md l.toArray Q S fuel (listed.setIfInBounds i true) (a.put oi.dst v) w)
  (hs : Region.noSelect l.toArray = true := by kernel_rfl) (hf : Region.free md l.toArray listed i = true := by kernel_rfl) (hr : (Region.ready md l.toArray listed).contains i = true := by kernel_rfl)
  (hw : Region.wanted oi (yielded l.toArray a.tmps) = true := by rfl) (hS : S w := by assumption) : wpAnyH P md l.toArray Q S (fuel + 1) listed a w :=
 take_yes hi hs hf hr hQ hw hS hy h
theorem tz {l : List Oper} {i : Nat} {oi : Oper} {v : Value} {fuel : Nat} {listed : Array Bool} {a : Act} {w : World} (hi : l[i]? = some oi) (h : wpAnyH P md l.toArray Q S fuel (listed.setIfInBounds i true) (a.put oi.dst v) w)
  (hy : ∀ w, S w → (execOp a.eval oi).run P w = .ok (.value v) w := by (intro w hSw; (try dsimp only at hSw); go_simp <;> with_reducible rfl))
  (hs : Region.noSelect l.toArray = true := by kernel_rfl) (hf : Region.free md l.toArray listed i = true := by kernel_rfl) (hr : (Region.ready md l.toArray listed).contains i = true := by kernel_rfl)
  (hQ : ∀ c a w, Q (.panic c) (a.put oi.dst v) w → Q (.panic c) a w := by exact fun _ _ _ h => h) (hw : Region.wanted oi (yielded l.toArray a.tmps) = true := by rfl) (hS : S w := by assumption) : wpAnyH P md l.toArray Q S (fuel + 1) listed a w :=
 take_yes hi hs hf hr hQ hw hS hy h
theorem tzq {l : List Oper} {i : Nat} {oi : Oper} {v : Value} {fuel : Nat} {listed : Array Bool} {a : Act} {w : World} (hi : l[i]? = some oi)
  (hQ : ∀ c a w, Q (.panic c) (a.put oi.dst v) w → Q (.panic c) a w) (h : wpAnyH P md l.toArray Q S fuel (listed.setIfInBounds i true) (a.put oi.dst v) w)
  (hy : ∀ w, S w → (execOp a.eval oi).run P w = .ok (.value v) w := by (intro w hSw; (try dsimp only at hSw); go_simp <;> with_reducible rfl))
  (hs : Region.noSelect l.toArray = true := by kernel_rfl) (hf : Region.free md l.toArray listed i = true := by kernel_rfl) (hr : (Region.ready md l.toArray listed).contains i = true := by kernel_rfl)
  (hw : Region.wanted oi (yielded l.toArray a.tmps) = true := by rfl) (hS : S w := by assumption) : wpAnyH P md l.toArray Q S (fuel + 1) listed a w :=
 take_yes hi hs hf hr hQ hw hS hy h
theorem ty {l : List Oper} {i : Nat} {oi : Oper} {v : Value} {fuel : Nat} {listed : Array Bool} {a : Act} {w : World} (hi : l[i]? = some oi)
  (hy : ∀ w, S w → (execOp a.eval oi).run P w = .ok (.value v) w) (h : wpAnyH P md l.toArray Q S fuel (listed.setIfInBounds i true) (a.put oi.dst v) w)
  (hs : Region.noSelect l.toArray = true := by kernel_rfl) (hf : Region.free md l.toArray listed i = true := by kernel_rfl) (hr : (Region.ready md l.toArray listed).contains i = true := by kernel_rfl)
  (hQ : ∀ c a w, Q (.panic c) (a.put oi.dst v) w → Q (.panic c) a w := by exact fun _ _ _ h => h) (hw : Region.wanted oi (yielded l.toArray a.tmps) = true := by rfl) (hS : S w := by assumption) : wpAnyH P md l.toArray Q S (fuel + 1) listed a w :=
 take_yes hi hs hf hr hQ hw hS hy h
theorem take_no {l : List Oper} {i : Nat} {oi : Oper} {fuel : Nat} {listed : Array Bool} {a : Act} {w : World} (hi : l[i]? = some oi)
  (hs : Region.noSelect l.toArray = true) (hf : Region.free md l.toArray listed i = true) (hr : (Region.ready md l.toArray listed).contains i = true)
  (hQ : ∀ c a w, Q (.panic c) (a.put oi.dst undef) w → Q (.panic c) a w) (hw : Region.wanted oi (yielded l.toArray a.tmps) = false) (hS : S w)
  (h : wpAnyH P md l.toArray Q S fuel (listed.setIfInBounds i true) (a.put oi.dst undef) w) : wpAnyH P md l.toArray Q S (fuel + 1) listed a w :=
 wpAnyH_take (v := undef) (by simpa using hi) hs hf hr hQ (Or.inr ⟨hw, rfl⟩) hS h
theorem take_call {l : List Oper} {i : Nat} {o : Oper} {fuel : Nat} {listed : Array Bool} {a : Act} {w : World} (ho : l[i]? = some o) (hr : Region.ready md l.toArray listed = [i])
  (h : ∀ K' : Act → World → Prop, Shut (∀ a w, S w → (S w → wpAnyH P md l.toArray Q S fuel (listed.setIfInBounds i true) a w) → K' a w) → if Region.wanted o (yielded l.toArray a.tmps) = true then Oper.wp P o a w K' Q else K' (a.put o.dst undef) w) :
  wpAnyH P md l.toArray Q S (fuel + 1) listed a w :=
 wpAnyH_ready hr (by simp) (AllReadyH.cons (by simpa using ho) h AllReadyH.nil)
end Go.Proofs.Ytkmgndaholglhaa

namespace Go.Proofs.Ytkmgndaholglhaa
open Go.RowKit
set_option linter.unusedVariables false

set_option maxRecDepth 100000 in
set_option maxHeartbeats 400000 in
theorem rtrim_own (a : Option Addr) (l cap u base : Nat) (w : World) (hown : Own w base 3 a l cap (hf.dcells l (u : Int))) (hu : u < 65536 ^ l) :
  Calls Try.prog 68 #[.slice a l cap] w fun e w' => e = .returned (.slice a (hf.nlen u) cap) ∧ w = w' ∧ Own w base 3 a (hf.nlen u) cap (hf.dcells (hf.nlen u) (u : Int)) := by
 have hs := Own.sl hown
 have hcap := hs.big
 have hroom := hs.room
 unfold maxLen at hcap
 have HO : Hid (Own w base 3 a (hf.nlen u) cap (hf.dcells (hf.nlen u) (u : Int))) := by
  have := Own.take hown (hf.nlen_le hu)
  rwa [hf.dcells_take _ _ _ (hf.nlen_le hu)] at this
 have hsh : (a = none ∧ cap = 0) ∨ ∃ g, a = some ⟨g, 0, none⟩ := by
  obtain ⟨_, ⟨h1, _⟩ | ⟨g, cap', cur, hv, _⟩⟩ := hown
  ·cases h1; exact Or.inl ⟨rfl, rfl⟩
  ·cases hv; exact Or.inr ⟨g, rfl⟩
 rcases hsh with ⟨rfl, rfl⟩ | ⟨g, rfl⟩
 ·obtain rfl : l = 0 := by omega
  have hz : Hid (hf.nlen u = 0) := hf.nlen_eq_zero.2 (by simpa using hu)
  clear hown hs
  go_enter Try.func68, Try.ntmps68
  go_wp2
  go_loop [3] (fun i => i = .int .i64 0) (fun i => (intOf i).toNat)
  case atStart => rfl
  case round =>
   obtain rfl := hrel
   go_wp2
   go_ret
   exact ⟨by rw [hz.out]; rfl, rfl, HO.out⟩
 ·go_enter Try.func68, Try.ntmps68
  go_wp2
  go_loop [3] (fun i => ∃ k : Nat, k ≤ l ∧ u < 65536 ^ k ∧ i = .int .i64 (k : Int)) (fun i => (intOf i).toNat)
  case atStart => exact ⟨l, Nat.le_refl _, hu, rfl⟩
  case round =>
   obtain ⟨k, hk, huk, rfl⟩ := hrel
   rcases k with _ | k
   ·have hz : Hid (hf.nlen u = 0) := hf.nlen_eq_zero.2 (by simpa using huk)
    clear hu huk
    go_wp2
    go_ret
    exact ⟨by rw [hz.out]; rfl, rfl, HO.out⟩
   ·have c1 : w.cell? ⟨g, k, none⟩ = some (.int .i64 (hf.dg u k)) := Own.cell hown k _ (hf.dcells_at _ _ _ (by omega))
    have e1 : ((k + 1 : Nat) : Int) - 1 = (k : Int) := by omega
    by_cases hd : hf.dg (u : Int) k = 0
    ·have hd' : (hf.dg (u : Int) k == 0) = true := by rw [hd]; rfl
     have Hn : Hid (u < 65536 ^ k) := hf.lt_of_dg_zero huk hd
     clear hd huk hu hown
     go_wp2
     go_round
     case rel => exact ⟨k, by omega, Hn.out, by go_num⟩
     case measure => simp [intOf]
    ·have hd' : (hf.dg (u : Int) k == 0) = false := by simpa using hd
     have Hl : Hid (hf.nlen u = k + 1) := by
      refine hf.nlen_eq ⟨huk, Or.inr ?_⟩
      rcases Nat.lt_or_ge u (65536 ^ k) with h | h
      ·exact absurd (hf.dg_over h) hd
      ·simpa using h
     clear hd huk hu hown
     go_wp2
     go_ret
     exact ⟨by rw [Hl.out]; rfl, rfl, HO.out⟩

theorem halves (u : Int) (k : Nat) : hf.dg u (2 * k) = wd.dg u k % 65536 ∧ hf.dg u (2 * k + 1) = wd.dg u k / 65536 := by
 unfold hf.dg wd.dg
 have e : (65536 : Int) ^ (2 * k) = 4294967296 ^ k := by rw [Int.pow_mul]; rfl
 have e2 : (65536 : Int) ^ (2 * k + 1) = 4294967296 ^ k * 65536 := by rw [Int.pow_succ, e]
 have hp := wd.p256 k
 rw [e, e2]
 have : u / (4294967296 ^ k * 65536) = u / 4294967296 ^ k / 65536 := by rw [Int.ediv_ediv, if_neg (by omega)]; omega
 rw [this]
 omega
theorem pow_halves (k : Nat) : 65536 ^ (2 * k) = 4294967296 ^ k := by rw [Nat.pow_mul]
theorem hf_two (t : Nat) (u : Int) : hf.dcells (2 * (t + 1)) u = hf.dcells (2 * t) u ++ [.int .i64 (wd.dg u t % 65536), .int .i64 (wd.dg u t / 65536)] := by
 rw [show 2 * (t + 1) = 2 * t + 1 + 1 by omega, hf.dcells_succ, hf.dcells_succ, (halves u t).1, (halves u t).2, List.append_assoc]
 rfl
def OfRel (w : World) (u l : Nat) (v i : Value) (wr : World) : Prop := ∃ (k cap : Nat) (a : Option Addr), k ≤ l ∧ i = .int .i64 (k : Int) ∧ v = .slice a (2 * k) cap ∧ Own wr w.heap.size 3 a (2 * k) cap (hf.dcells (2 * k) (u : Int)) ∧ Below w.heap.size w wr
theorem ofRel_next {w wr w2 w4 : World} {u l k cap cap' g' : Nat} {a : Option Addr} (hk : k < l) (hown : Own wr w.heap.size 3 a (2 * k) cap (hf.dcells (2 * k) (u : Int))) (hbel : Below w.heap.size w wr)
  (h4 : w4.ownsRow w.heap.size 3 1 (.slice (some ⟨g', 0, none⟩) (2 * k + 2) cap') (2 * k + 2) (hf.dcells (2 * k) (u : Int) ++ [.int .i64 (wd.dg u k % 65536), .int .i64 (wd.dg u k / 65536)]))
  (h2 : Below wr.heap.size wr w2) (hgr : w2.grownBy w4 (Value.slice a (2 * k) cap).ownBlock) : OfRel w u l (.slice (some ⟨g', 0, none⟩) (2 * k + 2) cap') (.int .i64 ((k : Int) + 1)) w4 := by
 have hs := hbel.size
 refine ⟨k + 1, cap', _, hk, by simp, rfl, ?_, (hbel.trans (h2.mono hs)).grown hgr (by have := h2.size; omega) (fun k' hk' => (World.ownsRow.lt hown k' hk').1)⟩
 rw [hf_two]
 exact h4
theorem own_empty (w : World) (base : Nat) (T : TypeId) (hb : base ≤ w.heap.size) : Own (w.alloc (.cells #[] T)) base T (some ⟨w.heap.size, 0, none⟩) 0 0 [] := World.ownsRow_lit w #[] 0 hb (by decide) rfl
set_option maxRecDepth 100000 in
set_option maxHeartbeats 1000000 in
theorem rof_any (a : Option Addr) (l ca u : Nat) (w : World) (ha : Sl w a l ca (wd.dcells l (u : Int))) (hu : u < 4294967296 ^ l) (hl : l ≤ 1000000000) :
  Calls Try.prog 51 #[.slice a l ca] w fun e w' => ∃ a' cap', e = .returned (.slice a' (hf.nlen u) cap') ∧ Own w' w.heap.size 3 a' (hf.nlen u) cap' (hf.dcells (hf.nlen u) (u : Int)) ∧ Below w.heap.size w w' := by
 obtain ⟨i0, hi0, hz0, hz1, hz2⟩ := info_parts infoInt
 have HU : Hid (u < 65536 ^ (2 * l)) := by unfold Hid; rw [pow_halves]; exact hu
 have hown0 := own_empty w w.heap.size 3 (Nat.le_refl _)
 clear hu
 go_enter Try.func51, Try.ntmps51
 go_wp2
 go_loopw [3, 4] (fun v i wr => OfRel w u l v i wr) (fun _ i _ => l - (intOf i).toNat)
 case atStart => exact ⟨0, 0, _, by omega, rfl, rfl, hown0, (Below.refl _ _).alloc (Nat.le_refl _) _⟩
 case round =>
  clear hown0
  obtain ⟨k, cap, v, hk, rfl, rfl, hown, hbel⟩ := hrel
  by_cases hlt : k < l
  ·obtain ⟨ba, oa, rfl, hba, hseg⟩ := ha.at (by omega)
   have hroom := ha.room
   have c0 : w.cell? ⟨ba, oa + k, none⟩ = some (.int .u32 (wd.dg u k)) := hseg.cell k _ (wd.dcells_at _ _ _ hlt)
   have c1 : wr.cell? ⟨ba, oa + k, none⟩ = some (.int .u32 (wd.dg u k)) := (hbel.cell (p := ⟨ba, oa + k, none⟩) hba).trans (hseg.cell k _ (wd.dcells_at _ _ _ hlt))
   have hsz := hbel.size
   have hba2 : ba < wr.heap.size := by omega
   obtain ⟨d0, d1⟩ := wd.dg_range u k
   have E1 : IntKind.i64.wrap ((wd.dg (u : Int) k).tmod 65536) = wd.dg u k % 65536 := by rw [Int.tmod_eq_emod_of_nonneg d0, IntKind.wrap_i64]; omega
   have E2 : IntKind.i64.wrap (IntKind.u32.wrap ((wd.dg (u : Int) k).tdiv 65536)) = wd.dg u k / 65536 := by rw [Int.tdiv_eq_ediv_of_nonneg d0, IntKind.wrap_u32', IntKind.wrap_i64]; omega
   have HN : Hid _ := fun w2 w4 g' cap' => ofRel_next (w2 := w2) (w4 := w4) (g' := g') (cap' := cap') hlt hown hbel
   go_wp2
   refine wp_region_held_drew (S := (fun w' => w'.cell? ⟨ba, oa + k, none⟩ = some (.int .u32 (wd.dg u k)) ∧ Below w.heap.size w w')) (by kernel_rfl) ?_ (fun hHeld => ?_)
   ·first | exact ⟨c1, hbel⟩ | exact ⟨c1, hbel.drew⟩ | exact ⟨((hHeld.2.alloc hHeld.2.size _).cell (p := ⟨ba, oa + k, none⟩) hba).trans c0, hHeld.2.alloc hHeld.2.size _⟩ | exact ⟨((hbel.alloc hbel.size _).drew.cell (p := ⟨ba, oa + k, none⟩) hba).trans c0, (hbel.alloc hbel.size _).drew⟩
   refine tz (i := 0) rfl ?_
   simp only [Act.put, ps1, ps2, ps3]
   refine tz (i := 1) rfl ?_
   simp only [Act.put, ps1, ps2, ps3]
   refine tz (i := 2) rfl ?_
   simp only [Act.put, ps1, ps2, ps3]
   refine tz (i := 3) rfl ?_
   simp only [Act.put, ps1, ps2, ps3]
   refine tz (i := 4) rfl ?_
   simp only [Act.put, ps1, ps2, ps3]
   refine tz (i := 5) rfl ?_
   simp only [Act.put, ps1, ps2, ps3]
   refine tz (i := 6) rfl ?_
   simp only [Act.put, ps1, ps2, ps3]
   refine tz (i := 7) rfl ?_
   simp only [Act.put, ps1, ps2, ps3]
   refine tz (i := 8) rfl ?_
   simp only [Act.put, ps1, ps2, ps3]
   refine tz (i := 9) rfl ?_
   simp only [Act.put, ps1, ps2, ps3]
   refine tz (i := 10) rfl ?_
   simp only [Act.put, ps1, ps2, ps3]
   refine tz (i := 11) rfl ?_
   simp only [Act.put, ps1, ps2, ps3]
   refine tz (i := 12) rfl ?_
   simp only [Act.put, ps1, ps2, ps3]
   refine take_call (i := 13) rfl (by kernel_rfl) (fun K hK => ?_)
   go_simp
   refine hK.out _ _ ?_ (fun hHeld => ?_)
   ·first | exact ⟨c1, hbel⟩ | exact ⟨c1, hbel.drew⟩ | exact ⟨((hHeld.2.alloc hHeld.2.size _).cell (p := ⟨ba, oa + k, none⟩) hba).trans c0, hHeld.2.alloc hHeld.2.size _⟩ | exact ⟨((hbel.alloc hbel.size _).drew.cell (p := ⟨ba, oa + k, none⟩) hba).trans c0, (hbel.alloc hbel.size _).drew⟩
   clear hK K
   refine take_call (i := 14) rfl (by kernel_rfl) (fun K hK => ?_)
   refine step_append_lies _ rfl (.tmp 12) (.tmp 25) 33 rfl w.heap.size 3 i0 (.int .i64 0) 1 8 Try.underlying33 hi0 hz0 hz1 hz2 rfl (by decide) (.slice v (2 * k) cap) (2 * k) (hf.dcells (2 * k) (u : Int)) rfl (World.ownsRow.alloc hown _) ⟨wr.heap.size, 0, none⟩ 2 2 [.int .i64 (wd.dg u k % 65536), .int .i64 (wd.dg u k / 65536)] rfl rfl (World.news_of_block (heap_alloc_new wr _)) (ints_oneCell .i64 [wd.dg u k % 65536, wd.dg u k / 65536]) (by decide) (by unfold maxLen; omega) (by omega) (by simp; omega) _ rfl ?_; intro g' cap' w4 hown4 hgrow4 hat4 hlt4
   refine hK.out _ _ ?_ (fun hHeld => ?_)
   ·exact ⟨(((hHeld.2.grown hgrow4 (by simp; omega) (fun k' hk' => (World.ownsRow.lt hown k' hk').1))).cell (p := ⟨ba, oa + k, none⟩) hba).trans c0, hHeld.2.grown hgrow4 (by simp; omega) (fun k' hk' => (World.ownsRow.lt hown k' hk').1)⟩
   clear hK K
   refine tz (i := 15) rfl ?_
   simp only [Act.put, ps1, ps2, ps3]
   refine wpAnyH_done (by kernel_rfl) ?_ _
   go_wp2
   go_roundw
   case rel => exact HN.out _ w4 g' cap' hown4 ((Below.refl _ _).alloc (Nat.le_refl _) _).drew hgrow4
   case measure => simp [intOf]; omega
  ·obtain rfl : k = l := by omega
   go_wp2_with (go_at_call 68; refine (rtrim_own _ _ _ u _ _ hown HU.out).mono ?_; rintro e w' ⟨rfl, hw, hown2⟩; subst hw)
   go_ret
   exact ⟨v, cap, rfl, hown2, hbel⟩
end Go.Proofs.Ytkmgndaholglhaa

namespace Go.Proofs.Ytkmgndaholglhaa
open Go.RowKit Go.Shelf
set_option linter.unusedVariables false
attribute [local go_sem] Oper.semAt_some

def dn (p r : Nat) : List (Fin (p + 1)) := (List.range (p + 1 - r)).map fun j => ⟨p - j, by omega⟩
end Go.Proofs.Ytkmgndaholglhaa

namespace Go.Proofs.Ytkmgndaholglhaa
open Go.RowKit Go.Shelf
set_option linter.unusedVariables false
attribute [local go_sem] Oper.semAt_some

def cmpI (x y : Int) : Int := if x < y then -1 else if y < x then 1 else 0
end Go.Proofs.Ytkmgndaholglhaa

namespace Go.Proofs.Ytkmgndaholglhaa
open Go.RowKit Go.Shelf
set_option linter.unusedVariables false
attribute [local go_sem] Oper.semAt_some

theorem cmpI_self (x : Int) : cmpI x x = 0 := by unfold cmpI; simp

end Go.Proofs.Ytkmgndaholglhaa

namespace Go.Proofs.Ytkmgndaholglhaa
open Go.RowKit
set_option linter.unusedVariables false

structure NI (w : World) (a : Option Addr) (l c u : Nat) : Prop where
 sl : Sl w a l c (wd.dcells l (u : Int))
 lt : u < 4294967296 ^ l
 few : l ≤ 1000000
end Go.Proofs.Ytkmgndaholglhaa

namespace Go.Proofs.Ytkmgndaholglhaa
open Go.RowKit
set_option linter.unusedVariables false

def NA (k : Nat) (a : Option Addr) (l : Nat) : Prop := l = 0 ∨ ∀ o, a ≠ some ⟨k, o, none⟩
def Far (base : Nat) (a : Option Addr) (l : Nat) : Prop := ∀ k, k < base → NA k a l
theorem Sl.na {w : World} {a : Option Addr} {l c k : Nat} {xs : List Value} (h : Sl w a l c xs) (hk : w.heap.size ≤ k) : NA k a l := by
 rcases Nat.eq_zero_or_pos l with e | e
 ·exact Or.inl e
 ·obtain ⟨b, o, rfl, hb, _⟩ := h.at e
  exact Or.inr fun o' e' => by cases e'; omega
theorem Sl.put {w : World} {a : Option Addr} {l c b : Nat} {xs : List Value} (h : Sl w a l c xs) (hn : NA b a l) (i : Nat) (v : Value) : Sl (w.setCell ⟨b, i, none⟩ v) a l c xs := by
 refine ⟨h.len, h.room, h.big, h.nil, ?_⟩
 rcases hn with e | hn
 ·exact Or.inl e
 ·refine h.seg.imp id ?_
  rintro ⟨k, o, e, hk, hs⟩
  exact ⟨k, o, e, by simpa using hk, hs.other v (by rintro rfl; exact hn o e)⟩
theorem Own.far {w : World} {base n cap : Nat} {T : TypeId} {a : Option Addr} {xs : List Value} (h : Own w base T a n cap xs) : Far base a n := by
 intro k hk
 right
 intro o e
 obtain ⟨hl, ⟨h1, _⟩ | ⟨g, cap', cur, hv, hb', r⟩⟩ := h
 ·rw [e] at h1
  cases h1
 ·rw [e] at hv
  cases hv
  omega
theorem cell_on {w w' : World} {p : Addr} {v : Value} (hb : Below w.heap.size w w') (h : w.cell? p = some v) : w'.cell? p = some v := by
 refine (hb.cell (p := p) ?_).trans h
 refine Nat.lt_of_not_le fun hle => ?_
 unfold World.cell? at h
 rw [Array.getElem?_eq_none hle] at h
 simp at h
theorem free_on {w w' : World} {p : Addr} {v : Value} {f : Bool} (hb : Below w.heap.size w w') (h : w.cell? p = some v) (hf : w.frozen? p = f) : w'.frozen? p = f := by
 refine (hb.frozen (p := p) ?_).trans hf
 refine Nat.lt_of_not_le fun hle => ?_
 unfold World.cell? at h
 rw [Array.getElem?_eq_none hle] at h
 simp at h
structure Bx (w : World) (b : Nat) (x y : Value) : Prop where
 c0 : w.cell? ⟨b, 0, none⟩ = some x
 c1 : w.cell? ⟨b, 1, none⟩ = some y
 f0 : w.frozen? ⟨b, 0, none⟩ = false
 f1 : w.frozen? ⟨b, 1, none⟩ = false
theorem Bx.on {w w' : World} {b : Nat} {x y : Value} (h : Bx w b x y) (hb : Below w.heap.size w w') : Bx w' b x y := ⟨cell_on hb h.c0, cell_on hb h.c1, free_on hb h.c0 h.f0, free_on hb h.c1 h.f1⟩
theorem bx_new (w : World) (x y : Value) (t : TypeId) : Bx (w.alloc (.cells #[x, y] t)) w.heap.size x y := by
 have h := Row.new w [x, y] t
 exact ⟨h.cell 0 _ rfl, h.cell 1 _ rfl, h.free 0 (by simp), h.free 1 (by simp)⟩
theorem bx_lt {w : World} {b : Nat} {x y : Value} (h : Bx w b x y) : b < w.heap.size := by
 refine Nat.lt_of_not_le fun hle => ?_
 have := h.c0
 unfold World.cell? at this
 rw [Array.getElem?_eq_none hle] at this
 simp at this
theorem Bx.put {w : World} {b k i : Nat} {x y v : Value} (h : Bx w b x y) (hk : k ≠ b) : Bx (w.setCell ⟨k, i, none⟩ v) b x y := by
 have hne : ∀ j, (⟨k, i, none⟩ : Addr) ≠ ⟨b, j, none⟩ := fun j e => by cases e; exact hk rfl
 refine ⟨?_, ?_, by rw [World.frozen?_setCell]; exact h.f0, by rw [World.frozen?_setCell]; exact h.f1⟩
 ·rw [World.cell?_setCell_other _ _ _ _ (by intro q; simp only [Addr.mk.injEq] at q; omega)]; exact h.c0
 ·rw [World.cell?_setCell_other _ _ _ _ (by intro q; simp only [Addr.mk.injEq] at q; omega)]; exact h.c1
theorem Bx.set {w : World} {b : Nat} {x y u v : Value} (h : Bx w b x y) : Bx ((w.setCell ⟨b, 0, none⟩ u).setCell ⟨b, 1, none⟩ v) b u v := by
 refine ⟨?_, ?_, by rw [World.frozen?_setCell, World.frozen?_setCell]; exact h.f0, by rw [World.frozen?_setCell, World.frozen?_setCell]; exact h.f1⟩
 ·rw [World.cell?_setCell_other _ _ _ _ (by intro q; simp only [Addr.mk.injEq] at q; omega)]
  exact World.cell?_setCell_same _ _ _ h.c0
 ·have h1 : (w.setCell ⟨b, 0, none⟩ u).cell? ⟨b, 1, none⟩ = some y := by
   rw [World.cell?_setCell_other _ _ _ _ (by intro q; simp only [Addr.mk.injEq] at q; omega)]
   exact h.c1
  exact World.cell?_setCell_same _ _ _ h1
end Go.Proofs.Ytkmgndaholglhaa

namespace Go.Proofs.Ytkmgndaholglhaa
open Go.RowKit
set_option linter.unusedVariables false

theorem below_put2 {B b : Nat} {w w' : World} (h : Below B w w') (hb : B ≤ b) (u v : Value) : Below B w ((w'.setCell ⟨b, 0, none⟩ u).setCell ⟨b, 1, none⟩ v) := (h.setCell hb _).setCell hb _
theorem also {w w1 w2 : World} (h : Below w.heap.size w w1) (k : Below w1.heap.size w1 w2) : Below w.heap.size w w2 := h.trans (k.mono h.size)

end Go.Proofs.Ytkmgndaholglhaa

namespace Go.Proofs.Ytkmgndaholglhaa
open Go.RowKit
set_option linter.unusedVariables false

theorem box1 (w : World) (x1 y1 z1 z2 : Value) (t1 t2 : TypeId) : Below w.heap.size w ((w.alloc (.cells #[x1, y1] t1)).alloc (.cells #[z1, z2] t2)) ∧ Bx ((w.alloc (.cells #[x1, y1] t1)).alloc (.cells #[z1, z2] t2)) w.heap.size x1 y1 ∧
  Bx ((w.alloc (.cells #[x1, y1] t1)).alloc (.cells #[z1, z2] t2)) (w.heap.size + 1) z1 z2 ∧ w.heap.size + 1 < ((w.alloc (.cells #[x1, y1] t1)).alloc (.cells #[z1, z2] t2)).heap.size := by
 have h1 := (bx_new w x1 y1 t1).on ((Below.refl _ _).alloc (Nat.le_refl _) (.cells #[z1, z2] t2))
 have h2 := bx_new (w.alloc (.cells #[x1, y1] t1)) z1 z2 t2
 rw [World.size_alloc] at h2
 exact ⟨((Below.refl _ _).alloc (Nat.le_refl _) _).alloc (by simp) _, h1, h2, by simp⟩
theorem box2 (w : World) (x1 y1 x2 y2 z1 z2 : Value) (t1 t2 t3 : TypeId) : Below w.heap.size w (((w.alloc (.cells #[x1, y1] t1)).alloc (.cells #[x2, y2] t2)).alloc (.cells #[z1, z2] t3)) ∧ Bx (((w.alloc (.cells #[x1, y1] t1)).alloc (.cells #[x2, y2] t2)).alloc (.cells #[z1, z2] t3)) w.heap.size x1 y1 ∧
  Bx (((w.alloc (.cells #[x1, y1] t1)).alloc (.cells #[x2, y2] t2)).alloc (.cells #[z1, z2] t3)) (w.heap.size + 1) x2 y2 ∧ Bx (((w.alloc (.cells #[x1, y1] t1)).alloc (.cells #[x2, y2] t2)).alloc (.cells #[z1, z2] t3)) (w.heap.size + 1 + 1) z1 z2 ∧
  w.heap.size + 1 + 1 < (((w.alloc (.cells #[x1, y1] t1)).alloc (.cells #[x2, y2] t2)).alloc (.cells #[z1, z2] t3)).heap.size := by
 obtain ⟨h1, h2, h3, h4⟩ := box1 w x1 y1 x2 y2 t1 t2
 have hb : Below ((w.alloc (.cells #[x1, y1] t1)).alloc (.cells #[x2, y2] t2)).heap.size ((w.alloc (.cells #[x1, y1] t1)).alloc (.cells #[x2, y2] t2)) (((w.alloc (.cells #[x1, y1] t1)).alloc (.cells #[x2, y2] t2)).alloc (.cells #[z1, z2] t3)) := (Below.refl _ _).alloc (Nat.le_refl _) _
 have h5 := bx_new ((w.alloc (.cells #[x1, y1] t1)).alloc (.cells #[x2, y2] t2)) z1 z2 t3
 rw [World.size_alloc, World.size_alloc] at h5
 exact ⟨also h1 hb, h2.on hb, h3.on hb, h5, by simp⟩
theorem keepB2 {n : Nat} {v1 v2 v3 v4 : Value} {w0 w w' : World} (h : w.cell? ⟨n, 0, none⟩ = some v1 ∧ w.cell? ⟨n, 1, none⟩ = some v2 ∧ w.cell? ⟨n + 1, 0, none⟩ = some v3 ∧ w.cell? ⟨n + 1, 1, none⟩ = some v4 ∧ Below w0.heap.size w0 w) (hb : Below w.heap.size w w') :
  w'.cell? ⟨n, 0, none⟩ = some v1 ∧ w'.cell? ⟨n, 1, none⟩ = some v2 ∧ w'.cell? ⟨n + 1, 0, none⟩ = some v3 ∧ w'.cell? ⟨n + 1, 1, none⟩ = some v4 ∧ Below w0.heap.size w0 w' :=
 ⟨cell_on hb h.1, cell_on hb h.2.1, cell_on hb h.2.2.1, cell_on hb h.2.2.2.1, also h.2.2.2.2 hb⟩
theorem keepS1 {n k : Nat} {v1 v2 : Value} {w0 w : World} (h : w.cell? ⟨n, 0, none⟩ = some v1 ∧ w.cell? ⟨n, 1, none⟩ = some v2 ∧ Below w0.heap.size w0 w) (hk : n < k) (hB : w0.heap.size ≤ k) (u v : Value) :
  ((w.setCell ⟨k, 0, none⟩ u).setCell ⟨k, 1, none⟩ v).cell? ⟨n, 0, none⟩ = some v1 ∧ ((w.setCell ⟨k, 0, none⟩ u).setCell ⟨k, 1, none⟩ v).cell? ⟨n, 1, none⟩ = some v2 ∧ Below w0.heap.size w0 ((w.setCell ⟨k, 0, none⟩ u).setCell ⟨k, 1, none⟩ v) := by
 have hne : ∀ i j : Nat, (⟨k, i, none⟩ : Addr) ≠ ⟨n, j, none⟩ := fun i j e => by simp only [Addr.mk.injEq] at e; omega
 exact ⟨by rw [World.cell?_setCell_other _ _ _ _ (hne _ _), World.cell?_setCell_other _ _ _ _ (hne _ _)]; exact h.1, by rw [World.cell?_setCell_other _ _ _ _ (hne _ _), World.cell?_setCell_other _ _ _ _ (hne _ _)]; exact h.2.1, below_put2 h.2.2 hB u v⟩
theorem keepS2 {n k : Nat} {v1 v2 v3 v4 : Value} {w0 w : World} (h : w.cell? ⟨n, 0, none⟩ = some v1 ∧ w.cell? ⟨n, 1, none⟩ = some v2 ∧ w.cell? ⟨n + 1, 0, none⟩ = some v3 ∧ w.cell? ⟨n + 1, 1, none⟩ = some v4 ∧ Below w0.heap.size w0 w) (hk : n + 1 < k) (hB : w0.heap.size ≤ k) (u v : Value) :
  ((w.setCell ⟨k, 0, none⟩ u).setCell ⟨k, 1, none⟩ v).cell? ⟨n, 0, none⟩ = some v1 ∧ ((w.setCell ⟨k, 0, none⟩ u).setCell ⟨k, 1, none⟩ v).cell? ⟨n, 1, none⟩ = some v2 ∧ ((w.setCell ⟨k, 0, none⟩ u).setCell ⟨k, 1, none⟩ v).cell? ⟨n + 1, 0, none⟩ = some v3 ∧ ((w.setCell ⟨k, 0, none⟩ u).setCell ⟨k, 1, none⟩ v).cell? ⟨n + 1, 1, none⟩ = some v4 ∧ Below w0.heap.size w0 ((w.setCell ⟨k, 0, none⟩ u).setCell ⟨k, 1, none⟩ v) := by
 obtain ⟨h1, h2, h3, h4, h5⟩ := h
 obtain ⟨a1, a2, _⟩ := keepS1 ⟨h1, h2, h5⟩ (by omega) hB u v
 obtain ⟨b1, b2, b3⟩ := keepS1 ⟨h3, h4, h5⟩ hk hB u v
 exact ⟨a1, a2, b1, b2, b3⟩
theorem Bx.drew {w : World} {b : Nat} {x y : Value} (h : Bx w b x y) : Bx w.drew b x y := ⟨h.c0, h.c1, h.f0, h.f1⟩
end Go.Proofs.Ytkmgndaholglhaa

namespace Go.Proofs.Ytkmgndaholglhaa
open Go.RowKit
set_option linter.unusedVariables false

theorem bd_i64 {x : Int} (h : (Lit.int .i64 x).wf = true) : -9223372036854775808 ≤ x ∧ x ≤ 9223372036854775807 := by
 simp [Lit.wf, IntKind.min, IntKind.max, IntKind.signed, IntKind.bits] at h
 exact ⟨by omega, by omega⟩
def inC (c : Int) : Bool := decide (-1099511627776 ≤ c ∧ c ≤ 1099511627776)
def canC (x y : Int) : Bool := inC x && inC y
def cmpP (x y z t : Int) : Int := if x = z then cmpI y t else cmpI x z
theorem inC_true {c : Int} : inC c = true ↔ (-1099511627776 ≤ c ∧ c ≤ 1099511627776) := by unfold inC; exact decide_eq_true_iff
theorem inC_false {c : Int} : inC c = false ↔ ¬(-1099511627776 ≤ c ∧ c ≤ 1099511627776) := by unfold inC; exact decide_eq_false_iff_not
theorem canC_true {x y : Int} : canC x y = true ↔ (inC x = true ∧ inC y = true) := by unfold canC; exact Bool.and_eq_true_iff
theorem wrap_in {x : Int} (h1 : -9223372036854775808 ≤ x) (h2 : x ≤ 9223372036854775807) : wrap64 x = x := by unfold wrap64; omega
theorem wrap_i64 (x : Int) : IntKind.i64.wrap x = wrap64 x := by unfold wrap64; simp [IntKind.wrap, IntKind.signed, IntKind.bits]; try omega
end Go.Proofs.Ytkmgndaholglhaa

namespace Go.Proofs.Ytkmgndaholglhaa
open Go.RowKit
set_option linter.unusedVariables false

def areaP (ax ay bx by' cx cy : Int) : Int := (bx - ax) * (cy - ay) - (by' - ay) * (cx - ax)
def distP (ax ay bx by' : Int) : Int := (bx - ax) * (bx - ax) + (by' - ay) * (by' - ay)
def detP (ax ay bx by' cx cy dx dy : Int) : Int :=
 distP ax ay dx dy * ((bx - dx) * (cy - dy) - (by' - dy) * (cx - dx)) - distP bx by' dx dy * ((ax - dx) * (cy - dy) - (ay - dy) * (cx - dx)) + distP cx cy dx dy * ((ax - dx) * (by' - dy) - (ay - dy) * (bx - dx))
theorem det_areas (ax ay bx by' cx cy dx dy : Int) : detP ax ay bx by' cx cy dx dy = distP ax ay dx dy * areaP dx dy bx by' cx cy - distP bx by' dx dy * areaP dx dy ax ay cx cy + distP cx cy dx dy * areaP dx dy ax ay bx by' := by
 unfold detP areaP; rfl
theorem dist_turn (ax ay bx by' : Int) : distP ax ay bx by' = distP bx by' ax ay := by unfold distP; grind
theorem prod_abs {x y : Int} {A B : Nat} (hx : x.natAbs ≤ A) (hy : y.natAbs ≤ B) : (x * y).natAbs ≤ A * B := by
 rw [Int.natAbs_mul]; exact Nat.mul_le_mul hx hy
theorem cross_abs {p q r s : Int} {D : Nat} (h1 : p.natAbs ≤ D) (h2 : q.natAbs ≤ D) (h3 : r.natAbs ≤ D) (h4 : s.natAbs ≤ D) : (p * q - r * s).natAbs ≤ 2 * (D * D) := by
 have a := prod_abs h1 h2
 have b := prod_abs h3 h4
 omega
theorem dist_abs {ax ay bx by' : Int} {D : Nat} (h1 : (bx - ax).natAbs ≤ D) (h2 : (by' - ay).natAbs ≤ D) : (distP ax ay bx by').natAbs ≤ 2 * (D * D) := by
 have a := prod_abs h1 h1
 have b := prod_abs h2 h2
 unfold distP
 omega
theorem area_abs {ax ay bx by' cx cy : Int} {D : Nat} (h1 : (bx - ax).natAbs ≤ D) (h2 : (by' - ay).natAbs ≤ D) (h3 : (cx - ax).natAbs ≤ D) (h4 : (cy - ay).natAbs ≤ D) : (areaP ax ay bx by' cx cy).natAbs ≤ 2 * (D * D) := cross_abs h1 h4 h2 h3
theorem det_abs {ax ay bx by' cx cy dx dy : Int} {D : Nat} (a1 : (ax - dx).natAbs ≤ D) (a2 : (ay - dy).natAbs ≤ D) (b1 : (bx - dx).natAbs ≤ D) (b2 : (by' - dy).natAbs ≤ D) (c1 : (cx - dx).natAbs ≤ D) (c2 : (cy - dy).natAbs ≤ D) :
  (detP ax ay bx by' cx cy dx dy).natAbs ≤ 3 * (2 * (D * D) * (2 * (D * D))) := by
 have A := prod_abs (dist_abs (ax := ax) (ay := ay) (bx := dx) (by' := dy) (D := D) (by omega) (by omega)) (cross_abs b1 c2 b2 c1)
 have B := prod_abs (dist_abs (ax := bx) (ay := by') (bx := dx) (by' := dy) (D := D) (by omega) (by omega)) (cross_abs a1 c2 a2 c1)
 have C := prod_abs (dist_abs (ax := cx) (ay := cy) (bx := dx) (by' := dy) (D := D) (by omega) (by omega)) (cross_abs a1 b2 a2 b1)
 unfold detP
 generalize 2 * (D * D) * (2 * (D * D)) = M at *
 omega
theorem dist_nonneg (ax ay bx by' : Int) : 0 ≤ distP ax ay bx by' := by
 unfold distP
 have a : 0 ≤ (bx - ax) * (bx - ax) := by rw [← Int.natAbs_mul_self]; exact Int.natCast_nonneg _
 have b : 0 ≤ (by' - ay) * (by' - ay) := by rw [← Int.natAbs_mul_self]; exact Int.natCast_nonneg _
 omega
theorem can_diff {x y : Int} (hx : inC x = true) (hy : inC y = true) : (x - y).natAbs ≤ 2199023255552 := by
 have := inC_true.1 hx
 have := inC_true.1 hy
 omega
theorem cmp_sign (x : Int) : cmpI x 0 = x.sign := by
 unfold cmpI
 rcases Int.lt_trichotomy x 0 with h | h | h
 ·rw [if_pos h, Int.sign_eq_neg_one_of_neg h]
 ·subst h; rfl
 ·rw [if_neg (by omega), if_pos h, Int.sign_eq_one_of_pos h]
end Go.Proofs.Ytkmgndaholglhaa

namespace Go.Proofs.Ytkmgndaholglhaa
open Go.RowKit
set_option linter.unusedVariables false

abbrev Pt := Int × Int
def arQ (a b c : Pt) : Int := areaP a.1 a.2 b.1 b.2 c.1 c.2
def deQ (a b c d : Pt) : Int := detP a.1 a.2 b.1 b.2 c.1 c.2 d.1 d.2
def ltQ (p q : Pt) : Bool := decide (p.1 < q.1 ∨ (p.1 = q.1 ∧ p.2 < q.2))
def lastQ (p a b c : Pt) : Bool := ltQ a p && (ltQ b p && ltQ c p)
def tieQ (a b c d : Pt) : Bool := if lastQ d a b c then false else if lastQ c a b d then decide (0 < arQ a b d) else if lastQ b a c d then decide (0 < arQ a d c) else decide (0 < arQ d b c)
def cirQ (a b c d : Pt) : Bool := if deQ a b c d = 0 then tieQ a b c d else decide (0 < deQ a b c d)
theorem lt_iff {p q : Pt} : ltQ p q = true ↔ (p.1 < q.1 ∨ (p.1 = q.1 ∧ p.2 < q.2)) := by unfold ltQ; exact decide_eq_true_iff
theorem lt_no {p q : Pt} : ltQ p q = false ↔ ¬(p.1 < q.1 ∨ (p.1 = q.1 ∧ p.2 < q.2)) := by unfold ltQ; exact decide_eq_false_iff_not
theorem pt_ne {p q : Pt} (h : p ≠ q) : p.1 ≠ q.1 ∨ p.2 ≠ q.2 := by
 rcases Decidable.em (p.1 = q.1) with h1 | h1
 ·exact Or.inr fun h2 => h (Prod.ext h1 h2)
 ·exact Or.inl h1
theorem lt_tri {p q : Pt} (h : p ≠ q) : (ltQ p q = true ∧ ltQ q p = false) ∨ (ltQ q p = true ∧ ltQ p q = false) := by
 have := pt_ne h
 rw [lt_iff, lt_no, lt_iff, lt_no]
 omega
theorem lt_trans {p q r : Pt} (h : ltQ p q = true) (k : ltQ q r = true) : ltQ p r = true := by
 rw [lt_iff] at *
 omega
theorem lt_irr (p : Pt) : ltQ p p = false := by rw [lt_no]; omega
theorem lt_anti {p q : Pt} (h : ltQ p q = true) : ltQ q p = false := by rw [lt_iff] at h; rw [lt_no]; omega
theorem cmp_last (x y z t : Int) : decide (0 < cmpP x y z t) = ltQ (z, t) (x, y) := by
 unfold cmpP cmpI ltQ
 rw [decide_eq_decide]
 dsimp only
 split
 ·split
  ·constructor <;> intro h <;> omega
  ·split <;> constructor <;> intro h <;> omega
 ·split
  ·constructor <;> intro h <;> omega
  ·split <;> constructor <;> intro h <;> omega
theorem last6 {p x y z : Pt} (h1 : ltQ x p = true) (h2 : ltQ y p = true) (h3 : ltQ z p = true) : ltQ x p = true ∧ ltQ y p = true ∧ ltQ z p = true ∧ ltQ p x = false ∧ ltQ p y = false ∧ ltQ p z = false := ⟨h1, h2, h3, lt_anti h1, lt_anti h2, lt_anti h3⟩
theorem one_last {a b c d : Pt} (ab : a ≠ b) (ac : a ≠ c) (bc : b ≠ c) (da : d ≠ a) (db : d ≠ b) (dc : d ≠ c) :
  (ltQ a d = true ∧ ltQ b d = true ∧ ltQ c d = true ∧ ltQ d a = false ∧ ltQ d b = false ∧ ltQ d c = false) ∨
  (ltQ a c = true ∧ ltQ b c = true ∧ ltQ d c = true ∧ ltQ c a = false ∧ ltQ c b = false ∧ ltQ c d = false) ∨
  (ltQ a b = true ∧ ltQ c b = true ∧ ltQ d b = true ∧ ltQ b a = false ∧ ltQ b c = false ∧ ltQ b d = false) ∨
  (ltQ b a = true ∧ ltQ c a = true ∧ ltQ d a = true ∧ ltQ a b = false ∧ ltQ a c = false ∧ ltQ a d = false) := by
 rcases lt_tri ab with ⟨x, _⟩ | ⟨x, _⟩ <;> rcases lt_tri dc with ⟨y, _⟩ | ⟨y, _⟩
 ·rcases lt_tri bc with ⟨z, _⟩ | ⟨z, _⟩
  ·exact Or.inr (Or.inl (last6 (lt_trans x z) z y))
  ·exact Or.inr (Or.inr (Or.inl (last6 x z (lt_trans y z))))
 ·rcases lt_tri db with ⟨z, _⟩ | ⟨z, _⟩
  ·exact Or.inr (Or.inr (Or.inl (last6 x (lt_trans y z) z)))
  ·exact Or.inl (last6 (lt_trans x z) z y)
 ·rcases lt_tri ac with ⟨z, _⟩ | ⟨z, _⟩
  ·exact Or.inr (Or.inl (last6 z (lt_trans x z) y))
  ·exact Or.inr (Or.inr (Or.inr (last6 x z (lt_trans y z))))
 ·rcases lt_tri da with ⟨z, _⟩ | ⟨z, _⟩
  ·exact Or.inr (Or.inr (Or.inr (last6 x (lt_trans y z) z)))
  ·exact Or.inl (last6 z (lt_trans x z) y)
theorem ar_ne {a b c : Pt} (h : 0 < arQ a b c) : a ≠ b ∧ a ≠ c ∧ b ≠ c := by
 refine ⟨?_, ?_, ?_⟩ <;> rintro rfl <;> unfold arQ areaP at h <;> grind
end Go.Proofs.Ytkmgndaholglhaa

namespace Go.Proofs.Ytkmgndaholglhaa
open Go.RowKit
set_option linter.unusedVariables false

def doQ (a b c : Pt) : Int := (c.1 - a.1) * (c.1 - b.1) + (c.2 - a.2) * (c.2 - b.2)
theorem de_do (a b c d : Pt) : deQ a b c d = arQ a b d * doQ a b c - arQ a b c * doQ a b d := by unfold deQ detP distP arQ areaP doQ; grind
theorem turn_a (a b c d e : Pt) : arQ a b d * arQ a e c = arQ a b c * arQ a e d + arQ a b e * arQ a d c := by unfold arQ areaP; grind
theorem turn_b (a b c d e : Pt) : arQ a b d * arQ e b c = arQ a b c * arQ e b d + arQ a b e * arQ d b c := by unfold arQ areaP; grind
theorem pos_of_mul {x y : Int} (hx : 0 < x) (h : 0 < x * y) : 0 < y := by
 rcases Int.lt_trichotomy y 0 with g | g | g
 ·have := Int.mul_neg_of_pos_of_neg hx g; omega
 ·subst g; rw [Int.mul_zero] at h; omega
 ·exact g
theorem trans_a {a b c d e : Pt} (hc : 0 < arQ a b c) (hd : 0 < arQ a b d) (he : 0 < arQ a b e) (h1 : 0 < arQ a d c) (h2 : 0 < arQ a e d) : 0 < arQ a e c := by
 refine pos_of_mul hd ?_
 rw [turn_a]
 have := Int.mul_pos hc h2
 have := Int.mul_pos he h1
 omega
theorem trans_b {a b c d e : Pt} (hc : 0 < arQ a b c) (hd : 0 < arQ a b d) (he : 0 < arQ a b e) (h1 : 0 < arQ d b c) (h2 : 0 < arQ e b d) : 0 < arQ e b c := by
 refine pos_of_mul hd ?_
 rw [turn_b]
 have := Int.mul_pos hc h2
 have := Int.mul_pos he h1
 omega
theorem tie_left {a b c d : Pt} (hc : 0 < arQ a b c) (hd : 0 < arQ a b d) (dc : d ≠ c) :
  tieQ a b c d = if ltQ a c && ltQ b c || ltQ a d && ltQ b d then ltQ d c else if ltQ a b then decide (0 < arQ a d c) else decide (0 < arQ d b c) := by
 obtain ⟨ab, ac, bc⟩ := ar_ne hc
 obtain ⟨_, ad, bd⟩ := ar_ne hd
 unfold tieQ lastQ
 rcases one_last ab ac bc (Ne.symm ad) (Ne.symm bd) dc with ⟨g1, g2, g3, g4, g5, g6⟩ | ⟨g1, g2, g3, g4, g5, g6⟩ | ⟨g1, g2, g3, g4, g5, g6⟩ | ⟨g1, g2, g3, g4, g5, g6⟩ <;> simp [g1, g2, g3, g4, g5, g6, hd]
def beatQ (a b c d : Pt) : Bool := decide (d ≠ c) && cirQ a b c d
theorem ratio_trans {p q r x y z : Int} (hx : 0 < x) (hy : 0 < y) (hz : 0 < z) (h1 : q * x ≤ p * y) (h2 : r * y ≤ q * z) : r * x ≤ p * z ∧ ((q * x < p * y ∨ r * y < q * z) → r * x < p * z) := by
 have e1 : y * (r * x) = x * (r * y) := by grind
 have e2 : y * (p * z) = z * (p * y) := by grind
 have e3 : x * (q * z) = z * (q * x) := by grind
 have m1 := Int.mul_le_mul_of_nonneg_left h1 (Int.le_of_lt hz)
 have m2 := Int.mul_le_mul_of_nonneg_left h2 (Int.le_of_lt hx)
 constructor
 ·refine Int.le_of_mul_le_mul_left ?_ hy
  rw [e1, e2]
  omega
 ·intro h
  refine Int.lt_of_mul_lt_mul_left (a := y) ?_ (Int.le_of_lt hy)
  rw [e1, e2]
  rcases h with h | h
  ·have := Int.mul_lt_mul_of_pos_left h hz; omega
  ·have := Int.mul_lt_mul_of_pos_left h hx; omega
theorem beat_iff {a b c d : Pt} (hc : 0 < arQ a b c) (hd : 0 < arQ a b d) : beatQ a b c d = true ↔ (d ≠ c ∧ (arQ a b c * doQ a b d < arQ a b d * doQ a b c ∨ (arQ a b c * doQ a b d = arQ a b d * doQ a b c ∧ tieQ a b c d = true))) := by
 unfold beatQ cirQ
 rw [Bool.and_eq_true_iff, decide_eq_true_iff, de_do]
 generalize arQ a b c * doQ a b d = x
 generalize arQ a b d * doQ a b c = y
 constructor
 ·rintro ⟨h1, h2⟩
  refine ⟨h1, ?_⟩
  split at h2
  ·exact Or.inr ⟨by omega, h2⟩
  ·exact Or.inl (by have := of_decide_eq_true h2; omega)
 ·rintro ⟨h1, h | ⟨h, h2⟩⟩
  ·exact ⟨h1, by rw [if_neg (by omega)]; exact decide_eq_true (by omega)⟩
  ·exact ⟨h1, by rw [if_pos (by omega)]; exact h2⟩
theorem beat_irr (a b c : Pt) : beatQ a b c c = false := by unfold beatQ; simp
theorem low_high {a b x c : Pt} (xa : a ≠ x) (xb : b ≠ x) (hx : (ltQ a x && ltQ b x) = false) (hc : (ltQ a c && ltQ b c) = true) : ltQ x c = true := by
 rw [Bool.and_eq_true_iff] at hc
 rcases lt_tri xa with ⟨h, _⟩ | ⟨h, _⟩
 ·rcases lt_tri xb with ⟨k, _⟩ | ⟨k, _⟩
  ·rw [h, k] at hx; cases hx
  ·exact lt_trans k hc.2
 ·exact lt_trans h hc.1
theorem tie_trans {a b c d e : Pt} (hc : 0 < arQ a b c) (hd : 0 < arQ a b d) (he : 0 < arQ a b e) (dc : d ≠ c) (ed : e ≠ d) (ec : e ≠ c) (h1 : tieQ a b c d = true) (h2 : tieQ a b d e = true) : tieQ a b c e = true := by
 rw [tie_left hc hd dc] at h1
 rw [tie_left hd he ed] at h2
 rw [tie_left hc he ec]
 obtain ⟨ab, ac, bc⟩ := ar_ne hc
 obtain ⟨_, ad, bd⟩ := ar_ne hd
 obtain ⟨_, ae, be⟩ := ar_ne he
 cases kc : (ltQ a c && ltQ b c) <;> cases kd : (ltQ a d && ltQ b d) <;> cases ke : (ltQ a e && ltQ b e) <;> simp only [kc, kd, ke, Bool.or_self, Bool.or_false, Bool.or_true, if_true, if_false, Bool.false_eq_true] at h1 h2 ⊢
 ·cases k : ltQ a b <;> simp only [k, if_true, if_false, Bool.false_eq_true, decide_eq_true_iff] at h1 h2 ⊢
  ·exact trans_b hc hd he h1 h2
  ·exact trans_a hc hd he h1 h2
 ·rw [lt_anti (low_high ad bd kd ke)] at h2; cases h2
 ·rw [lt_anti (low_high ac bc kc kd)] at h1; cases h1
 ·rw [lt_anti (low_high ac bc kc kd)] at h1; cases h1
 ·exact low_high ae be ke kc
 ·rw [lt_anti (low_high ad bd kd ke)] at h2; cases h2
 ·exact low_high ae be ke kc
 ·exact lt_trans h2 h1
theorem tie_anti {a b c d : Pt} (hc : 0 < arQ a b c) (hd : 0 < arQ a b d) (dc : d ≠ c) (h1 : tieQ a b c d = true) : tieQ a b d c = false := by
 rw [tie_left hc hd dc] at h1
 rw [tie_left hd hc (Ne.symm dc), Bool.or_comm]
 split at h1
 ·rename_i k; rw [if_pos k]; exact lt_anti h1
 ·rename_i k; rw [if_neg k]
  split at h1
  ·rename_i k2; rw [if_pos k2]
   have := of_decide_eq_true h1
   have e : arQ a c d = -arQ a d c := by unfold arQ areaP; grind
   exact decide_eq_false (by omega)
  ·rename_i k2; rw [if_neg k2]
   have := of_decide_eq_true h1
   have e : arQ c b d = -arQ d b c := by unfold arQ areaP; grind
   exact decide_eq_false (by omega)
theorem beat_trans {a b c d e : Pt} (hc : 0 < arQ a b c) (hd : 0 < arQ a b d) (he : 0 < arQ a b e) (h1 : beatQ a b c d = true) (h2 : beatQ a b d e = true) : beatQ a b c e = true := by
 rw [beat_iff hc hd] at h1
 rw [beat_iff hd he] at h2
 rw [beat_iff hc he]
 obtain ⟨dc, h1⟩ := h1
 obtain ⟨ed, h2⟩ := h2
 have T := ratio_trans (p := doQ a b c) (q := doQ a b d) (r := doQ a b e) hc hd he
 simp only [Int.mul_comm (doQ a b _) _] at T
 have l1 : arQ a b c * doQ a b d ≤ arQ a b d * doQ a b c := by omega
 have l2 : arQ a b d * doQ a b e ≤ arQ a b e * doQ a b d := by omega
 obtain ⟨t1, t2⟩ := T l1 l2
 have ec : e ≠ c := by
  rintro rfl
  rcases h1 with h1 | ⟨h1, k1⟩
  ·omega
  ·rcases h2 with h2 | ⟨h2, k2⟩
   ·omega
   ·rw [tie_anti hc hd dc k1] at k2; cases k2
 refine ⟨ec, ?_⟩
 rcases h1 with h1 | ⟨h1, k1⟩
 ·exact Or.inl (t2 (Or.inl h1))
 ·rcases h2 with h2 | ⟨h2, k2⟩
  ·exact Or.inl (t2 (Or.inr h2))
  ·rcases Int.lt_or_eq_of_le t1 with t | t
   ·exact Or.inl t
   ·exact Or.inr ⟨t, tie_trans hc hd he dc ed ec k1 k2⟩
theorem sq_pos {x y : Int} (h : x ≠ 0 ∨ y ≠ 0) : 0 < x * x + y * y := by
 have a : 0 ≤ x * x := by rw [← Int.natAbs_mul_self]; exact Int.natCast_nonneg _
 have b : 0 ≤ y * y := by rw [← Int.natAbs_mul_self]; exact Int.natCast_nonneg _
 rcases h with h | h
 ·have : x * x ≠ 0 := fun e => h (by rcases Int.mul_eq_zero.1 e with e | e <;> exact e)
  omega
 ·have : y * y ≠ 0 := fun e => h (by rcases Int.mul_eq_zero.1 e with e | e <;> exact e)
  omega
theorem circ_line {u1 u2 p1 p2 q1 q2 : Int} (hA : u1 * p2 - u2 * p1 ≠ 0) (hB : u1 * q2 - u2 * q1 ≠ 0) (hx : p1 * q2 - p2 * q1 = 0) (he : (u1 * p2 - u2 * p1) * (q1 * q1 + q2 * q2 - (q1 * u1 + q2 * u2)) = (u1 * q2 - u2 * q1) * (p1 * p1 + p2 * p2 - (p1 * u1 + p2 * u2))) : p1 = q1 ∧ p2 = q2 := by
 have h1 : (u1 * p2 - u2 * p1) * q1 = (u1 * q2 - u2 * q1) * p1 := by grind
 have h2 : (u1 * p2 - u2 * p1) * q2 = (u1 * q2 - u2 * q1) * p2 := by grind
 have h3 : (u1 * q2 - u2 * q1) * (p1 * q1 + p2 * q2) = (u1 * q2 - u2 * q1) * (p1 * p1 + p2 * p2) := by grind
 have h4 : p1 * q1 + p2 * q2 = p1 * p1 + p2 * p2 := Int.eq_of_mul_eq_mul_left hB h3
 have hp : 0 < p1 * p1 + p2 * p2 := sq_pos (by
  rcases Decidable.em (p1 = 0) with e | e
  ·right; rintro rfl; subst e; simp at hA
  ·exact Or.inl e)
 have h5 : (p1 * p1 + p2 * p2) * p1 = (p1 * p1 + p2 * p2) * q1 := by grind
 have h6 : (p1 * p1 + p2 * p2) * p2 = (p1 * p1 + p2 * p2) * q2 := by grind
 exact ⟨Int.eq_of_mul_eq_mul_left (by omega) h5, Int.eq_of_mul_eq_mul_left (by omega) h6⟩
theorem line_a {a b c d : Pt} (hc : 0 < arQ a b c) (hd : 0 < arQ a b d) (he : arQ a b c * doQ a b d = arQ a b d * doQ a b c) (h : arQ a d c = 0) : d = c := by
 have := circ_line (u1 := b.1 - a.1) (u2 := b.2 - a.2) (p1 := c.1 - a.1) (p2 := c.2 - a.2) (q1 := d.1 - a.1) (q2 := d.2 - a.2) (by unfold arQ areaP at hc; omega) (by unfold arQ areaP at hd; omega) (by unfold arQ areaP at h; grind) (by unfold arQ areaP doQ at he; grind)
 exact Prod.ext (by omega) (by omega)
theorem line_b {a b c d : Pt} (hc : 0 < arQ a b c) (hd : 0 < arQ a b d) (he : arQ a b c * doQ a b d = arQ a b d * doQ a b c) (h : arQ d b c = 0) : d = c := by
 have e1 : arQ a b c = (b.1 - a.1) * (c.2 - b.2) - (b.2 - a.2) * (c.1 - b.1) := by unfold arQ areaP; grind
 have e2 : arQ a b d = (b.1 - a.1) * (d.2 - b.2) - (b.2 - a.2) * (d.1 - b.1) := by unfold arQ areaP; grind
 have f1 : ∀ x : Pt, (a.1 - b.1) * (x.2 - b.2) - (a.2 - b.2) * (x.1 - b.1) = -((b.1 - a.1) * (x.2 - b.2) - (b.2 - a.2) * (x.1 - b.1)) := fun x => by grind
 have f2 : ∀ x : Pt, (x.1 - b.1) * (x.1 - b.1) + (x.2 - b.2) * (x.2 - b.2) - ((x.1 - b.1) * (a.1 - b.1) + (x.2 - b.2) * (a.2 - b.2)) = doQ a b x := fun x => by unfold doQ; grind
 rw [e1, e2] at he
 rw [e1] at hc
 rw [e2] at hd
 have := circ_line (u1 := a.1 - b.1) (u2 := a.2 - b.2) (p1 := c.1 - b.1) (p2 := c.2 - b.2) (q1 := d.1 - b.1) (q2 := d.2 - b.2) (by grind) (by grind) (by unfold arQ areaP at h; grind) (by rw [f1 c, f1 d, f2 c, f2 d, Int.neg_mul, Int.neg_mul, he])
 exact Prod.ext (by omega) (by omega)
theorem beat_total {a b c d : Pt} (hc : 0 < arQ a b c) (hd : 0 < arQ a b d) (dc : d ≠ c) : beatQ a b c d = true ∨ beatQ a b d c = true := by
 rw [beat_iff hc hd, beat_iff hd hc]
 rcases Int.lt_trichotomy (arQ a b c * doQ a b d) (arQ a b d * doQ a b c) with h | h | h
 ·exact Or.inl ⟨dc, Or.inl h⟩
 ·rw [tie_left hc hd dc, tie_left hd hc (Ne.symm dc), Bool.or_comm (ltQ a d && ltQ b d)]
  cases k : (ltQ a c && ltQ b c || ltQ a d && ltQ b d) <;> simp only [if_true, if_false, Bool.false_eq_true]
  ·cases k2 : ltQ a b <;> simp only [if_true, if_false, Bool.false_eq_true, decide_eq_true_iff]
   ·have n := fun e => dc (line_b hc hd h e)
    have e : arQ c b d = -arQ d b c := by unfold arQ areaP; grind
    rcases Int.lt_trichotomy (arQ d b c) 0 with g | g | g
    ·exact Or.inr ⟨Ne.symm dc, Or.inr ⟨h.symm, by omega⟩⟩
    ·exact absurd g n
    ·exact Or.inl ⟨dc, Or.inr ⟨h, g⟩⟩
   ·have n := fun e => dc (line_a hc hd h e)
    have e : arQ a c d = -arQ a d c := by unfold arQ areaP; grind
    rcases Int.lt_trichotomy (arQ a d c) 0 with g | g | g
    ·exact Or.inr ⟨Ne.symm dc, Or.inr ⟨h.symm, by omega⟩⟩
    ·exact absurd g n
    ·exact Or.inl ⟨dc, Or.inr ⟨h, g⟩⟩
  ·rcases lt_tri dc with ⟨g, _⟩ | ⟨g, _⟩
   ·exact Or.inl ⟨dc, Or.inr ⟨h, g⟩⟩
   ·exact Or.inr ⟨Ne.symm dc, Or.inr ⟨h.symm, g⟩⟩
 ·exact Or.inr ⟨Ne.symm dc, Or.inl h⟩
end Go.Proofs.Ytkmgndaholglhaa
