/-
  Joined texts, part 2:
  Blocks of three and of four cells: what they hold, and that they can be written.
  Blocks of two to four cells, made one behind the other, and what they hold behind a store into another. It imports nothing of the program.
  What package whole's Small answers.
  What package lift's Can, Sum, Less, Cmp answer, and what they call.
  Plain arithmetic of numbers of two words: what word a sum, a difference and a product have. It imports nothing of the program.
  What package wide's smallest functions answer: a sum, a difference, a number with the other sign, as words.
  wide.Mul, Cmp, Sign, and the product whose text every law of this layer looks at.
  What package pred's can, area2, dist2, turn, Area2, Orient and Dist2 answer.
  What package pred's turn, Area2, Orient and Dist2 answer.
  A region whose order is open, with calls and blocks that are made at any time: what holds while some are done, kept by an invariant (no order is written out). It imports nothing of the program.
  What zelligeref03's Cmp, Add and Sub answer.
-/
import Derived.Test.YtkmgndaholglhaaP1
import Derived.WalkKit
import Derived.Laws.Bits64b
import Derived.Test.YtkmgndaholglhaaRows
import Derived.WalkSpells
import Derived.StillTactics
import Derived.Laws.Pointers
import Derived.Laws.Externs
import Derived.Shelf.Spec.BitsCarry
import Derived.RowKit3
import Derived.Laws.BytesArg
import Derived.WalkSmall
import Derived.Deep.QuietTactic
import Derived.BigQuiet
namespace Go.Proofs.Ytkmgndaholglhaa
open Go.RowKit
set_option linter.unusedVariables false

theorem cell_lt {w : World} {p : Addr} {v : Value} (h : w.cell? p = some v) : p.block < w.heap.size := by
 refine Nat.lt_of_not_le fun hle => ?_
 unfold World.cell? at h
 rw [Array.getElem?_eq_none hle] at h
 simp at h
structure B3 (w : World) (b : Nat) (x0 x1 x2 : Value) : Prop where
 c0 : w.cell? ⟨b, 0, none⟩ = some x0
 c1 : w.cell? ⟨b, 1, none⟩ = some x1
 c2 : w.cell? ⟨b, 2, none⟩ = some x2
 f0 : w.frozen? ⟨b, 0, none⟩ = false
 f1 : w.frozen? ⟨b, 1, none⟩ = false
 f2 : w.frozen? ⟨b, 2, none⟩ = false
theorem B3.set {w : World} {b : Nat} {x0 x1 x2 u0 u1 u2 : Value} (h : B3 w b x0 x1 x2) : B3 (((w.setCell ⟨b, 0, none⟩ u0).setCell ⟨b, 1, none⟩ u1).setCell ⟨b, 2, none⟩ u2) b u0 u1 u2 := by
 refine ⟨?_, ?_, ?_, by simp only [World.frozen?_setCell]; exact h.f0, by simp only [World.frozen?_setCell]; exact h.f1, by simp only [World.frozen?_setCell]; exact h.f2⟩
 ·rw [World.cell?_setCell_other _ _ _ _ (by intro q; simp only [Addr.mk.injEq] at q; omega)]; rw [World.cell?_setCell_other _ _ _ _ (by intro q; simp only [Addr.mk.injEq] at q; omega)]; have hh : _ = some x0 := h.c0
  have h1 : w.cell? ⟨b, 0, none⟩ = some x0 := by
   exact hh
  exact World.cell?_setCell_same _ _ _ h1
 ·rw [World.cell?_setCell_other _ _ _ _ (by intro q; simp only [Addr.mk.injEq] at q; omega)]; have hh : _ = some x1 := h.c1
  have h1 : (w.setCell ⟨b, 0, none⟩ u0).cell? ⟨b, 1, none⟩ = some x1 := by
   rw [World.cell?_setCell_other _ _ _ _ (by intro q; simp only [Addr.mk.injEq] at q; omega)]; exact hh
  exact World.cell?_setCell_same _ _ _ h1
 ·have hh : _ = some x2 := h.c2
  have h1 : ((w.setCell ⟨b, 0, none⟩ u0).setCell ⟨b, 1, none⟩ u1).cell? ⟨b, 2, none⟩ = some x2 := by
   rw [World.cell?_setCell_other _ _ _ _ (by intro q; simp only [Addr.mk.injEq] at q; omega)]; rw [World.cell?_setCell_other _ _ _ _ (by intro q; simp only [Addr.mk.injEq] at q; omega)]; exact hh
  exact World.cell?_setCell_same _ _ _ h1
structure B4 (w : World) (b : Nat) (x0 x1 x2 x3 : Value) : Prop where
 c0 : w.cell? ⟨b, 0, none⟩ = some x0
 c1 : w.cell? ⟨b, 1, none⟩ = some x1
 c2 : w.cell? ⟨b, 2, none⟩ = some x2
 c3 : w.cell? ⟨b, 3, none⟩ = some x3
 f0 : w.frozen? ⟨b, 0, none⟩ = false
 f1 : w.frozen? ⟨b, 1, none⟩ = false
 f2 : w.frozen? ⟨b, 2, none⟩ = false
 f3 : w.frozen? ⟨b, 3, none⟩ = false
theorem B4.on {w w' : World} {b : Nat} {x0 x1 x2 x3 : Value} (h : B4 w b x0 x1 x2 x3) (hb : Below w.heap.size w w') : B4 w' b x0 x1 x2 x3 := ⟨cell_on hb h.c0, cell_on hb h.c1, cell_on hb h.c2, cell_on hb h.c3, free_on hb h.c0 h.f0, free_on hb h.c1 h.f1, free_on hb h.c2 h.f2, free_on hb h.c3 h.f3⟩
theorem B4.set {w : World} {b : Nat} {x0 x1 x2 x3 u0 u1 u2 u3 : Value} (h : B4 w b x0 x1 x2 x3) : B4 ((((w.setCell ⟨b, 0, none⟩ u0).setCell ⟨b, 1, none⟩ u1).setCell ⟨b, 2, none⟩ u2).setCell ⟨b, 3, none⟩ u3) b u0 u1 u2 u3 := by
 refine ⟨?_, ?_, ?_, ?_, by simp only [World.frozen?_setCell]; exact h.f0, by simp only [World.frozen?_setCell]; exact h.f1, by simp only [World.frozen?_setCell]; exact h.f2, by simp only [World.frozen?_setCell]; exact h.f3⟩
 ·rw [World.cell?_setCell_other _ _ _ _ (by intro q; simp only [Addr.mk.injEq] at q; omega)]; rw [World.cell?_setCell_other _ _ _ _ (by intro q; simp only [Addr.mk.injEq] at q; omega)]; rw [World.cell?_setCell_other _ _ _ _ (by intro q; simp only [Addr.mk.injEq] at q; omega)]; have hh : _ = some x0 := h.c0
  have h1 : w.cell? ⟨b, 0, none⟩ = some x0 := by
   exact hh
  exact World.cell?_setCell_same _ _ _ h1
 ·rw [World.cell?_setCell_other _ _ _ _ (by intro q; simp only [Addr.mk.injEq] at q; omega)]; rw [World.cell?_setCell_other _ _ _ _ (by intro q; simp only [Addr.mk.injEq] at q; omega)]; have hh : _ = some x1 := h.c1
  have h1 : (w.setCell ⟨b, 0, none⟩ u0).cell? ⟨b, 1, none⟩ = some x1 := by
   rw [World.cell?_setCell_other _ _ _ _ (by intro q; simp only [Addr.mk.injEq] at q; omega)]; exact hh
  exact World.cell?_setCell_same _ _ _ h1
 ·rw [World.cell?_setCell_other _ _ _ _ (by intro q; simp only [Addr.mk.injEq] at q; omega)]; have hh : _ = some x2 := h.c2
  have h1 : ((w.setCell ⟨b, 0, none⟩ u0).setCell ⟨b, 1, none⟩ u1).cell? ⟨b, 2, none⟩ = some x2 := by
   rw [World.cell?_setCell_other _ _ _ _ (by intro q; simp only [Addr.mk.injEq] at q; omega)]; rw [World.cell?_setCell_other _ _ _ _ (by intro q; simp only [Addr.mk.injEq] at q; omega)]; exact hh
  exact World.cell?_setCell_same _ _ _ h1
 ·have hh : _ = some x3 := h.c3
  have h1 : (((w.setCell ⟨b, 0, none⟩ u0).setCell ⟨b, 1, none⟩ u1).setCell ⟨b, 2, none⟩ u2).cell? ⟨b, 3, none⟩ = some x3 := by
   rw [World.cell?_setCell_other _ _ _ _ (by intro q; simp only [Addr.mk.injEq] at q; omega)]; rw [World.cell?_setCell_other _ _ _ _ (by intro q; simp only [Addr.mk.injEq] at q; omega)]; rw [World.cell?_setCell_other _ _ _ _ (by intro q; simp only [Addr.mk.injEq] at q; omega)]; exact hh
  exact World.cell?_setCell_same _ _ _ h1
end Go.Proofs.Ytkmgndaholglhaa

namespace Go.Proofs.Ytkmgndaholglhaa
open Go.RowKit
set_option linter.unusedVariables false
theorem below_put4 {B b : Nat} {w w' : World} (h : Below B w w') (hb : B ≤ b) (u v t s : Value) : Below B w ((((w'.setCell ⟨b, 0, none⟩ u).setCell ⟨b, 1, none⟩ v).setCell ⟨b, 2, none⟩ t).setCell ⟨b, 3, none⟩ s) := (((h.setCell hb _).setCell hb _).setCell hb _).setCell hb _
theorem b4_row {w : World} {k : Nat} {x y z t : Value} (h : Row w k [x, y, z, t]) : B4 w k x y z t := ⟨(h 0 x rfl).1, (h 1 y rfl).1, (h 2 z rfl).1, (h 3 t rfl).1, (h 0 x rfl).2, (h 1 y rfl).2, (h 2 z rfl).2, (h 3 t rfl).2⟩
theorem cell_put1 {w : World} {n k i j : Nat} {v : Value} (h : w.cell? ⟨n, i, none⟩ = some v) (hk : n ≠ k) (u : Value) : (w.setCell ⟨k, j, none⟩ u).cell? ⟨n, i, none⟩ = some v := by
 rw [World.cell?_setCell_other _ _ _ _ (by intro q; simp only [Addr.mk.injEq] at q; omega)]; exact h
theorem cell_put2 {w : World} {n k i : Nat} {x : Value} (h : w.cell? ⟨n, i, none⟩ = some x) (hk : n ≠ k) (u v : Value) : ((w.setCell ⟨k, 0, none⟩ u).setCell ⟨k, 1, none⟩ v).cell? ⟨n, i, none⟩ = some x := cell_put1 (cell_put1 h hk u) hk v
theorem cell_put3 {w : World} {n k i : Nat} {x : Value} (h : w.cell? ⟨n, i, none⟩ = some x) (hk : n ≠ k) (u v t : Value) : (((w.setCell ⟨k, 0, none⟩ u).setCell ⟨k, 1, none⟩ v).setCell ⟨k, 2, none⟩ t).cell? ⟨n, i, none⟩ = some x := cell_put1 (cell_put2 h hk u v) hk t
theorem cell_put4 {w : World} {n k i : Nat} {x : Value} (h : w.cell? ⟨n, i, none⟩ = some x) (hk : n ≠ k) (u v t s : Value) : ((((w.setCell ⟨k, 0, none⟩ u).setCell ⟨k, 1, none⟩ v).setCell ⟨k, 2, none⟩ t).setCell ⟨k, 3, none⟩ s).cell? ⟨n, i, none⟩ = some x := cell_put1 (cell_put3 h hk u v t) hk s
theorem bs_22 (w : World) (x00 x01 x10 x11 : Value) (t0 t1 : TypeId) : ∃ W, W = ((w.alloc (.cells #[x00, x01] t0)).alloc (.cells #[x10, x11] t1)) ∧ Below w.heap.size w W ∧ Bx W (w.heap.size) x00 x01 ∧ Bx W (w.heap.size + 1) x10 x11 ∧ w.heap.size + 1 < W.heap.size := by
 have e0 : Below w.heap.size w (w.alloc (.cells #[x00, x01] t0)) := (Below.refl _ _).alloc (Nat.le_refl _) _
 have h0 := bx_new w x00 x01 t0
 have e1 : Below (w.alloc (.cells #[x00, x01] t0)).heap.size (w.alloc (.cells #[x00, x01] t0)) ((w.alloc (.cells #[x00, x01] t0)).alloc (.cells #[x10, x11] t1)) := (Below.refl _ _).alloc (Nat.le_refl _) _
 have h1 := bx_new (w.alloc (.cells #[x00, x01] t0)) x10 x11 t1
 rw [World.size_alloc] at h1
 exact ⟨_, rfl, also (e0) e1, (h0.on e1), h1, by simp⟩
theorem bs_2 (w : World) (x00 x01 : Value) (t0 : TypeId) : ∃ W, W = (w.alloc (.cells #[x00, x01] t0)) ∧ Below w.heap.size w W ∧ Bx W (w.heap.size) x00 x01 ∧ w.heap.size < W.heap.size := by
 have e0 : Below w.heap.size w (w.alloc (.cells #[x00, x01] t0)) := (Below.refl _ _).alloc (Nat.le_refl _) _
 have h0 := bx_new w x00 x01 t0
 exact ⟨_, rfl, e0, h0, by simp⟩
theorem bs_222 (w : World) (x00 x01 x10 x11 x20 x21 : Value) (t0 t1 t2 : TypeId) : ∃ W, W = (((w.alloc (.cells #[x00, x01] t0)).alloc (.cells #[x10, x11] t1)).alloc (.cells #[x20, x21] t2)) ∧ Below w.heap.size w W ∧ Bx W (w.heap.size) x00 x01 ∧ Bx W (w.heap.size + 1) x10 x11 ∧ Bx W (w.heap.size + 1 + 1) x20 x21 ∧ w.heap.size + 1 + 1 < W.heap.size := by
 have e0 : Below w.heap.size w (w.alloc (.cells #[x00, x01] t0)) := (Below.refl _ _).alloc (Nat.le_refl _) _
 have h0 := bx_new w x00 x01 t0
 have e1 : Below (w.alloc (.cells #[x00, x01] t0)).heap.size (w.alloc (.cells #[x00, x01] t0)) ((w.alloc (.cells #[x00, x01] t0)).alloc (.cells #[x10, x11] t1)) := (Below.refl _ _).alloc (Nat.le_refl _) _
 have h1 := bx_new (w.alloc (.cells #[x00, x01] t0)) x10 x11 t1
 rw [World.size_alloc] at h1
 have e2 : Below ((w.alloc (.cells #[x00, x01] t0)).alloc (.cells #[x10, x11] t1)).heap.size ((w.alloc (.cells #[x00, x01] t0)).alloc (.cells #[x10, x11] t1)) (((w.alloc (.cells #[x00, x01] t0)).alloc (.cells #[x10, x11] t1)).alloc (.cells #[x20, x21] t2)) := (Below.refl _ _).alloc (Nat.le_refl _) _
 have h2 := bx_new ((w.alloc (.cells #[x00, x01] t0)).alloc (.cells #[x10, x11] t1)) x20 x21 t2
 rw [World.size_alloc, World.size_alloc] at h2
 exact ⟨_, rfl, also (also (e0) e1) e2, ((h0.on e1).on e2), (h1.on e2), h2, by simp⟩
theorem bs_2222 (w : World) (x00 x01 x10 x11 x20 x21 x30 x31 : Value) (t0 t1 t2 t3 : TypeId) : ∃ W, W = ((((w.alloc (.cells #[x00, x01] t0)).alloc (.cells #[x10, x11] t1)).alloc (.cells #[x20, x21] t2)).alloc (.cells #[x30, x31] t3)) ∧ Below w.heap.size w W ∧ Bx W (w.heap.size) x00 x01 ∧ Bx W (w.heap.size + 1) x10 x11 ∧ Bx W (w.heap.size + 1 + 1) x20 x21 ∧ Bx W (w.heap.size + 1 + 1 + 1) x30 x31 ∧ w.heap.size + 1 + 1 + 1 < W.heap.size := by
 have e0 : Below w.heap.size w (w.alloc (.cells #[x00, x01] t0)) := (Below.refl _ _).alloc (Nat.le_refl _) _
 have h0 := bx_new w x00 x01 t0
 have e1 : Below (w.alloc (.cells #[x00, x01] t0)).heap.size (w.alloc (.cells #[x00, x01] t0)) ((w.alloc (.cells #[x00, x01] t0)).alloc (.cells #[x10, x11] t1)) := (Below.refl _ _).alloc (Nat.le_refl _) _
 have h1 := bx_new (w.alloc (.cells #[x00, x01] t0)) x10 x11 t1
 rw [World.size_alloc] at h1
 have e2 : Below ((w.alloc (.cells #[x00, x01] t0)).alloc (.cells #[x10, x11] t1)).heap.size ((w.alloc (.cells #[x00, x01] t0)).alloc (.cells #[x10, x11] t1)) (((w.alloc (.cells #[x00, x01] t0)).alloc (.cells #[x10, x11] t1)).alloc (.cells #[x20, x21] t2)) := (Below.refl _ _).alloc (Nat.le_refl _) _
 have h2 := bx_new ((w.alloc (.cells #[x00, x01] t0)).alloc (.cells #[x10, x11] t1)) x20 x21 t2
 rw [World.size_alloc, World.size_alloc] at h2
 have e3 : Below (((w.alloc (.cells #[x00, x01] t0)).alloc (.cells #[x10, x11] t1)).alloc (.cells #[x20, x21] t2)).heap.size (((w.alloc (.cells #[x00, x01] t0)).alloc (.cells #[x10, x11] t1)).alloc (.cells #[x20, x21] t2)) ((((w.alloc (.cells #[x00, x01] t0)).alloc (.cells #[x10, x11] t1)).alloc (.cells #[x20, x21] t2)).alloc (.cells #[x30, x31] t3)) := (Below.refl _ _).alloc (Nat.le_refl _) _
 have h3 := bx_new (((w.alloc (.cells #[x00, x01] t0)).alloc (.cells #[x10, x11] t1)).alloc (.cells #[x20, x21] t2)) x30 x31 t3
 rw [World.size_alloc, World.size_alloc, World.size_alloc] at h3
 exact ⟨_, rfl, also (also (also (e0) e1) e2) e3, (((h0.on e1).on e2).on e3), ((h1.on e2).on e3), (h2.on e3), h3, by simp⟩
end Go.Proofs.Ytkmgndaholglhaa

namespace Go.Proofs.Ytkmgndaholglhaa
open Go.RowKit
set_option linter.unusedVariables false

theorem cmpLong_any (x y : Int) (w : World) :
  Calls Try.prog 58 #[.int .i64 x, .int .i64 y] w fun e w' => e = .returned (.int .i64 (cmpI x y)) ∧ w = w' := by
 unfold cmpI
 go_enter Try.func58, Try.ntmps58
 go_wp2
 all_goals (go_ret; exact ⟨rfl, rfl⟩)
end Go.Proofs.Ytkmgndaholglhaa

namespace Go.Proofs.Ytkmgndaholglhaa
open Go.RowKit
set_option linter.unusedVariables false

theorem lCoord (c : Int) (w : World) {b : Bool} (hb : b = inC c) : Calls Try.prog 44 #[.int .i64 c] w fun e w' => e = .returned (.bool b) ∧ Below w.heap.size w w' := by
 subst hb
 unfold inC
 go_enter Try.func44, Try.ntmps44
 go_wp2
 all_goals (go_ret; exact ⟨by simp; omega, Below.refl _ _⟩)
theorem lCmp (x y z t : Int) (w : World) {g : Int} (hg : g = cmpP x y z t) : Calls Try.prog 49 #[.agg #[.int .i64 x, .int .i64 y], .agg #[.int .i64 z, .int .i64 t]] w fun e w' => e = .returned (.int .i64 g) ∧ Below w.heap.size w w' := by
 subst hg
 unfold cmpP
 by_cases g : x = z
 ·have g' : (x == z) = true := by simpa using g
  rw [if_pos g]
  clear g
  go_enter Try.func49, Try.ntmps49
  go_wp2_with (go_at_call 58; refine (cmpLong_any y t _).mono ?_; rintro e w' ⟨rfl, hw⟩; subst hw)
  go_ret
  exact ⟨rfl, ((Below.refl _ _).alloc (Nat.le_refl _) _).alloc (by simp) _⟩
 ·have g' : (x == z) = false := by simpa using g
  rw [if_neg g]
  clear g
  go_enter Try.func49, Try.ntmps49
  go_wp2_with (go_at_call 58; refine (cmpLong_any x z _).mono ?_; rintro e w' ⟨rfl, hw⟩; subst hw)
  go_ret
  exact ⟨rfl, ((Below.refl _ _).alloc (Nat.le_refl _) _).alloc (by simp) _⟩
set_option maxRecDepth 100000 in
theorem lCan (x y : Int) (w : World) {b : Bool} (hb : b = canC x y) : Calls Try.prog 26 #[.agg #[.int .i64 x, .int .i64 y]] w fun e w' => e = .returned (.bool b) ∧ Below w.heap.size w w' := by
 subst hb
 unfold canC
 cases hx : inC x
 ·skip
  obtain ⟨W, hW, bW, x_p, sW⟩ := bs_2 w (.int .i64 x) (.int .i64 y) 31
  have zbW := bW.size
  have BB := bW
  go_enter Try.func26, Try.ntmps26
  go_wp2_with (go_at_call 44; fail)
  rw [← hW]
  clear hW
  refine (lCoord x W hx.symm).mono ?_
  rintro e w1 ⟨rfl, bw1⟩
  have zbw1 := bw1.size
  replace BB := also BB bw1
  replace x_p := x_p.on bw1
  have ⟨x_p_0, x_p_1, x_p_2, x_p_3⟩ := x_p
  go_wp2
  go_ret
  exact ⟨by simp, BB⟩
 ·skip
  obtain ⟨W, hW, bW, x_p, sW⟩ := bs_2 w (.int .i64 x) (.int .i64 y) 31
  have zbW := bW.size
  have BB := bW
  go_enter Try.func26, Try.ntmps26
  go_wp2_with (go_at_call 44; fail)
  rw [← hW]
  clear hW
  refine (lCoord x W hx.symm).mono ?_
  rintro e w1 ⟨rfl, bw1⟩
  have zbw1 := bw1.size
  replace BB := also BB bw1
  replace x_p := x_p.on bw1
  have ⟨x_p_0, x_p_1, x_p_2, x_p_3⟩ := x_p
  go_wp2_with (go_at_call 44; fail)
  refine (lCoord y w1 rfl).mono ?_
  rintro e w2 ⟨rfl, bw2⟩
  clear x_p_0 x_p_1 x_p_2 x_p_3
  have zbw2 := bw2.size
  replace BB := also BB bw2
  replace x_p := x_p.on bw2
  go_wp2
  go_ret
  exact ⟨by simp, BB⟩
end Go.Proofs.Ytkmgndaholglhaa

namespace Go.Proofs.Ytkmgndaholglhaa.lw
open Go.RowKit

def hi (v : Int) : Int := (v / 18446744073709551616 + 9223372036854775808) % 18446744073709551616 - 9223372036854775808
def lo (v : Int) : Int := v % 18446744073709551616

theorem lo_range (v : Int) : 0 ≤ lo v ∧ lo v < 18446744073709551616 := by unfold lo; omega
def bor (x y : Int) : Int := if x < y then 1 else 0
theorem bor_range (x y : Int) : 0 ≤ bor x y ∧ bor x y ≤ 1 := by unfold bor; split <;> decide

theorem hi_0 : (0 : Int) = hi 0 := by decide
theorem lo_0 : (0 : Int) = lo 0 := by decide
theorem add_lo (a b : Int) : (lo a + lo b) % 18446744073709551616 = lo (a + b) := by unfold lo; omega
theorem add_hi (a b : Int) : wrap64 ((IntKind.u64.wrap (hi a) + IntKind.u64.wrap (hi b) + (lo a + lo b) / 18446744073709551616) % 18446744073709551616) = hi (a + b) := by
 rw [IntKind.wrap_u64, IntKind.wrap_u64]; unfold hi lo wrap64; omega
theorem sub_lo (a b : Int) : (lo a - lo b) % 18446744073709551616 = lo (a - b) := by unfold lo; omega
theorem sub_hi (a b : Int) : wrap64 ((IntKind.u64.wrap (hi a) - IntKind.u64.wrap (hi b) - bor (lo a) (lo b)) % 18446744073709551616) = hi (a - b) := by
 rw [IntKind.wrap_u64, IntKind.wrap_u64]; unfold bor wrap64; split <;> (simp only [hi, lo] at *; omega)
theorem mask32 (x : Int) (h0 : 0 ≤ x) (h1 : x < 18446744073709551616) : bits .and .u64 x 4294967295 = x % 4294967296 := by
 obtain ⟨n, rfl⟩ := Int.eq_ofNat_of_zero_le h0
 have h := bits_and_u64_nat n 4294967295 (by omega) (by omega)
 have e : n &&& 4294967295 = n % 4294967296 := Nat.and_two_pow_sub_one_eq_mod n 32
 rw [e] at h
 exact h.trans (by omega)
theorem half_mul (a b : Int) (a0 : 0 ≤ a) (a1 : a < 4294967296) (b0 : 0 ≤ b) (b1 : b < 4294967296) : 0 ≤ a * b ∧ a * b ≤ 18446744065119617025 := by
 refine ⟨Int.mul_nonneg a0 b0, ?_⟩
 have := Int.mul_le_mul (show a ≤ 4294967295 by omega) (show b ≤ 4294967295 by omega) b0 (by decide)
 omega
theorem school (a b c d : Int) : (a * 4294967296 + b) * (c * 4294967296 + d) = a * c * 18446744073709551616 + a * d * 4294967296 + b * c * 4294967296 + b * d := by
 have h1 : a * 4294967296 * (c * 4294967296) = a * c * (4294967296 * 4294967296) := by rw [Int.mul_assoc a, Int.mul_left_comm 4294967296 c, ← Int.mul_assoc]
 have h2 : a * 4294967296 * d = a * d * 4294967296 := by rw [Int.mul_assoc a, Int.mul_comm 4294967296 d, ← Int.mul_assoc]
 have h3 : b * (c * 4294967296) = b * c * 4294967296 := (Int.mul_assoc b c _).symm
 rw [Int.add_mul, Int.mul_add, Int.mul_add, h1, h2, h3]
 omega
theorem mul64_hi (x y : Int) (x0 : 0 ≤ x) (x1 : x < 18446744073709551616) (y0 : 0 ≤ y) (y1 : y < 18446744073709551616) :
  IntKind.u64.wrap (IntKind.u64.wrap (IntKind.u64.wrap (x / 4294967296 * (y / 4294967296)) + IntKind.u64.wrap (IntKind.u64.wrap (x / 4294967296 * bits .and .u64 y 4294967295) + IntKind.u64.wrap (bits .and .u64 x 4294967295 * bits .and .u64 y 4294967295) / 4294967296) / 4294967296) +
   IntKind.u64.wrap (bits .and .u64 (IntKind.u64.wrap (IntKind.u64.wrap (x / 4294967296 * bits .and .u64 y 4294967295) + IntKind.u64.wrap (bits .and .u64 x 4294967295 * bits .and .u64 y 4294967295) / 4294967296)) 4294967295 + IntKind.u64.wrap (bits .and .u64 x 4294967295 * (y / 4294967296))) / 4294967296) = x * y / 18446744073709551616 := by
 rw [mask32 x x0 x1, mask32 y y0 y1, mask32 (IntKind.u64.wrap _) (wrap_u64_nonneg _) (by rw [IntKind.wrap_u64]; omega)]
 have e := school (x / 4294967296) (x % 4294967296) (y / 4294967296) (y % 4294967296)
 have ex : x / 4294967296 * 4294967296 + x % 4294967296 = x := by omega
 have ey : y / 4294967296 * 4294967296 + y % 4294967296 = y := by omega
 rw [ex, ey] at e
 rw [e]
 have b1 := half_mul (x / 4294967296) (y / 4294967296) (by omega) (by omega) (by omega) (by omega)
 have b2 := half_mul (x / 4294967296) (y % 4294967296) (by omega) (by omega) (by omega) (by omega)
 have b3 := half_mul (x % 4294967296) (y / 4294967296) (by omega) (by omega) (by omega) (by omega)
 have b4 := half_mul (x % 4294967296) (y % 4294967296) (by omega) (by omega) (by omega) (by omega)
 clear e ex ey
 generalize x / 4294967296 * (y / 4294967296) = p1 at *
 generalize x / 4294967296 * (y % 4294967296) = p2 at *
 generalize x % 4294967296 * (y / 4294967296) = p3 at *
 generalize x % 4294967296 * (y % 4294967296) = p4 at *
 simp only [IntKind.wrap_u64]
 omega

theorem mul_lo (a b : Int) : IntKind.u64.wrap a * IntKind.u64.wrap b % 18446744073709551616 = lo (a * b) := by
 rw [IntKind.wrap_u64, IntKind.wrap_u64]; unfold lo; exact (Int.mul_emod a b _).symm
theorem ret_tup2 {k l : IntKind} {a b c d : Int} (h : a = c) (h' : b = d) : Ending.returned (.tuple #[.int k a, .int l b]) = .returned (.tuple #[.int k c, .int l d]) := by rw [h, h']
theorem ret_int {k : IntKind} {a b : Int} (h : a = b) : Ending.returned (.int k a) = .returned (.int k b) := by rw [h]

def cmpI (x y : Int) : Int := if x < y then -1 else if y < x then 1 else 0
end Go.Proofs.Ytkmgndaholglhaa.lw

namespace Go.Proofs.Ytkmgndaholglhaa.lw
open Go.RowKit

theorem add64 (x y c : Int) (hx : 0 ≤ x) (hy : 0 ≤ y) (hc0 : 0 ≤ c) (hc : c ≤ 1) (w : World) : (callFunc 66 #[.int .u64 x, .int .u64 y, .int .u64 c]).run Try.prog w =
  .ok (.value (.tuple #[.int .u64 ((x + y + c) % 18446744073709551616), .int .u64 ((x + y + c) / 18446744073709551616)])) w := by
 rw [run_callFunc_extern Try.func66 (by kernel_rfl) (by kernel_rfl) (by kernel_rfl) (e := add64Entry) (by kernel_rfl), run_add64 x y c hx hy hc0 hc]
 rfl
theorem add64_0 (x y : Int) (hx : 0 ≤ x) (hy : 0 ≤ y) (w : World) : (callFunc 66 #[.int .u64 x, .int .u64 y, .int .u64 0]).run Try.prog w =
  .ok (.value (.tuple #[.int .u64 ((x + y) % 18446744073709551616), .int .u64 ((x + y) / 18446744073709551616)])) w := by
 simpa using add64 x y 0 hx hy (Int.le_refl 0) (by decide) w
theorem sub64 (x y b : Int) (hx : 0 ≤ x) (hy : 0 ≤ y) (hy' : y < 18446744073709551616) (hb0 : 0 ≤ b) (hb : b ≤ 1) (w : World) : (callFunc 71 #[.int .u64 x, .int .u64 y, .int .u64 b]).run Try.prog w =
  .ok (.value (.tuple #[.int .u64 ((x - y - b) % 18446744073709551616), .int .u64 (bor x (y + b))])) w := by
 obtain ⟨x, rfl⟩ := Int.eq_ofNat_of_zero_le hx
 obtain ⟨y, rfl⟩ := Int.eq_ofNat_of_zero_le hy
 obtain ⟨b, rfl⟩ := Int.eq_ofNat_of_zero_le hb0
 have e1 : (((x + 18446744073709551616 - y - b) % 18446744073709551616 : Nat) : Int) = ((x : Int) - y - b) % 18446744073709551616 := by omega
 have e2 : ((if x < y + b then 1 else 0 : Nat) : Int) = bor x (y + b) := by unfold bor; split <;> split <;> omega
 rw [← e1, ← e2, run_callFunc_extern Try.func71 (by kernel_rfl) (by kernel_rfl) (by kernel_rfl) (e := sub64Entry) (by kernel_rfl), run_sub64 x y b (by omega)]
 rfl
theorem sub64_0 (x y : Int) (hx : 0 ≤ x) (hy : 0 ≤ y) (hy' : y < 18446744073709551616) (w : World) : (callFunc 71 #[.int .u64 x, .int .u64 y, .int .u64 0]).run Try.prog w =
  .ok (.value (.tuple #[.int .u64 ((x - y) % 18446744073709551616), .int .u64 (bor x y)])) w := by
 simpa using sub64 x y 0 hx hy hy' (Int.le_refl 0) (by decide) w

theorem add_any {ah al bh bl : Int} (a b : Int) (ha : ah = hi a) (hl : al = lo a) (hb : bh = hi b) (hm : bl = lo b) (w : World) :
  Calls Try.prog 65 #[.agg #[.int .i64 ah, .int .u64 al], .agg #[.int .i64 bh, .int .u64 bl]] w fun e w' =>
   e = .returned (.agg #[.int .i64 (hi (a + b)), .int .u64 (lo (a + b))]) ∧ Below w.heap.size w w' := by
 subst ha hl hb hm
 obtain ⟨a1, a2⟩ := lo_range a; obtain ⟨b1, b2⟩ := lo_range b
 have k0 : 0 ≤ (lo a + lo b) / 18446744073709551616 := by omega
 have k1 : (lo a + lo b) / 18446744073709551616 ≤ 1 := by omega
 have k2 := wrap_u64_nonneg (hi a)
 have k3 := wrap_u64_nonneg (hi b)
 go_enter Try.func65, Try.ntmps65
 go_wp2_with (first | simp only [add64_0 (lo a) (lo b) a1 b1] | simp only [add64 _ _ _ k2 k3 k0 k1])
 refine bodyPost_ret (v := .agg #[.int .i64 (hi (a + b)), .int .u64 (lo (a + b))]) (by simp [results, Try.results65, go_sem, add_lo, add_hi]) rfl ⟨rfl, ?_⟩
 exact (((Below.refl _ _).alloc (Nat.le_refl _) _).alloc (by simp) _).alloc (by simp; omega) _

theorem sub_any {ah al bh bl : Int} (a b : Int) (ha : ah = hi a) (hl : al = lo a) (hb : bh = hi b) (hm : bl = lo b) (w : World) :
  Calls Try.prog 60 #[.agg #[.int .i64 ah, .int .u64 al], .agg #[.int .i64 bh, .int .u64 bl]] w fun e w' =>
   e = .returned (.agg #[.int .i64 (hi (a - b)), .int .u64 (lo (a - b))]) ∧ Below w.heap.size w w' := by
 subst ha hl hb hm
 obtain ⟨a1, a2⟩ := lo_range a; obtain ⟨b1, b2⟩ := lo_range b
 obtain ⟨k0, k1⟩ := bor_range (lo a) (lo b)
 have k2 := wrap_u64_nonneg (hi a)
 have k3 := wrap_u64_nonneg (hi b)
 have k4 : IntKind.u64.wrap (hi b) < 18446744073709551616 := by rw [IntKind.wrap_u64]; omega
 go_enter Try.func60, Try.ntmps60
 go_wp2_with (first | simp only [sub64_0 (lo a) (lo b) a1 b1 b2] | simp only [sub64 _ _ _ k2 k3 k4 k0 k1])
 refine bodyPost_ret (v := .agg #[.int .i64 (hi (a - b)), .int .u64 (lo (a - b))]) (by simp [results, Try.results60, go_sem, sub_lo, sub_hi]) rfl ⟨rfl, ?_⟩
 exact (((Below.refl _ _).alloc (Nat.le_refl _) _).alloc (by simp) _).alloc (by simp; omega) _

theorem mul64_any (x y : Int) (x0 : 0 ≤ x) (x1 : x < 18446744073709551616) (y0 : 0 ≤ y) (y1 : y < 18446744073709551616) (w : World) :
  Calls Try.prog 72 #[.int .u64 x, .int .u64 y] w fun e w' => e = .returned (.tuple #[.int .u64 (x * y / 18446744073709551616), .int .u64 (x * y % 18446744073709551616)]) ∧ w' = w := by
 go_enter Try.func72, Try.ntmps72
 go_wp2
 go_ret2
 exact ⟨ret_tup2 (mul64_hi x y x0 x1 y0 y1) (IntKind.wrap_u64 _), rfl⟩

theorem cmpI64_any (x y : Int) (w : World) :
  Calls Try.prog 58 #[.int .i64 x, .int .i64 y] w fun e w' => e = .returned (.int .i64 (cmpI x y)) ∧ w' = w := by
 unfold cmpI
 go_enter Try.func58, Try.ntmps58
 go_wp2
 all_goals (go_ret; exact ⟨rfl, rfl⟩)
theorem cmpU64_any (x y : Int) (w : World) :
  Calls Try.prog 59 #[.int .u64 x, .int .u64 y] w fun e w' => e = .returned (.int .i64 (cmpI x y)) ∧ w' = w := by
 unfold cmpI
 go_enter Try.func59, Try.ntmps59
 go_wp2
 all_goals (go_ret; exact ⟨rfl, rfl⟩)
end Go.Proofs.Ytkmgndaholglhaa.lw

namespace Go.Proofs.Ytkmgndaholglhaa.lw
open Go.RowKit
set_option linter.unusedVariables false
set_option maxRecDepth 100000

theorem u_neg (a : Int) (h0 : a < 0) (h1 : -9223372036854775808 ≤ a) : IntKind.u64.wrap a = a + 18446744073709551616 := by rw [IntKind.wrap_u64]; omega
theorem mul_pp (a b : Int) : wrap64 (a * b / 18446744073709551616) = hi (a * b) := by unfold wrap64 hi; omega
theorem mul_np (a b : Int) (a0 : a < 0) (a1 : -9223372036854775808 ≤ a) : wrap64 (IntKind.u64.wrap (IntKind.u64.wrap a * b / 18446744073709551616 - b)) = hi (a * b) := by
 rw [u_neg a a0 a1, Int.add_mul, IntKind.wrap_u64]; unfold wrap64 hi; omega
theorem mul_pn (a b : Int) (b0 : b < 0) (b1 : -9223372036854775808 ≤ b) : wrap64 (IntKind.u64.wrap (a * IntKind.u64.wrap b / 18446744073709551616 - a)) = hi (a * b) := by
 rw [u_neg b b0 b1, Int.mul_add, IntKind.wrap_u64]; unfold wrap64 hi; omega
theorem mul_nn (a b : Int) (a0 : a < 0) (a1 : -9223372036854775808 ≤ a) (b0 : b < 0) (b1 : -9223372036854775808 ≤ b) : wrap64 (IntKind.u64.wrap (IntKind.u64.wrap (IntKind.u64.wrap a * IntKind.u64.wrap b / 18446744073709551616 - IntKind.u64.wrap b) - IntKind.u64.wrap a)) = hi (a * b) := by
 rw [u_neg a a0 a1, u_neg b b0 b1, Int.add_mul, Int.mul_add, Int.mul_add, IntKind.wrap_u64, IntKind.wrap_u64]; unfold wrap64 hi; omega
theorem lo_pp (a b : Int) : a * b % 18446744073709551616 = lo (a * b) := rfl
theorem lo_np (a b : Int) : IntKind.u64.wrap a * b % 18446744073709551616 = lo (a * b) := by rw [IntKind.wrap_u64]; unfold lo; rw [Int.mul_emod, Int.emod_emod, ← Int.mul_emod]
theorem lo_pn (a b : Int) : a * IntKind.u64.wrap b % 18446744073709551616 = lo (a * b) := by rw [IntKind.wrap_u64]; unfold lo; rw [Int.mul_emod, Int.emod_emod, ← Int.mul_emod]

theorem mul_any_pp (a b : Int) (a0 : -9223372036854775808 ≤ a) (a1 : a ≤ 9223372036854775807) (b0 : -9223372036854775808 ≤ b) (b1 : b ≤ 9223372036854775807) (ha : 0 ≤ a) (hb : 0 ≤ b) (w : World) :
  Calls Try.prog 61 #[.int .i64 a, .int .i64 b] w fun e w' => e = .returned (.agg #[.int .i64 (hi (a * b)), .int .u64 (lo (a * b))]) ∧ Below w.heap.size w w' := by
 have va : IntKind.u64.wrap a < 18446744073709551616 := by rw [IntKind.wrap_u64]; omega
 have vb : IntKind.u64.wrap b < 18446744073709551616 := by rw [IntKind.wrap_u64]; omega
 go_enter Try.func61, Try.ntmps61
 go_wp2_with (go_at_call 72; refine (mul64_any _ _ ha (by omega) hb (by omega) _).mono ?_; rintro e w' ⟨rfl, rfl⟩)
 exact bodyPost_ret (v := .agg #[.int .i64 (hi (a * b)), .int .u64 (lo (a * b))]) (by simp [results, Try.results61, go_sem, lo_pp, mul_pp]) rfl ⟨rfl, (Below.refl _ _).alloc (Nat.le_refl _) _⟩
theorem mul_any_np (a b : Int) (a0 : -9223372036854775808 ≤ a) (a1 : a ≤ 9223372036854775807) (b0 : -9223372036854775808 ≤ b) (b1 : b ≤ 9223372036854775807) (ha : a < 0) (hb : 0 ≤ b) (w : World) :
  Calls Try.prog 61 #[.int .i64 a, .int .i64 b] w fun e w' => e = .returned (.agg #[.int .i64 (hi (a * b)), .int .u64 (lo (a * b))]) ∧ Below w.heap.size w w' := by
 have va : IntKind.u64.wrap a < 18446744073709551616 := by rw [IntKind.wrap_u64]; omega
 have vb : IntKind.u64.wrap b < 18446744073709551616 := by rw [IntKind.wrap_u64]; omega
 go_enter Try.func61, Try.ntmps61
 go_wp2_with (go_at_call 72; refine (mul64_any _ _ (wrap_u64_nonneg a) va hb (by omega) _).mono ?_; rintro e w' ⟨rfl, rfl⟩)
 exact bodyPost_ret (v := .agg #[.int .i64 (hi (a * b)), .int .u64 (lo (a * b))]) (by simp [results, Try.results61, go_sem, lo_np, mul_np a b ha a0]) rfl ⟨rfl, (Below.refl _ _).alloc (Nat.le_refl _) _⟩
theorem mul_any_pn (a b : Int) (a0 : -9223372036854775808 ≤ a) (a1 : a ≤ 9223372036854775807) (b0 : -9223372036854775808 ≤ b) (b1 : b ≤ 9223372036854775807) (ha : 0 ≤ a) (hb : b < 0) (w : World) :
  Calls Try.prog 61 #[.int .i64 a, .int .i64 b] w fun e w' => e = .returned (.agg #[.int .i64 (hi (a * b)), .int .u64 (lo (a * b))]) ∧ Below w.heap.size w w' := by
 have va : IntKind.u64.wrap a < 18446744073709551616 := by rw [IntKind.wrap_u64]; omega
 have vb : IntKind.u64.wrap b < 18446744073709551616 := by rw [IntKind.wrap_u64]; omega
 go_enter Try.func61, Try.ntmps61
 go_wp2_with (go_at_call 72; refine (mul64_any _ _ ha (by omega) (wrap_u64_nonneg b) vb _).mono ?_; rintro e w' ⟨rfl, rfl⟩)
 exact bodyPost_ret (v := .agg #[.int .i64 (hi (a * b)), .int .u64 (lo (a * b))]) (by simp [results, Try.results61, go_sem, lo_pn, mul_pn a b hb b0]) rfl ⟨rfl, (Below.refl _ _).alloc (Nat.le_refl _) _⟩
theorem mul_any_nn (a b : Int) (a0 : -9223372036854775808 ≤ a) (a1 : a ≤ 9223372036854775807) (b0 : -9223372036854775808 ≤ b) (b1 : b ≤ 9223372036854775807) (ha : a < 0) (hb : b < 0) (w : World) :
  Calls Try.prog 61 #[.int .i64 a, .int .i64 b] w fun e w' => e = .returned (.agg #[.int .i64 (hi (a * b)), .int .u64 (lo (a * b))]) ∧ Below w.heap.size w w' := by
 have va : IntKind.u64.wrap a < 18446744073709551616 := by rw [IntKind.wrap_u64]; omega
 have vb : IntKind.u64.wrap b < 18446744073709551616 := by rw [IntKind.wrap_u64]; omega
 go_enter Try.func61, Try.ntmps61
 go_wp2_with (go_at_call 72; refine (mul64_any _ _ (wrap_u64_nonneg a) va (wrap_u64_nonneg b) vb _).mono ?_; rintro e w' ⟨rfl, rfl⟩)
 exact bodyPost_ret (v := .agg #[.int .i64 (hi (a * b)), .int .u64 (lo (a * b))]) (by simp [results, Try.results61, go_sem, mul_lo, mul_nn a b ha a0 hb b0]) rfl ⟨rfl, (Below.refl _ _).alloc (Nat.le_refl _) _⟩
theorem mul_any (a b : Int) (a0 : -9223372036854775808 ≤ a) (a1 : a ≤ 9223372036854775807) (b0 : -9223372036854775808 ≤ b) (b1 : b ≤ 9223372036854775807) (w : World) :
  Calls Try.prog 61 #[.int .i64 a, .int .i64 b] w fun e w' => e = .returned (.agg #[.int .i64 (hi (a * b)), .int .u64 (lo (a * b))]) ∧ Below w.heap.size w w' := by
 rcases Int.lt_or_le a 0 with ha | ha <;> rcases Int.lt_or_le b 0 with hb | hb
 ·exact mul_any_nn a b a0 a1 b0 b1 ha hb w
 ·exact mul_any_np a b a0 a1 b0 b1 ha hb w
 ·exact mul_any_pn a b a0 a1 b0 b1 ha hb w
 ·exact mul_any_pp a b a0 a1 b0 b1 ha hb w

theorem cmp_hi (a b : Int) (a0 : -170141183460469231731687303715884105728 ≤ a) (a1 : a < 170141183460469231731687303715884105728) (b0 : -170141183460469231731687303715884105728 ≤ b) (b1 : b < 170141183460469231731687303715884105728) (h : hi a ≠ hi b) : cmpI (hi a) (hi b) = cmpI a b := by
 have e : hi a = a / 18446744073709551616 := by unfold hi; omega
 have e' : hi b = b / 18446744073709551616 := by unfold hi; omega
 rw [e, e'] at h ⊢; unfold cmpI; split <;> split <;> (try split) <;> (try split) <;> omega
theorem cmp_lo (a b : Int) (a0 : -170141183460469231731687303715884105728 ≤ a) (a1 : a < 170141183460469231731687303715884105728) (b0 : -170141183460469231731687303715884105728 ≤ b) (b1 : b < 170141183460469231731687303715884105728) (h : hi a = hi b) : cmpI (lo a) (lo b) = cmpI a b := by
 have e : hi a = a / 18446744073709551616 := by unfold hi; omega
 have e' : hi b = b / 18446744073709551616 := by unfold hi; omega
 rw [e, e'] at h; unfold cmpI lo; split <;> split <;> (try split) <;> (try split) <;> omega
theorem cmp_any {ah al bh bl : Int} (a b : Int) (ha : ah = hi a) (hl : al = lo a) (hb : bh = hi b) (hm : bl = lo b) (a0 : -170141183460469231731687303715884105728 ≤ a) (a1 : a < 170141183460469231731687303715884105728) (b0 : -170141183460469231731687303715884105728 ≤ b) (b1 : b < 170141183460469231731687303715884105728) (w : World) :
  Calls Try.prog 41 #[.agg #[.int .i64 ah, .int .u64 al], .agg #[.int .i64 bh, .int .u64 bl]] w fun e w' => e = .returned (.int .i64 (cmpI a b)) ∧ Below w.heap.size w w' := by
 subst ha hl hb hm
 by_cases g : hi a = hi b
 ·have E : Hid _ := cmp_lo a b a0 a1 b0 b1 g
  have g' : (hi a == hi b) = true := by simpa using g
  clear g
  go_enter Try.func41, Try.ntmps41
  go_wp2_with (go_at_call 59; refine (cmpU64_any _ _ _).mono ?_; rintro e w' ⟨rfl, rfl⟩)
  go_ret
  exact ⟨ret_int E.out, ((Below.refl _ _).alloc (Nat.le_refl _) _).alloc (by simp) _⟩
 ·have E : Hid _ := cmp_hi a b a0 a1 b0 b1 g
  have g' : (hi a == hi b) = false := by simpa using g
  clear g
  go_enter Try.func41, Try.ntmps41
  go_wp2_with (go_at_call 58; refine (cmpI64_any _ _ _).mono ?_; rintro e w' ⟨rfl, rfl⟩)
  go_ret
  exact ⟨ret_int E.out, ((Below.refl _ _).alloc (Nat.le_refl _) _).alloc (by simp) _⟩
theorem sign_any {ah al : Int} (a : Int) (ha : ah = hi a) (hl : al = lo a) (a0 : -170141183460469231731687303715884105728 ≤ a) (a1 : a < 170141183460469231731687303715884105728) (w : World) :
  Calls Try.prog 24 #[.agg #[.int .i64 ah, .int .u64 al]] w fun e w' => e = .returned (.int .i64 (cmpI a 0)) ∧ Below w.heap.size w w' := by
 subst ha hl
 go_enter Try.func24, Try.ntmps24
 go_wp2_with (go_at_call 41; refine (cmp_any a 0 rfl rfl hi_0 lo_0 a0 a1 (by decide) (by decide) _).mono ?_; rintro e w' ⟨rfl, hb⟩)
 go_ret
 exact ⟨rfl, ((Below.refl _ _).alloc (Nat.le_refl _) _).trans (hb.mono (by simp))⟩
end Go.Proofs.Ytkmgndaholglhaa.lw

namespace Go.Proofs.Ytkmgndaholglhaa
open Go.RowKit
set_option linter.unusedVariables false

def pcells : List (Int × Int) → List Value
 | [] => []
 | p :: l => .int .i64 p.1 :: .int .i64 p.2 :: pcells l
theorem pcells_at : ∀ (L : List (Int × Int)) (k : Nat) (x y : Int), L[k]? = some (x, y) → (pcells L)[k * 2]? = some (.int .i64 x) ∧ (pcells L)[k * 2 + 1]? = some (.int .i64 y)
 | [], k, x, y, h => by simp at h
 | p :: l, 0, x, y, h => by simp at h; subst h; exact ⟨rfl, rfl⟩
 | p :: l, k + 1, x, y, h => by
  have h' : l[k]? = some (x, y) := by simpa using h
  have := pcells_at l k x y h'
  have e1 : (k + 1) * 2 = k * 2 + 1 + 1 := by omega
  rw [e1]
  exact ⟨this.1, this.2⟩
def canAll (L : List (Int × Int)) : Bool := L.all fun p => canC p.1 p.2
theorem canAll_drop {L : List (Int × Int)} {k : Nat} {x y : Int} (h : L[k]? = some (x, y)) : canAll (L.drop k) = (canC x y && canAll (L.drop (k + 1))) := by
 obtain ⟨hk, he⟩ := List.getElem?_eq_some_iff.1 h
 rw [List.drop_eq_getElem_cons hk, he]
 rfl
theorem lw_sign (x : Int) : lw.cmpI x 0 = x.sign := cmp_sign x
set_option maxRecDepth 100000 in
theorem pcan (L : List (Int × Int)) (n b : Nat) (w : World) (hn : n = L.length) (hs : n ≤ 1000) (hr : Row w b (pcells L)) (hb : b < w.heap.size) {r : Bool} (hres : r = canAll L) : Calls Try.prog 42 #[.slice (some ⟨b, 0, none⟩) n n] w fun e w' => e = .returned (.bool r) ∧ Below w.heap.size w w' := by
 subst hn
 have HR : Hid _ := hres
 clear hres
 go_enter Try.func42, Try.ntmps42
 go_wp2
 go_loopw [7] (fun i wr => ∃ k : Nat, k ≤ L.length ∧ i = .int .i64 (k : Int) ∧ canAll L = canAll (L.drop k) ∧ Below w.heap.size w wr) (fun i _ => L.length - (intOf i).toNat)
 case atStart => exact ⟨0, by omega, rfl, rfl, Below.refl _ _⟩
 case round =>
  obtain ⟨k, hk, rfl, hd, bel⟩ := hrel
  by_cases hlt : k < L.length
  ·obtain ⟨x, y, hxy⟩ : ∃ x y, L[k]? = some (x, y) := ⟨L[k].1, L[k].2, by rw [List.getElem?_eq_getElem hlt]⟩
   obtain ⟨c1, c2⟩ := pcells_at L k x y hxy
   have hr' := hr.below bel hb
   have q1 := hr'.cell _ _ c1
   have q2 := hr'.cell _ _ c2
   rw [canAll_drop hxy] at hd
   have HD : Hid _ := hd
   clear hr hr' hxy c1 c2 hd
   obtain ⟨V, hV, bV, x_p, sV⟩ := bs_2 wr (.int .i64 x) (.int .i64 y) 31
   cases hc : canC x y
   ·go_wp2_with (go_at_call 26; fail)
    rw [← hV]
    clear hV
    refine (lCan x y V hc.symm).mono ?_
    rintro e w1 ⟨rfl, b1⟩
    go_wp2
    go_ret
    exact ⟨by rw [HR.out, HD.out, hc]; rfl, also (also bel bV) b1⟩
   ·go_wp2_with (go_at_call 26; fail)
    rw [← hV]
    clear hV
    refine (lCan x y V hc.symm).mono ?_
    rintro e w1 ⟨rfl, b1⟩
    have hw : wrap64 ((k : Int) + 1) = (k : Int) + 1 := wrap_in (by omega) (by omega)
    go_wp2
    go_roundw
    case rel => exact ⟨k + 1, by omega, by simp, by rw [HD.out, hc]; rfl, also (also bel bV) b1⟩
    case measure => simp [intOf]; omega
  ·obtain rfl : k = L.length := by omega
   go_wp2
   go_ret
   exact ⟨by rw [HR.out, hd, List.drop_length]; rfl, bel⟩
theorem can3 {a1 a2 b1 b2 c1 c2 : Int} : canAll [(a1, a2), (b1, b2), (c1, c2)] = true ↔ (canC a1 a2 = true ∧ canC b1 b2 = true ∧ canC c1 c2 = true) := by simp [canAll]
theorem can4 {a1 a2 b1 b2 c1 c2 d1 d2 : Int} : canAll [(a1, a2), (b1, b2), (c1, c2), (d1, d2)] = true ↔ (canC a1 a2 = true ∧ canC b1 b2 = true ∧ canC c1 c2 = true ∧ canC d1 d2 = true) := by simp [canAll]
theorem can_sub {x y : Int} (hx : inC x = true) (hy : inC y = true) : wrap64 (x - y) = x - y ∧ -9223372036854775808 ≤ x - y ∧ x - y ≤ 9223372036854775807 := by
 have h := can_diff hx hy
 exact ⟨wrap_in (by omega) (by omega), by omega, by omega⟩
def arP (a1 a2 b1 b2 c1 c2 : Int) : Int := if canAll [(a1, a2), (b1, b2), (c1, c2)] then areaP a1 a2 b1 b2 c1 c2 else 0
theorem area_wide {a1 a2 b1 b2 c1 c2 : Int} (ha : canC a1 a2 = true) (hb : canC b1 b2 = true) (hc : canC c1 c2 = true) : -10000000000000000000000000 ≤ areaP a1 a2 b1 b2 c1 c2 ∧ areaP a1 a2 b1 b2 c1 c2 ≤ 10000000000000000000000000 := by
 have h := area_abs (D := 2199023255552) (can_diff (canC_true.1 hb).1 (canC_true.1 ha).1) (can_diff (canC_true.1 hb).2 (canC_true.1 ha).2) (can_diff (canC_true.1 hc).1 (canC_true.1 ha).1) (can_diff (canC_true.1 hc).2 (canC_true.1 ha).2)
 omega
theorem dist_wide {a1 a2 b1 b2 : Int} (ha : canC a1 a2 = true) (hb : canC b1 b2 = true) : 0 ≤ distP a1 a2 b1 b2 ∧ distP a1 a2 b1 b2 ≤ 10000000000000000000000000 := by
 have h := dist_abs (D := 2199023255552) (can_diff (canC_true.1 hb).1 (canC_true.1 ha).1) (can_diff (canC_true.1 hb).2 (canC_true.1 ha).2)
 have := dist_nonneg a1 a2 b1 b2
 omega
theorem ar_wide (a1 a2 b1 b2 c1 c2 : Int) : -10000000000000000000000000 ≤ arP a1 a2 b1 b2 c1 c2 ∧ arP a1 a2 b1 b2 c1 c2 ≤ 10000000000000000000000000 := by
 unfold arP
 cases h : canAll [(a1, a2), (b1, b2), (c1, c2)]
 ·exact ⟨by simp, by simp⟩
 ·obtain ⟨h1, h2, h3⟩ := can3.1 h
  exact area_wide h1 h2 h3
set_option maxRecDepth 100000 in
set_option maxHeartbeats 4000000 in
theorem parea (a1 a2 b1 b2 c1 c2 : Int) (w : World) (ha : canC a1 a2 = true) (hb : canC b1 b2 = true) (hc : canC c1 c2 = true) {u v : Int} (hu : u = lw.hi (areaP a1 a2 b1 b2 c1 c2)) (hv : v = lw.lo (areaP a1 a2 b1 b2 c1 c2)) :
  Calls Try.prog 43 #[.agg #[.int .i64 a1, .int .i64 a2], .agg #[.int .i64 b1, .int .i64 b2], .agg #[.int .i64 c1, .int .i64 c2]] w fun e w' => e = .returned (.agg #[.int .i64 u, .int .u64 v]) ∧ Below w.heap.size w w' := by
 obtain ⟨x, hx⟩ : ∃ x, x = b1 - a1 := ⟨_, rfl⟩
 have c_x := can_sub (canC_true.1 hb).1 (canC_true.1 ha).1
 rw [← hx] at c_x
 have w_x : wrap64 (b1 - a1) = x := by rw [← hx]; exact c_x.1
 have v_x : IntKind.i64.wrap (b1 - a1) = x := (wrap_i64 _).trans w_x
 have R_x : Hid _ := c_x.2
 have E_x : Hid _ := hx
 clear c_x hx
 obtain ⟨y, hy⟩ : ∃ y, y = c2 - a2 := ⟨_, rfl⟩
 have c_y := can_sub (canC_true.1 hc).2 (canC_true.1 ha).2
 rw [← hy] at c_y
 have w_y : wrap64 (c2 - a2) = y := by rw [← hy]; exact c_y.1
 have v_y : IntKind.i64.wrap (c2 - a2) = y := (wrap_i64 _).trans w_y
 have R_y : Hid _ := c_y.2
 have E_y : Hid _ := hy
 clear c_y hy
 obtain ⟨z, hz⟩ : ∃ z, z = b2 - a2 := ⟨_, rfl⟩
 have c_z := can_sub (canC_true.1 hb).2 (canC_true.1 ha).2
 rw [← hz] at c_z
 have w_z : wrap64 (b2 - a2) = z := by rw [← hz]; exact c_z.1
 have v_z : IntKind.i64.wrap (b2 - a2) = z := (wrap_i64 _).trans w_z
 have R_z : Hid _ := c_z.2
 have E_z : Hid _ := hz
 clear c_z hz
 obtain ⟨t, ht⟩ : ∃ t, t = c1 - a1 := ⟨_, rfl⟩
 have c_t := can_sub (canC_true.1 hc).1 (canC_true.1 ha).1
 rw [← ht] at c_t
 have w_t : wrap64 (c1 - a1) = t := by rw [← ht]; exact c_t.1
 have v_t : IntKind.i64.wrap (c1 - a1) = t := (wrap_i64 _).trans w_t
 have R_t : Hid _ := c_t.2
 have E_t : Hid _ := ht
 clear c_t ht
 have HU : Hid (u = lw.hi (x * y - z * t)) := by unfold Hid; rw [hu, E_x.out, E_y.out, E_z.out, E_t.out]; rfl
 have HV : Hid (v = lw.lo (x * y - z * t)) := by unfold Hid; rw [hv, E_x.out, E_y.out, E_z.out, E_t.out]; rfl
 clear hu hv ha hb hc
 obtain ⟨W, hW, bW, x_a, x_b, x_c, x_r, sW⟩ := bs_2222 w (.int .i64 a1) (.int .i64 a2) (.int .i64 b1) (.int .i64 b2) (.int .i64 c1) (.int .i64 c2) (.int .i64 0) (.int .u64 0) 31 31 31 49
 have zbW := bW.size
 have BB := bW
 go_enter Try.func43, Try.ntmps43
 go_wp2
 rw [← hW]
 clear hW
 have dd1 : Below W.heap.size W W.drew := (Below.refl _ _).drew
 have zdd1 := dd1.size
 replace BB := also BB dd1
 replace x_a := x_a.on dd1
 replace x_b := x_b.on dd1
 replace x_c := x_c.on dd1
 replace x_r := x_r.on dd1
 refine wp_region_held_drew (S := (fun w' => w'.cell? ⟨w.heap.size, 0, none⟩ = some (.int .i64 a1) ∧ w'.cell? ⟨w.heap.size, 1, none⟩ = some (.int .i64 a2) ∧ w'.cell? ⟨w.heap.size + 1, 0, none⟩ = some (.int .i64 b1) ∧ w'.cell? ⟨w.heap.size + 1, 1, none⟩ = some (.int .i64 b2) ∧ w'.cell? ⟨w.heap.size + 1 + 1, 0, none⟩ = some (.int .i64 c1) ∧ w'.cell? ⟨w.heap.size + 1 + 1, 1, none⟩ = some (.int .i64 c2) ∧ Below w.heap.size w w')) (by kernel_rfl) ?_ (fun hHeld => ?_)
 ·exact ⟨x_a.c0, x_a.c1, x_b.c0, x_b.c1, x_c.c0, x_c.c1, BB⟩
 refine tz (i := 0) rfl ?_
 simp only [Act.put, ps1, ps2, ps3]
 refine tz (i := 1) rfl ?_
 simp only [Act.put, ps1, ps2, ps3]
 refine tz (i := 2) rfl ?_
 simp only [Act.put, ps1, ps2, ps3]
 refine tz (i := 3) rfl ?_
 simp only [Act.put, ps1, ps2, ps3]
 refine tz (i := 4) rfl ?_
 simp only [Act.put, ps1, ps2, ps3]
 refine tz (i := 5) rfl ?_
 simp only [Act.put, ps1, ps2, ps3]
 refine tz (i := 6) rfl ?_
 simp only [Act.put, ps1, ps2, ps3]
 refine tz (i := 7) rfl ?_
 simp only [Act.put, ps1, ps2, ps3]
 refine tz (i := 8) rfl ?_
 simp only [Act.put, ps1, ps2, ps3]
 refine tz (i := 9) rfl ?_
 simp only [Act.put, ps1, ps2, ps3]
 refine tz (i := 11) rfl ?_
 simp only [Act.put, ps1, ps2, ps3]
 refine tz (i := 12) rfl ?_
 simp only [Act.put, ps1, ps2, ps3]
 refine tz (i := 13) rfl ?_
 simp only [Act.put, ps1, ps2, ps3]
 refine tz (i := 14) rfl ?_
 simp only [Act.put, ps1, ps2, ps3]
 refine tz (i := 15) rfl ?_
 simp only [Act.put, ps1, ps2, ps3]
 refine tz (i := 16) rfl ?_
 simp only [Act.put, ps1, ps2, ps3]
 refine tz (i := 17) rfl ?_
 simp only [Act.put, ps1, ps2, ps3]
 refine tz (i := 18) rfl ?_
 simp only [Act.put, ps1, ps2, ps3]
 refine tz (i := 19) rfl ?_
 simp only [Act.put, ps1, ps2, ps3]
 refine tz (i := 20) rfl ?_
 simp only [Act.put, ps1, ps2, ps3]
 refine take_call (i := 10) rfl (by kernel_rfl) (fun Kc hK => ?_)
 go_simp
 (go_at_call 61; refine (lw.mul_any x y R_x.out.1 R_x.out.2 R_y.out.1 R_y.out.2 _).mono ?_; rintro e w1 ⟨rfl, bw1⟩)
 refine hK.out _ _ ?_ (fun hHeld => ?_)
 ·exact ⟨cell_on bw1 hHeld.1, cell_on bw1 hHeld.2.1, cell_on bw1 hHeld.2.2.1, cell_on bw1 hHeld.2.2.2.1, cell_on bw1 hHeld.2.2.2.2.1, cell_on bw1 hHeld.2.2.2.2.2.1, also hHeld.2.2.2.2.2.2 bw1⟩
 clear hK Kc
 have zbw1 := bw1.size
 replace BB := also BB bw1
 replace x_a := x_a.on bw1
 replace x_b := x_b.on bw1
 replace x_c := x_c.on bw1
 replace x_r := x_r.on bw1
 refine take_call (i := 21) rfl (by kernel_rfl) (fun Kc hK => ?_)
 go_simp
 (go_at_call 61; refine (lw.mul_any z t R_z.out.1 R_z.out.2 R_t.out.1 R_t.out.2 _).mono ?_; rintro e w2 ⟨rfl, bw2⟩)
 refine hK.out _ _ ?_ (fun hHeld => ?_)
 ·exact ⟨cell_on bw2 hHeld.1, cell_on bw2 hHeld.2.1, cell_on bw2 hHeld.2.2.1, cell_on bw2 hHeld.2.2.2.1, cell_on bw2 hHeld.2.2.2.2.1, cell_on bw2 hHeld.2.2.2.2.2.1, also hHeld.2.2.2.2.2.2 bw2⟩
 clear hK Kc
 have zbw2 := bw2.size
 replace BB := also BB bw2
 replace x_a := x_a.on bw2
 replace x_b := x_b.on bw2
 replace x_c := x_c.on bw2
 replace x_r := x_r.on bw2
 refine take_call (i := 22) rfl (by kernel_rfl) (fun Kc hK => ?_)
 go_simp
 (go_at_call 60; refine (lw.sub_any (x * y) (z * t) rfl rfl rfl rfl _).mono ?_; rintro e w3 ⟨rfl, bw3⟩)
 refine hK.out _ _ ?_ (fun hHeld => ?_)
 ·exact ⟨cell_on bw3 hHeld.1, cell_on bw3 hHeld.2.1, cell_on bw3 hHeld.2.2.1, cell_on bw3 hHeld.2.2.2.1, cell_on bw3 hHeld.2.2.2.2.1, cell_on bw3 hHeld.2.2.2.2.2.1, also hHeld.2.2.2.2.2.2 bw3⟩
 clear hK Kc
 have zbw3 := bw3.size
 replace BB := also BB bw3
 replace x_a := x_a.on bw3
 replace x_b := x_b.on bw3
 replace x_c := x_c.on bw3
 replace x_r := x_r.on bw3
 have ⟨x_r_0, x_r_1, x_r_2, x_r_3⟩ := x_r
 refine take_call (i := 23) rfl (by kernel_rfl) (fun Kc hK => ?_)
 go_simp
 refine hK.out _ _ ?_ (fun hHeld => ?_)
 ·first | exact ⟨cell_put2 hHeld.1 (by omega) _ _, cell_put2 hHeld.2.1 (by omega) _ _, cell_put2 hHeld.2.2.1 (by omega) _ _, cell_put2 hHeld.2.2.2.1 (by omega) _ _, cell_put2 hHeld.2.2.2.2.1 (by omega) _ _, cell_put2 hHeld.2.2.2.2.2.1 (by omega) _ _, below_put2 hHeld.2.2.2.2.2.2 (by omega) _ _⟩ | exact ⟨x_a.c0, x_a.c1, x_b.c0, x_b.c1, x_c.c0, x_c.c1, BB⟩
 clear hK Kc
 refine wpAnyH_done (by kernel_rfl) ?_ _
 go_wp2
 exact bodyPost_ret (v := .agg #[.int .i64 (lw.hi (x * y - z * t)), .int .u64 (lw.lo (x * y - z * t))]) (by simp [results, Try.results43, go_sem, *]) rfl (⟨by rw [HU.out, HV.out], below_put2 BB (by omega) _ _⟩)
set_option maxRecDepth 100000 in
set_option maxHeartbeats 4000000 in
theorem pdist (a1 a2 b1 b2 : Int) (w : World) (ha : canC a1 a2 = true) (hb : canC b1 b2 = true) {u v : Int} (hu : u = lw.hi (distP a1 a2 b1 b2)) (hv : v = lw.lo (distP a1 a2 b1 b2)) :
  Calls Try.prog 46 #[.agg #[.int .i64 a1, .int .i64 a2], .agg #[.int .i64 b1, .int .i64 b2]] w fun e w' => e = .returned (.agg #[.int .i64 u, .int .u64 v]) ∧ Below w.heap.size w w' := by
 obtain ⟨x, hx⟩ : ∃ x, x = b1 - a1 := ⟨_, rfl⟩
 have c_x := can_sub (canC_true.1 hb).1 (canC_true.1 ha).1
 rw [← hx] at c_x
 have w_x : wrap64 (b1 - a1) = x := by rw [← hx]; exact c_x.1
 have v_x : IntKind.i64.wrap (b1 - a1) = x := (wrap_i64 _).trans w_x
 have R_x : Hid _ := c_x.2
 have E_x : Hid _ := hx
 clear c_x hx
 obtain ⟨y, hy⟩ : ∃ y, y = b2 - a2 := ⟨_, rfl⟩
 have c_y := can_sub (canC_true.1 hb).2 (canC_true.1 ha).2
 rw [← hy] at c_y
 have w_y : wrap64 (b2 - a2) = y := by rw [← hy]; exact c_y.1
 have v_y : IntKind.i64.wrap (b2 - a2) = y := (wrap_i64 _).trans w_y
 have R_y : Hid _ := c_y.2
 have E_y : Hid _ := hy
 clear c_y hy
 have HU : Hid (u = lw.hi (x * x + y * y)) := by unfold Hid; rw [hu, E_x.out, E_y.out]; rfl
 have HV : Hid (v = lw.lo (x * x + y * y)) := by unfold Hid; rw [hv, E_x.out, E_y.out]; rfl
 clear hu hv ha hb
 obtain ⟨W, hW, bW, x_a, x_b, x_r, sW⟩ := bs_222 w (.int .i64 a1) (.int .i64 a2) (.int .i64 b1) (.int .i64 b2) (.int .i64 0) (.int .u64 0) 31 31 49
 have zbW := bW.size
 have BB := bW
 go_enter Try.func46, Try.ntmps46
 go_wp2
 rw [← hW]
 clear hW
 have dd1 : Below W.heap.size W W.drew := (Below.refl _ _).drew
 have zdd1 := dd1.size
 replace BB := also BB dd1
 replace x_a := x_a.on dd1
 replace x_b := x_b.on dd1
 replace x_r := x_r.on dd1
 refine wp_region_held_drew (S := (fun w' => w'.cell? ⟨w.heap.size, 0, none⟩ = some (.int .i64 a1) ∧ w'.cell? ⟨w.heap.size, 1, none⟩ = some (.int .i64 a2) ∧ w'.cell? ⟨w.heap.size + 1, 0, none⟩ = some (.int .i64 b1) ∧ w'.cell? ⟨w.heap.size + 1, 1, none⟩ = some (.int .i64 b2) ∧ Below w.heap.size w w')) (by kernel_rfl) ?_ (fun hHeld => ?_)
 ·exact ⟨x_a.c0, x_a.c1, x_b.c0, x_b.c1, BB⟩
 refine tz (i := 0) rfl ?_
 simp only [Act.put, ps1, ps2, ps3]
 refine tz (i := 1) rfl ?_
 simp only [Act.put, ps1, ps2, ps3]
 refine tz (i := 2) rfl ?_
 simp only [Act.put, ps1, ps2, ps3]
 refine tz (i := 3) rfl ?_
 simp only [Act.put, ps1, ps2, ps3]
 refine tz (i := 4) rfl ?_
 simp only [Act.put, ps1, ps2, ps3]
 refine tz (i := 5) rfl ?_
 simp only [Act.put, ps1, ps2, ps3]
 refine tz (i := 6) rfl ?_
 simp only [Act.put, ps1, ps2, ps3]
 refine tz (i := 7) rfl ?_
 simp only [Act.put, ps1, ps2, ps3]
 refine tz (i := 8) rfl ?_
 simp only [Act.put, ps1, ps2, ps3]
 refine tz (i := 9) rfl ?_
 simp only [Act.put, ps1, ps2, ps3]
 refine tz (i := 10) rfl ?_
 simp only [Act.put, ps1, ps2, ps3]
 refine tz (i := 11) rfl ?_
 simp only [Act.put, ps1, ps2, ps3]
 refine wpAnyH_done (by kernel_rfl) ?_ _
 go_wp2_with (go_at_call 61; fail)
 refine (lw.mul_any x x R_x.out.1 R_x.out.2 R_x.out.1 R_x.out.2 _).mono ?_
 rintro e w1 ⟨rfl, bw1⟩
 have zbw1 := bw1.size
 replace BB := also BB bw1
 replace x_a := x_a.on bw1
 replace x_b := x_b.on bw1
 replace x_r := x_r.on bw1
 go_wp2_with (go_at_call 61; fail)
 refine (lw.mul_any y y R_y.out.1 R_y.out.2 R_y.out.1 R_y.out.2 _).mono ?_
 rintro e w2 ⟨rfl, bw2⟩
 have zbw2 := bw2.size
 replace BB := also BB bw2
 replace x_a := x_a.on bw2
 replace x_b := x_b.on bw2
 replace x_r := x_r.on bw2
 go_wp2_with (go_at_call 65; fail)
 refine (lw.add_any (x * x) (y * y) rfl rfl rfl rfl _).mono ?_
 rintro e w3 ⟨rfl, bw3⟩
 have zbw3 := bw3.size
 replace BB := also BB bw3
 replace x_a := x_a.on bw3
 replace x_b := x_b.on bw3
 replace x_r := x_r.on bw3
 have ⟨x_r_0, x_r_1, x_r_2, x_r_3⟩ := x_r
 go_wp2
 exact bodyPost_ret (v := .agg #[.int .i64 (lw.hi (x * x + y * y)), .int .u64 (lw.lo (x * x + y * y))]) (by simp [results, Try.results46, go_sem, *]) rfl (⟨by rw [HU.out, HV.out], below_put2 BB (by omega) _ _⟩)
end Go.Proofs.Ytkmgndaholglhaa

namespace Go.Proofs.Ytkmgndaholglhaa
open Go.RowKit
set_option linter.unusedVariables false

set_option maxRecDepth 100000 in
set_option maxHeartbeats 4000000 in
theorem pArea (a1 a2 b1 b2 c1 c2 : Int) (w : World) {u v : Int} (hu : u = lw.hi (arP a1 a2 b1 b2 c1 c2)) (hv : v = lw.lo (arP a1 a2 b1 b2 c1 c2)) :
  Calls Try.prog 25 #[.agg #[.int .i64 a1, .int .i64 a2], .agg #[.int .i64 b1, .int .i64 b2], .agg #[.int .i64 c1, .int .i64 c2]] w fun e w' => e = .returned (.agg #[.int .i64 u, .int .u64 v]) ∧ Below w.heap.size w w' := by
 cases hq : canAll [(a1, a2), (b1, b2), (c1, c2)]
 ·skip
  obtain rfl : u = 0 := by rw [hu]; unfold arP; rw [hq]; rfl
  obtain rfl : v = 0 := by rw [hv]; unfold arP; rw [hq]; rfl
  clear hu hv
  have HQ : Hid _ := hq
  clear hq
  obtain ⟨W, hW, bW, x_a, x_b, x_c, x_r, sW⟩ := bs_2222 w (.int .i64 a1) (.int .i64 a2) (.int .i64 b1) (.int .i64 b2) (.int .i64 c1) (.int .i64 c2) (.int .i64 0) (.int .u64 0) 31 31 31 49
  have zbW := bW.size
  have BB := bW
  go_enter Try.func25, Try.ntmps25
  go_wp2_with (go_at_call 42; fail)
  have eV : W.heap.size = w.heap.size + 1 + 1 + 1 + 1 := by rw [hW]; simp
  rw [← hW]
  clear hW
  obtain ⟨V, hV⟩ : ∃ V, V = (W.alloc (.cells #[.int .i64 a1, .int .i64 a2, .int .i64 b1, .int .i64 b2, .int .i64 c1, .int .i64 c2] 31)) := ⟨_, rfl⟩
  rw [← hV]
  have bV : Below W.heap.size W V := by rw [hV]; exact (Below.refl _ _).alloc (Nat.le_refl _) _
  have rV : Row V W.heap.size [.int .i64 a1, .int .i64 a2, .int .i64 b1, .int .i64 b2, .int .i64 c1, .int .i64 c2] := by rw [hV]; exact Row.new _ _ _
  have lV : W.heap.size < V.heap.size := by rw [hV]; simp
  clear hV
  rw [eV] at rV lV
  have zbV := bV.size
  replace BB := also BB bV
  replace x_a := x_a.on bV
  replace x_b := x_b.on bV
  replace x_c := x_c.on bV
  replace x_r := x_r.on bV
  refine (pcan [(a1, a2), (b1, b2), (c1, c2)] 3 _ V rfl (by decide) rV lV HQ.out.symm).mono ?_
  rintro e w1 ⟨rfl, bw1⟩
  have zbw1 := bw1.size
  replace BB := also BB bw1
  replace x_a := x_a.on bw1
  replace x_b := x_b.on bw1
  replace x_c := x_c.on bw1
  replace x_r := x_r.on bw1
  have ⟨x_a_0, x_a_1, x_a_2, x_a_3⟩ := x_a
  have ⟨x_b_0, x_b_1, x_b_2, x_b_3⟩ := x_b
  have ⟨x_c_0, x_c_1, x_c_2, x_c_3⟩ := x_c
  have ⟨x_r_0, x_r_1, x_r_2, x_r_3⟩ := x_r
  go_wp2
  exact bodyPost_ret (v := .agg #[.int .i64 0, .int .u64 0]) (by simp [results, Try.results25, go_sem, *]) rfl (⟨rfl, below_put2 BB (by omega) _ _⟩)
 ·skip
  obtain ⟨ha, hb, hc⟩ := can3.1 hq
  have HU : Hid (u = lw.hi (areaP a1 a2 b1 b2 c1 c2)) := by unfold Hid; rw [hu]; unfold arP; rw [hq]; rfl
  have HV : Hid (v = lw.lo (areaP a1 a2 b1 b2 c1 c2)) := by unfold Hid; rw [hv]; unfold arP; rw [hq]; rfl
  clear hu hv
  have HQ : Hid _ := hq
  clear hq
  obtain ⟨W, hW, bW, x_a, x_b, x_c, x_r, sW⟩ := bs_2222 w (.int .i64 a1) (.int .i64 a2) (.int .i64 b1) (.int .i64 b2) (.int .i64 c1) (.int .i64 c2) (.int .i64 0) (.int .u64 0) 31 31 31 49
  have zbW := bW.size
  have BB := bW
  go_enter Try.func25, Try.ntmps25
  go_wp2_with (go_at_call 42; fail)
  have eV : W.heap.size = w.heap.size + 1 + 1 + 1 + 1 := by rw [hW]; simp
  rw [← hW]
  clear hW
  obtain ⟨V, hV⟩ : ∃ V, V = (W.alloc (.cells #[.int .i64 a1, .int .i64 a2, .int .i64 b1, .int .i64 b2, .int .i64 c1, .int .i64 c2] 31)) := ⟨_, rfl⟩
  rw [← hV]
  have bV : Below W.heap.size W V := by rw [hV]; exact (Below.refl _ _).alloc (Nat.le_refl _) _
  have rV : Row V W.heap.size [.int .i64 a1, .int .i64 a2, .int .i64 b1, .int .i64 b2, .int .i64 c1, .int .i64 c2] := by rw [hV]; exact Row.new _ _ _
  have lV : W.heap.size < V.heap.size := by rw [hV]; simp
  clear hV
  rw [eV] at rV lV
  have zbV := bV.size
  replace BB := also BB bV
  replace x_a := x_a.on bV
  replace x_b := x_b.on bV
  replace x_c := x_c.on bV
  replace x_r := x_r.on bV
  refine (pcan [(a1, a2), (b1, b2), (c1, c2)] 3 _ V rfl (by decide) rV lV HQ.out.symm).mono ?_
  rintro e w1 ⟨rfl, bw1⟩
  have zbw1 := bw1.size
  replace BB := also BB bw1
  replace x_a := x_a.on bw1
  replace x_b := x_b.on bw1
  replace x_c := x_c.on bw1
  replace x_r := x_r.on bw1
  have ⟨x_a_0, x_a_1, x_a_2, x_a_3⟩ := x_a
  have ⟨x_b_0, x_b_1, x_b_2, x_b_3⟩ := x_b
  have ⟨x_c_0, x_c_1, x_c_2, x_c_3⟩ := x_c
  have ⟨x_r_0, x_r_1, x_r_2, x_r_3⟩ := x_r
  go_wp2_with (go_at_call 43; fail)
  refine (parea a1 a2 b1 b2 c1 c2 w1 ha hb hc HU.out HV.out).mono ?_
  rintro e w2 ⟨rfl, bw2⟩
  clear x_a_0 x_a_1 x_a_2 x_a_3 x_b_0 x_b_1 x_b_2 x_b_3 x_c_0 x_c_1 x_c_2 x_c_3 x_r_0 x_r_1 x_r_2 x_r_3
  have zbw2 := bw2.size
  replace BB := also BB bw2
  replace x_a := x_a.on bw2
  replace x_b := x_b.on bw2
  replace x_c := x_c.on bw2
  replace x_r := x_r.on bw2
  have ⟨x_r_0, x_r_1, x_r_2, x_r_3⟩ := x_r
  go_wp2
  exact bodyPost_ret (v := .agg #[.int .i64 u, .int .u64 v]) (by simp [results, Try.results25, go_sem, *]) rfl (⟨rfl, below_put2 BB (by omega) _ _⟩)
set_option maxRecDepth 100000 in
set_option maxHeartbeats 4000000 in
theorem pOrient (a1 a2 b1 b2 c1 c2 : Int) (w : World) {g : Int} (hg : g = (arP a1 a2 b1 b2 c1 c2).sign) :
  Calls Try.prog 16 #[.agg #[.int .i64 a1, .int .i64 a2], .agg #[.int .i64 b1, .int .i64 b2], .agg #[.int .i64 c1, .int .i64 c2]] w fun e w' => e = .returned (.int .i64 g) ∧ Below w.heap.size w w' := by
 have hw := ar_wide a1 a2 b1 b2 c1 c2
 have HW : Hid (-170141183460469231731687303715884105728 ≤ arP a1 a2 b1 b2 c1 c2 ∧ arP a1 a2 b1 b2 c1 c2 < 170141183460469231731687303715884105728) := ⟨by omega, by omega⟩
 clear hw
 rw [← lw_sign] at hg
 have HG : Hid _ := hg
 clear hg
 obtain ⟨u, hu⟩ : ∃ u, u = lw.hi (arP a1 a2 b1 b2 c1 c2) := ⟨_, rfl⟩
 obtain ⟨v, hv⟩ : ∃ v, v = lw.lo (arP a1 a2 b1 b2 c1 c2) := ⟨_, rfl⟩
 have HU : Hid _ := hu
 have HV : Hid _ := hv
 clear hu hv
 obtain ⟨W, hW, bW, x_a, x_b, x_c, sW⟩ := bs_222 w (.int .i64 a1) (.int .i64 a2) (.int .i64 b1) (.int .i64 b2) (.int .i64 c1) (.int .i64 c2) 31 31 31
 have zbW := bW.size
 have BB := bW
 go_enter Try.func16, Try.ntmps16
 go_wp2_with (go_at_call 25; fail)
 rw [← hW]
 clear hW
 refine (pArea a1 a2 b1 b2 c1 c2 W HU.out HV.out).mono ?_
 rintro e w1 ⟨rfl, bw1⟩
 have zbw1 := bw1.size
 replace BB := also BB bw1
 replace x_a := x_a.on bw1
 replace x_b := x_b.on bw1
 replace x_c := x_c.on bw1
 go_wp2_with (go_at_call 24; fail)
 refine (lw.sign_any (arP a1 a2 b1 b2 c1 c2) HU.out HV.out HW.out.1 HW.out.2 w1).mono ?_
 rintro e w2 ⟨rfl, bw2⟩
 have zbw2 := bw2.size
 replace BB := also BB bw2
 replace x_a := x_a.on bw2
 replace x_b := x_b.on bw2
 replace x_c := x_c.on bw2
 go_wp2
 go_ret
 exact ⟨by rw [HG.out]; rfl, BB⟩
end Go.Proofs.Ytkmgndaholglhaa

namespace Go.Proofs.Ytkmgndaholglhaa
open Go.RowKit
set_option linter.unusedVariables false

def upd {α : Type} (f : Nat → α) (i : Nat) (x : α) : Nat → α := fun j => if j = i then x else f j
theorem upd_same {α : Type} (f : Nat → α) (i : Nat) (x : α) : upd f i x i = x := by unfold upd; rw [if_pos rfl]
theorem upd_other {α : Type} (f : Nat → α) (i j : Nat) (x : α) (h : j ≠ i) : upd f i x j = f j := by unfold upd; rw [if_neg h]
def GoodSp (Sp : Nat → Value → (World → Prop) → (Nat → Prop) → Prop) : Prop := ∀ j x R A, Sp j x R A → (∀ w w', R w → Below w.heap.size w w' → R w') ∧ ∀ w k, R w → w.heap.size ≤ k → A k
def nb (x : Bool) : Nat := match x with | true => 0 | false => 1
structure Mk (U : World) (Z : Nat → List Value) (Sp : Nat → Value → (World → Prop) → (Nat → Prop) → Prop) (b e : Nat → Bool) (p : Nat → Nat) (R : Nat → World → Prop) (A : Nat → Nat → Prop) (u v : Nat → Value) (w : World) : Prop where
 spec : ∀ j, b j = true → Sp j (u j) (R j) (A j)
 res : ∀ j, b j = true → R j w
 ptr : ∀ i, e i = true → v i = .pointer (some ⟨p i, 0, none⟩)
 blk : ∀ i, e i = true → Row w (p i) (Z i)
 old : ∀ i, e i = true → U.heap.size ≤ p i
 lt : ∀ i, e i = true → p i < w.heap.size
 ne : ∀ i j, e i = true → e j = true → i ≠ j → p i ≠ p j
 ap : ∀ i j, e i = true → b j = true → A j (p i)
 bel : Below U.heap.size U w
variable {U : World} {Z : Nat → List Value} {Sp : Nat → Value → (World → Prop) → (Nat → Prop) → Prop} {b e : Nat → Bool} {p : Nat → Nat} {R : Nat → World → Prop} {A : Nat → Nat → Prop} {u v : Nat → Value} {w w' : World}
theorem Mk.start (U : World) (Z : Nat → List Value) (Sp : Nat → Value → (World → Prop) → (Nat → Prop) → Prop) {w : World} (h : Below U.heap.size U w) : Mk U Z Sp (fun _ => false) (fun _ => false) (fun _ => 0) (fun _ _ => True) (fun _ _ => True) (fun _ => undef) (fun _ => undef) w :=
 ⟨fun _ h => Bool.noConfusion h, fun _ h => Bool.noConfusion h, fun _ h => Bool.noConfusion h, fun _ h => Bool.noConfusion h, fun _ h => Bool.noConfusion h, fun _ h => Bool.noConfusion h, fun _ _ h => Bool.noConfusion h, fun _ _ h => Bool.noConfusion h, h⟩
theorem Mk.call (h : Mk U Z Sp b e p R A u v w) (hG : GoodSp Sp) (j : Nat) (hb : Below w.heap.size w w') (x : Value) (R' : World → Prop) (A' : Nat → Prop) (hs : Sp j x R' A') (hR : R' w') (hin : ∀ i, e i = true → A' (p i)) :
  Mk U Z Sp (upd b j true) e p (upd R j R') (upd A j A') (upd u j x) v w' := by
 refine ⟨fun i hi => ?_, fun i hi => ?_, h.ptr, fun i hi => (h.blk i hi).below hb (h.lt i hi), h.old, fun i hi => Nat.lt_of_lt_of_le (h.lt i hi) hb.size, h.ne, fun i k hi hk => ?_, also h.bel hb⟩
 ·by_cases q : i = j
  ·subst q; simp only [upd_same]; exact hs
  ·rw [upd_other _ _ _ _ q] at hi; simp only [upd_other _ _ _ _ q]; exact h.spec i hi
 ·by_cases q : i = j
  ·subst q; simp only [upd_same]; exact hR
  ·rw [upd_other _ _ _ _ q] at hi; simp only [upd_other _ _ _ _ q]; exact (hG _ _ _ _ (h.spec i hi)).1 _ _ (h.res i hi) hb
 ·by_cases q : k = j
  ·subst q; simp only [upd_same]; exact hin i hi
  ·rw [upd_other _ _ _ _ q] at hk; simp only [upd_other _ _ _ _ q]; exact h.ap i k hi hk
theorem Mk.alloc (h : Mk U Z Sp b e p R A u v w) (hG : GoodSp Sp) (i : Nat) (t : TypeId) (hi : e i = false) :
  Mk U Z Sp b (upd e i true) (upd p i w.heap.size) R A u (upd v i (.pointer (some ⟨w.heap.size, 0, none⟩))) (w.alloc (.cells (Z i).toArray t)) := by
 have hb : Below w.heap.size w (w.alloc (.cells (Z i).toArray t)) := (Below.refl _ _).alloc (Nat.le_refl _) _
 refine ⟨h.spec, fun j hj => (hG _ _ _ _ (h.spec j hj)).1 _ _ (h.res j hj) hb, fun k hk => ?_, fun k hk => ?_, fun k hk => ?_, fun k hk => ?_, fun k m hk hm hne => ?_, fun k j hk hj => ?_, also h.bel hb⟩
 ·by_cases q : k = i
  ·subst q; simp only [upd_same]
  ·rw [upd_other _ _ _ _ q] at hk; simp only [upd_other _ _ _ _ q]; exact h.ptr k hk
 ·by_cases q : k = i
  ·subst q; simp only [upd_same]; exact Row.new _ _ _
  ·rw [upd_other _ _ _ _ q] at hk; simp only [upd_other _ _ _ _ q]; exact (h.blk k hk).below hb (h.lt k hk)
 ·by_cases q : k = i
  ·subst q; simp only [upd_same]; exact h.bel.size
  ·rw [upd_other _ _ _ _ q] at hk; simp only [upd_other _ _ _ _ q]; exact h.old k hk
 ·by_cases q : k = i
  ·subst q; simp only [upd_same]; simp
  ·rw [upd_other _ _ _ _ q] at hk; simp only [upd_other _ _ _ _ q]; exact Nat.lt_of_lt_of_le (h.lt k hk) hb.size
 ·by_cases q : k = i
  ·subst q
   rw [upd_other _ _ _ _ (fun x => hne x.symm)] at hm
   simp only [upd_same, upd_other _ _ _ _ (fun x => hne x.symm)]
   exact Nat.ne_of_gt (h.lt m hm)
  ·rw [upd_other _ _ _ _ q] at hk
   by_cases q2 : m = i
   ·subst q2; simp only [upd_same, upd_other _ _ _ _ q]; exact Nat.ne_of_lt (h.lt k hk)
   ·rw [upd_other _ _ _ _ q2] at hm; simp only [upd_other _ _ _ _ q, upd_other _ _ _ _ q2]; exact h.ne k m hk hm hne
 ·by_cases q : k = i
  ·subst q; simp only [upd_same]; exact (hG _ _ _ _ (h.spec j hj)).2 _ _ (h.res j hj) (Nat.le_refl _)
  ·rw [upd_other _ _ _ _ q] at hk; simp only [upd_other _ _ _ _ q]; exact h.ap k j hk hj
theorem bx_row {w : World} {k : Nat} {x y : Value} (h : Row w k [x, y]) : Bx w k x y := ⟨(h 0 x rfl).1, (h 1 y rfl).1, (h 0 x rfl).2, (h 1 y rfl).2⟩
variable {P : Program} {md : Region.Mode} {Q : Exit → Act → World → Prop} {S : World → Prop}
theorem ready_at {l : List Oper} {L : Array Bool} {i : Nat} (hi : i ∈ Region.ready md l.toArray L) : i < l.length ∧ L.getD i true = false ∧ ∀ o, l[i]? = some o → ∀ (k : Nat) x, o.after[k]? = some x → Region.binds md x = true → L.getD x.on false = true := by
 unfold Region.ready at hi
 rw [List.mem_filter, List.mem_range, Bool.and_eq_true_iff] at hi
 obtain ⟨h1, h2, h3⟩ := hi
 refine ⟨by simpa using h1, by simpa using h2, fun o ho k x hx hb => ?_⟩
 have ho' : l.toArray[i]? = some o := by simpa using ho
 rw [ho'] at h3
 simp only [Option.map_some, Option.getD_some] at h3
 obtain ⟨hk, rfl⟩ := Array.getElem?_eq_some_iff.1 hx
 have := Array.all_eq_true.1 h3 k hk
 rw [hb] at this
 simpa using this
theorem ready_ne {l : List Oper} {L : Array Bool} {i : Nat} (hi : i < l.length) (h : (!L.getD i true && ((l.toArray[i]?).map (·.after.all fun e => !Region.binds md e || L.getD e.on false)).getD false) = true) : Region.ready md l.toArray L ≠ [] := by
 intro e
 have : i ∈ Region.ready md l.toArray L := by
  unfold Region.ready
  rw [List.mem_filter, List.mem_range]
  exact ⟨by simpa using hi, h⟩
 rw [e] at this
 cases this
theorem phase {l : List Oper} (Inv : Nat → Array Bool → Act → World → Prop)
  (hstep : ∀ f L a w, Inv f L a w → wpAnyH P md l.toArray Q S f L a w ∨ ∃ g, f = g + 1 ∧ Region.ready md l.toArray L ≠ [] ∧ ∀ i ∈ Region.ready md l.toArray L, ∃ o, l[i]? = some o ∧ ∀ K' : Act → World → Prop, Shut (∀ a w, S w → Inv g (L.setIfInBounds i true) a w → K' a w) → if Region.wanted o (yielded l.toArray a.tmps) = true then Oper.wp P o a w K' Q else K' (a.put o.dst undef) w) :
  ∀ f L a w, Inv f L a w → wpAnyH P md l.toArray Q S f L a w := by
 intro f
 induction f with
 | zero =>
  intro L a w h
  rcases hstep 0 L a w h with h | ⟨g, hg, _⟩
  ·exact h
  ·omega
 | succ f ih =>
  intro L a w h
  rcases hstep (f + 1) L a w h with h | ⟨g, hg, hne, hall⟩
  ·exact h
  ·obtain rfl : f = g := by omega
   refine ⟨fun e => absurd e hne, fun i hi => ?_⟩
   obtain ⟨o, ho, ho2⟩ := hall i hi
   exact wpOp_step (by simpa using ho) (fun K' hK => ho2 K' (fun a w hS hI => hK a w ⟨hS, ih _ a w hI⟩))
end Go.Proofs.Ytkmgndaholglhaa

namespace Go.Proofs.Ytkmgndaholglhaa
open Go.RowKit
set_option linter.unusedVariables false

theorem hf_top_eq {u v m k : Nat} (hk : k ≤ m) (hu : u < 65536 ^ m) (hv : v < 65536 ^ m) (h : ∀ j, k ≤ j → j < m → hf.dg (u : Int) j = hf.dg (v : Int) j) : u / 65536 ^ k = v / 65536 ^ k := by
 have hlt : ∀ x : Nat, x < 65536 ^ m → x / 65536 ^ k < 65536 ^ (m - k) := fun x hx => by
  refine Nat.div_lt_of_lt_mul ?_
  rw [← Nat.pow_add, show k + (m - k) = m by omega]
  exact hx
 refine hf.eq_of_dcells (m - k) _ _ (hlt u hu) (hlt v hv) fun j hj => ?_
 rw [Int.natCast_ediv, Int.natCast_ediv, hf.pow_cast, hf.dg_div, hf.dg_div]
 exact h _ (by omega) (by omega)
theorem cmpI_lt {x y : Int} (h : x < y) : cmpI x y = -1 := by unfold cmpI; rw [if_pos h]
theorem cmpI_gt {x y : Int} (h : y < x) : cmpI x y = 1 := by unfold cmpI; rw [if_neg (by omega), if_pos h]

set_option maxRecDepth 100000 in
set_option maxHeartbeats 1000000 in
theorem rcmp_any (a b : Option Addr) (ca cb u v : Nat) (w : World) (ha : Sl w a (hf.nlen u) ca (hf.dcells (hf.nlen u) (u : Int))) (hb : Sl w b (hf.nlen v) cb (hf.dcells (hf.nlen v) (v : Int))) :
  Calls Try.prog 56 #[.slice a (hf.nlen u) ca, .slice b (hf.nlen v) cb] w fun e w' => e = .returned (.int .i64 (cmpI u v)) ∧ Below w.heap.size w w' := by
 have k1 := ha.big
 have k2 := ha.room
 have k3 := hb.big
 have k4 := hb.room
 unfold maxLen at k1 k3
 rcases Nat.lt_trichotomy (hf.nlen u) (hf.nlen v) with h | h | h
 ·have HC : Hid (cmpI u v = -1) := cmpI_lt (by have := hf.lt_of_nlen h; omega)
  go_enter Try.func56, Try.ntmps56
  go_wp2
  go_ret
  exact ⟨by rw [HC.out]; rfl, (by first | exact Below.refl _ _ | exact below_drewN (Below.refl _ _) _ | exact below_drewN (below_drewN (Below.refl _ _) _) _ | exact below_drewN (below_drewN (below_drewN (Below.refl _ _) _) _) _)⟩
 ·obtain ⟨m, hm⟩ : ∃ m, hf.nlen u = m := ⟨_, rfl⟩
  have hv := hf.nlen_lt v
  have hu := hf.nlen_lt u
  rw [← h] at hb hv k4 ⊢
  rw [hm] at ha hb hu hv k2 k4 ⊢
  have HU : Hid _ := hu
  have HV : Hid _ := hv
  clear hm hu hv h
  go_enter Try.func56, Try.ntmps56
  go_wp2
  go_loopw [5] (fun i wr => ∃ r : Nat, r ≤ m ∧ i = .int .i64 ((r : Int) - 1) ∧ Hid (∀ j, r ≤ j → j < m → hf.dg (u : Int) j = hf.dg (v : Int) j) ∧ ∃ n, wr = w.drewN n) (fun i _ => (intOf i + 1).toNat)
  case atStart => exact ⟨m, Nat.le_refl _, rfl, fun j h1 h2 => absurd h1 (by omega), 0, rfl⟩
  case round =>
   obtain ⟨r, hr, rfl, HR, n, rfl⟩ := hrel
   rcases r with _ | q
   ·have HE : Hid (cmpI u v = 0) := by
     obtain rfl : u = v := hf.eq_of_dcells m u v HU.out HV.out (fun j hj => HR.out j (Nat.zero_le _) hj)
     exact cmpI_self _
    go_wp2
    go_ret
    exact ⟨by rw [HE.out]; rfl, (by first | exact Below.refl _ _ | exact below_drewN (Below.refl _ _) _ | exact below_drewN (below_drewN (Below.refl _ _) _) _ | exact below_drewN (below_drewN (below_drewN (Below.refl _ _) _) _) _)⟩
   ·obtain ⟨ba, oa, rfl, hba, hsa⟩ := ha.at (by omega)
    obtain ⟨bb, ob, rfl, hbb, hsb⟩ := hb.at (by omega)
    have c1 : w.cell? ⟨ba, oa + q, none⟩ = some (.int .i64 (hf.dg u q)) := hsa.cell q _ (hf.dcells_at _ _ _ (by omega))
    have c2 : w.cell? ⟨bb, ob + q, none⟩ = some (.int .i64 (hf.dg v q)) := hsb.cell q _ (hf.dcells_at _ _ _ (by omega))
    have HT : Hid (u / 65536 ^ (q + 1) = v / 65536 ^ (q + 1)) := hf_top_eq (by omega) HU.out HV.out HR.out
    have e1 : ((q + 1 : Nat) : Int) - 1 = (q : Int) := by omega
    obtain ⟨X, hX⟩ : ∃ X, hf.dg (u : Int) q = X := ⟨_, rfl⟩
    obtain ⟨Y, hY⟩ : ∃ Y, hf.dg (v : Int) q = Y := ⟨_, rfl⟩
    rcases Int.lt_trichotomy X Y with l | l | l
    ·have HC : Hid (cmpI u v = -1) := cmpI_lt (by have := hf.lt_of_top HT.out (by rw [hX, hY]; exact l); omega)
     rw [hX] at c1
     rw [hY] at c2
     clear hX hY
     go_wp2
     go_quiet (fail)
     go_wp2
     go_ret
     exact ⟨by rw [HC.out]; rfl, (by first | exact Below.refl _ _ | exact below_drewN (Below.refl _ _) _ | exact below_drewN (below_drewN (Below.refl _ _) _) _ | exact below_drewN (below_drewN (below_drewN (Below.refl _ _) _) _) _)⟩
    ·have HQ : Hid (∀ j, q ≤ j → j < m → hf.dg (u : Int) j = hf.dg (v : Int) j) := fun j h1 h2 => by
      rcases Nat.lt_or_ge q j with h3 | h3
      ·exact HR.out j h3 h2
      ·obtain rfl : j = q := by omega
       rw [hX, hY, l]
     have l1 : ¬ X < Y := by omega
     have l2 : ¬ Y < X := by omega
     rw [hX] at c1
     rw [hY] at c2
     clear hX hY l
     go_wp2
     go_quiet (fail)
     go_wp2
     go_quiet (fail)
     go_wp2
     go_roundw
     case rel => exact ⟨q, by omega, by go_num, HQ.out, _, rfl⟩
     case measure => simp [intOf]
    ·have HC : Hid (cmpI u v = 1) := cmpI_gt (by have := hf.lt_of_top HT.out.symm (by rw [hX, hY]; exact l); omega)
     have l1 : ¬ X < Y := by omega
     rw [hX] at c1
     rw [hY] at c2
     clear hX hY
     go_wp2
     go_quiet (fail)
     go_wp2
     go_quiet (fail)
     go_wp2
     go_ret
     exact ⟨by rw [HC.out]; rfl, (by first | exact Below.refl _ _ | exact below_drewN (Below.refl _ _) _ | exact below_drewN (below_drewN (Below.refl _ _) _) _ | exact below_drewN (below_drewN (below_drewN (Below.refl _ _) _) _) _)⟩
 ·have HC : Hid (cmpI u v = 1) := cmpI_gt (by have := hf.lt_of_nlen h; omega)
  have h' : ¬ (hf.nlen u : Int) < hf.nlen v := by omega
  go_enter Try.func56, Try.ntmps56
  go_wp2
  go_ret
  exact ⟨by rw [HC.out]; rfl, (by first | exact Below.refl _ _ | exact below_drewN (Below.refl _ _) _ | exact below_drewN (below_drewN (Below.refl _ _) _) _ | exact below_drewN (below_drewN (below_drewN (Below.refl _ _) _) _) _)⟩

theorem push_next {w wr w2 w4 : World} {k cap cap' g' : Nat} {a : Option Addr} {V x : Int} (hx : x = hf.dg V k) (hown : Own wr w.heap.size 3 a k cap (hf.dcells k V)) (hbel : Below w.heap.size w wr)
  (h4 : w4.ownsRow w.heap.size 3 1 (.slice (some ⟨g', 0, none⟩) (k + 1) cap') (k + 1) (hf.dcells k V ++ [.int .i64 x]))
  (h2 : Below wr.heap.size wr w2) (hgr : w2.grownBy w4 (Value.slice a k cap).ownBlock) : Own w4 w.heap.size 3 (some ⟨g', 0, none⟩) (k + 1) cap' (hf.dcells (k + 1) V) ∧ Below w.heap.size w w4 := by
 have hs := hbel.size
 refine ⟨?_, (hbel.trans (h2.mono hs)).grown hgr (by have := h2.size; omega) (fun k' hk' => (World.ownsRow.lt hown k' hk').1)⟩
 rw [hf.dcells_succ, ← hx]
 exact h4
def RAddRel (w : World) (u v l : Nat) (o c i : Value) (wr : World) : Prop := ∃ (k cap : Nat) (ao : Option Addr), k ≤ l ∧ i = .int .i64 (k : Int) ∧ c = .int .i64 (hf.carry u v k) ∧ o = .slice ao k cap ∧ Own wr w.heap.size 3 ao k cap (hf.dcells k ((u : Int) + v)) ∧ Below w.heap.size w wr
theorem radd_next {w wr w2 w4 : World} {u v l k cap cap' g' : Nat} {ao : Option Addr} {x : Int} (hk : k < l) (hx : x = hf.carry u v k + hf.dg u k + hf.dg v k) (hown : Own wr w.heap.size 3 ao k cap (hf.dcells k ((u : Int) + v))) (hbel : Below w.heap.size w wr)
  (h4 : w4.ownsRow w.heap.size 3 1 (.slice (some ⟨g', 0, none⟩) (k + 1) cap') (k + 1) (hf.dcells k ((u : Int) + v) ++ [.int .i64 (x % 65536)]))
  (h2 : Below wr.heap.size wr w2) (hgr : w2.grownBy w4 (Value.slice ao k cap).ownBlock) : RAddRel w u v l (.slice (some ⟨g', 0, none⟩) (k + 1) cap') (.int .i64 (x / 65536)) (.int .i64 ((k : Int) + 1)) w4 := by
 obtain ⟨h5, h6⟩ := push_next (x := x % 65536) (by rw [hx, hf.add_digit]) hown hbel h4 h2 hgr
 exact ⟨k + 1, cap', _, hk, by simp, by rw [hf.carry_succ, hx], rfl, h5, h6⟩

set_option maxRecDepth 100000 in
set_option maxHeartbeats 2000000 in
theorem radd_any (a b : Option Addr) (ca cb u v : Nat) (w : World) (ha : Sl w a (hf.nlen u) ca (hf.dcells (hf.nlen u) (u : Int))) (hb : Sl w b (hf.nlen v) cb (hf.dcells (hf.nlen v) (v : Int))) (hlu : hf.nlen u ≤ 1000000000) (hlv : hf.nlen v ≤ 1000000000) :
  Calls Try.prog 55 #[.slice a (hf.nlen u) ca, .slice b (hf.nlen v) cb] w fun e w' => ∃ a' cap', e = .returned (.slice a' (hf.nlen (u + v)) cap') ∧ Own w' w.heap.size 3 a' (hf.nlen (u + v)) cap' (hf.dcells (hf.nlen (u + v)) ((u + v : Nat) : Int)) ∧ Below w.heap.size w w' := by
 obtain ⟨i0, hi0, hz0, hz1, hz2⟩ := info_parts infoInt
 have hown0 := own_empty w w.heap.size 3 (Nat.le_refl _)
 have hu := hf.nlen_lt u
 have hv := hf.nlen_lt v
 obtain ⟨lu, hlu'⟩ : ∃ l, hf.nlen u = l := ⟨_, rfl⟩
 obtain ⟨lv, hlv'⟩ : ∃ l, hf.nlen v = l := ⟨_, rfl⟩
 rw [hlu'] at ha hlu hu ⊢
 rw [hlv'] at hb hlv hv ⊢
 obtain ⟨L, hL1, hL2, hL3⟩ : ∃ L, lu ≤ L ∧ lv ≤ L ∧ (L ≤ lu ∨ L ≤ lv) := ⟨max lu lv, by omega, by omega, by omega⟩
 have HU : Hid (∀ k, lu ≤ k → hf.dg (u : Int) k = 0) := fun k hk => hf.dg_over (Nat.lt_of_lt_of_le hu (Nat.pow_le_pow_right (by decide) hk))
 have HV : Hid (∀ k, lv ≤ k → hf.dg (v : Int) k = 0) := fun k hk => hf.dg_over (Nat.lt_of_lt_of_le hv (Nat.pow_le_pow_right (by decide) hk))
 have HS : Hid (u + v < 65536 ^ (L + 1)) := by
  have h1 := Nat.pow_le_pow_right (n := 65536) (by decide) hL1
  have h2 := Nat.pow_le_pow_right (n := 65536) (by decide) hL2
  unfold Hid
  rw [Nat.pow_succ]; omega
 have HE : Hid ((u : Int) + v = ((u + v : Nat) : Int)) := by unfold Hid; omega
 clear hu hv hlu' hlv'
 go_enter Try.func55, Try.ntmps55
 go_wp2
 go_loopw [5, 6, 7] (fun o c i wr => RAddRel w u v L o c i wr) (fun _ _ i _ => L - (intOf i).toNat)
 case atStart => exact ⟨0, 0, _, by omega, rfl, by rw [hf.carry_zero], rfl, hown0, (Below.refl _ _).alloc (Nat.le_refl _) _⟩
 case round =>
  clear hown0
  obtain ⟨k, cap, ao, hk, rfl, rfl, rfl, hown, hbel⟩ := hrel
  have hsz := hbel.size
  obtain ⟨f0, f1⟩ := hf.carry_range u v k
  obtain ⟨d0, d1⟩ := hf.dg_range u k
  obtain ⟨e0, e1⟩ := hf.dg_range v k
  obtain ⟨C, hC⟩ : ∃ C, hf.carry (u : Int) v k = C := ⟨_, rfl⟩
  obtain ⟨X, hX⟩ : ∃ X, hf.dg (u : Int) k = X := ⟨_, rfl⟩
  obtain ⟨Y, hY⟩ : ∃ Y, hf.dg (v : Int) k = Y := ⟨_, rfl⟩
  rw [hC] at f0 f1
  rw [hX] at d0 d1
  rw [hY] at e0 e1
  by_cases h1 : k < lu
  ·obtain ⟨ba, oa, rfl, hba, hsa⟩ := ha.at (by omega)
   have r1 := ha.room
   have c1 : wr.cell? ⟨ba, oa + k, none⟩ = some (.int .i64 X) := (hbel.cell (p := ⟨ba, oa + k, none⟩) hba).trans (by rw [← hX]; exact hsa.cell k _ (hf.dcells_at _ _ _ h1))
   by_cases h2 : k < lv
   ·obtain ⟨bb, ob, rfl, hbb, hsb⟩ := hb.at (by omega)
    have r2 := hb.room
    have c2 : wr.cell? ⟨bb, ob + k, none⟩ = some (.int .i64 Y) := (hbel.cell (p := ⟨bb, ob + k, none⟩) hbb).trans (by rw [← hY]; exact hsb.cell k _ (hf.dcells_at _ _ _ h2))
    have HN : Hid _ := fun w2 w4 g' cap' => radd_next (l := L) (x := C + X + Y) (w2 := w2) (w4 := w4) (g' := g') (cap' := cap') (by omega) (by rw [hC, hX, hY]) hown hbel
    rw [hC]
    clear hC hX hY
    go_wp2_with (at_builtin; refine wpList_append_lies _ rfl (.tmp 41) (.tmp 44) 33 rfl w.heap.size 3 i0 (.int .i64 0) 1 8 Try.underlying33 hi0 hz0 hz1 hz2 rfl (by decide) (.slice ao k cap) (k) (hf.dcells k ((u : Int) + v)) rfl (World.ownsRow.alloc hown _) ⟨wr.heap.size, 0, none⟩ 1 1 [.int .i64 ((C + X + Y) % 65536)] rfl rfl (cell_one_new _ _ _) (ints_oneCell .i64 [(C + X + Y) % 65536]) (by decide) (by unfold maxLen; omega) (by omega) (by simp; omega) _ rfl ?_; intro g' cap' w4 hown4 hgrow4 hat4 hlt4)
    go_roundw
    case rel => exact HN.out _ w4 g' cap' hown4 ((Below.refl _ _).alloc (Nat.le_refl _) _) hgrow4
    case measure => simp [intOf]; omega
   ·have HN : Hid _ := fun w2 w4 g' cap' => radd_next (l := L) (x := C + X) (w2 := w2) (w4 := w4) (g' := g') (cap' := cap') (by omega) (by rw [hC, hX, HV.out k (by omega)]; omega) hown hbel
    have h2' : ¬ (k : Int) < lv := by omega
    rw [hC]
    clear hC hX hY
    go_wp2_with (at_builtin; refine wpList_append_lies _ rfl (.tmp 41) (.tmp 44) 33 rfl w.heap.size 3 i0 (.int .i64 0) 1 8 Try.underlying33 hi0 hz0 hz1 hz2 rfl (by decide) (.slice ao k cap) (k) (hf.dcells k ((u : Int) + v)) rfl (World.ownsRow.alloc hown _) ⟨wr.heap.size, 0, none⟩ 1 1 [.int .i64 ((C + X) % 65536)] rfl rfl (cell_one_new _ _ _) (ints_oneCell .i64 [(C + X) % 65536]) (by decide) (by unfold maxLen; omega) (by omega) (by simp; omega) _ rfl ?_; intro g' cap' w4 hown4 hgrow4 hat4 hlt4)
    go_roundw
    case rel => exact HN.out _ w4 g' cap' hown4 ((Below.refl _ _).alloc (Nat.le_refl _) _) hgrow4
    case measure => simp [intOf]; omega
  ·by_cases h2 : k < lv
   ·obtain ⟨bb, ob, rfl, hbb, hsb⟩ := hb.at (by omega)
    have r2 := hb.room
    have c2 : wr.cell? ⟨bb, ob + k, none⟩ = some (.int .i64 Y) := (hbel.cell (p := ⟨bb, ob + k, none⟩) hbb).trans (by rw [← hY]; exact hsb.cell k _ (hf.dcells_at _ _ _ h2))
    have HN : Hid _ := fun w2 w4 g' cap' => radd_next (l := L) (x := C + Y) (w2 := w2) (w4 := w4) (g' := g') (cap' := cap') (by omega) (by rw [hC, hY, HU.out k (by omega)]; omega) hown hbel
    have h1' : ¬ (k : Int) < lu := by omega
    rw [hC]
    clear hC hX hY
    go_wp2_with (at_builtin; refine wpList_append_lies _ rfl (.tmp 41) (.tmp 44) 33 rfl w.heap.size 3 i0 (.int .i64 0) 1 8 Try.underlying33 hi0 hz0 hz1 hz2 rfl (by decide) (.slice ao k cap) (k) (hf.dcells k ((u : Int) + v)) rfl (World.ownsRow.alloc hown _) ⟨wr.heap.size, 0, none⟩ 1 1 [.int .i64 ((C + Y) % 65536)] rfl rfl (cell_one_new _ _ _) (ints_oneCell .i64 [(C + Y) % 65536]) (by decide) (by unfold maxLen; omega) (by omega) (by simp; omega) _ rfl ?_; intro g' cap' w4 hown4 hgrow4 hat4 hlt4)
    go_roundw
    case rel => exact HN.out _ w4 g' cap' hown4 ((Below.refl _ _).alloc (Nat.le_refl _) _) hgrow4
    case measure => simp [intOf]; omega
   ·obtain rfl : k = L := by omega
    have HC2 : Hid (C = hf.dg ((u : Int) + v) k) := by
     have h := hf.add_digit u v k
     rw [hC, hX, hY] at h
     have hx0 := HU.out k (by omega)
     have hy0 := HV.out k (by omega)
     rw [hX] at hx0
     rw [hY] at hy0
     unfold Hid
     omega
    have h1' : ¬ (k : Int) < lu := by omega
    have h2' : ¬ (k : Int) < lv := by omega
    have HN : Hid _ := fun w2 w4 g' cap' => push_next (x := C) (w2 := w2) (w4 := w4) (g' := g') (cap' := cap') HC2.out hown hbel
    rw [hC]
    clear hC hX hY
    go_wp2_with (first
     | (at_builtin; refine wpList_append_lies _ rfl (.tmp 48) (.tmp 50) 33 rfl w.heap.size 3 i0 (.int .i64 0) 1 8 Try.underlying33 hi0 hz0 hz1 hz2 rfl (by decide) (.slice ao k cap) (k) (hf.dcells k ((u : Int) + v)) rfl (World.ownsRow.alloc hown _) ⟨wr.heap.size, 0, none⟩ 1 1 [.int .i64 (C)] rfl rfl (cell_one_new _ _ _) (ints_oneCell .i64 [C]) (by decide) (by unfold maxLen; omega) (by omega) (by simp; omega) _ rfl ?_; intro g' cap' w4 hown4 hgrow4 hat4 hlt4)
     | (go_at_call 68; have hnx := HN.out _ w4 g' cap' hown4 ((Below.refl _ _).alloc (Nat.le_refl _) _) hgrow4; rw [HE.out] at hnx; refine (rtrim_own _ _ _ (u + v) _ _ hnx.1 HS.out).mono ?_; rintro e w' ⟨rfl, hw, hown5⟩; subst hw))
    go_ret
    exact ⟨_, cap', rfl, hown5, hnx.2⟩

def RSubRel (w : World) (u v l : Nat) (o c i : Value) (wr : World) : Prop := ∃ (k cap : Nat) (ao : Option Addr), k ≤ l ∧ i = .int .i64 (k : Int) ∧ c = .int .i64 (hf.bw u v k) ∧ o = .slice ao k cap ∧ Own wr w.heap.size 3 ao k cap (hf.dcells k ((u : Int) - v)) ∧ Below w.heap.size w wr
theorem rsub_next {w wr w2 w4 : World} {u v l k cap cap' g' : Nat} {ao : Option Addr} {x c : Int} (hk : k < l) (hx : (x = hf.dg u k - hf.dg v k - hf.bw u v k ∧ 0 ≤ x ∧ c = 0) ∨ (x = hf.dg u k - hf.dg v k - hf.bw u v k + 65536 ∧ x < 65536 ∧ c = 1)) (hown : Own wr w.heap.size 3 ao k cap (hf.dcells k ((u : Int) - v))) (hbel : Below w.heap.size w wr)
  (h4 : w4.ownsRow w.heap.size 3 1 (.slice (some ⟨g', 0, none⟩) (k + 1) cap') (k + 1) (hf.dcells k ((u : Int) - v) ++ [.int .i64 x]))
  (h2 : Below wr.heap.size wr w2) (hgr : w2.grownBy w4 (Value.slice ao k cap).ownBlock) : RSubRel w u v l (.slice (some ⟨g', 0, none⟩) (k + 1) cap') (.int .i64 c) (.int .i64 ((k : Int) + 1)) w4 := by
 have d := hf.dg_range u k
 have e := hf.dg_range v k
 have f := hf.bw_range u v k
 have hd := hf.sub_digit u v k
 have hb := hf.bw_succ u v k
 obtain ⟨h5, h6⟩ := push_next (x := x) (by rw [← hd]; omega) hown hbel h4 h2 hgr
 refine ⟨k + 1, cap', _, hk, by simp, ?_, rfl, h5, h6⟩
 rw [← hb]
 unfold hf.bor
 rcases hx with ⟨h, h0, rfl⟩ | ⟨h, h0, rfl⟩
 ·rw [if_neg (by omega)]
 ·rw [if_pos (by omega)]
set_option maxRecDepth 100000 in
set_option maxHeartbeats 2000000 in
theorem rsub_any (a b : Option Addr) (ca cb u v : Nat) (w : World) (ha : Sl w a (hf.nlen u) ca (hf.dcells (hf.nlen u) (u : Int))) (hb : Sl w b (hf.nlen v) cb (hf.dcells (hf.nlen v) (v : Int))) (hlu : hf.nlen u ≤ 1000000000) (hlv : hf.nlen v ≤ 1000000000) (hle : v ≤ u) :
  Calls Try.prog 57 #[.slice a (hf.nlen u) ca, .slice b (hf.nlen v) cb] w fun e w' => ∃ a' cap', e = .returned (.slice a' (hf.nlen (u - v)) cap') ∧ Own w' w.heap.size 3 a' (hf.nlen (u - v)) cap' (hf.dcells (hf.nlen (u - v)) ((u - v : Nat) : Int)) ∧ Below w.heap.size w w' := by
 obtain ⟨i0, hi0, hz0, hz1, hz2⟩ := info_parts infoInt
 have hown0 := own_empty w w.heap.size 3 (Nat.le_refl _)
 have hu := hf.nlen_lt u
 have hv := hf.nlen_lt v
 obtain ⟨lu, hlu'⟩ : ∃ l, hf.nlen u = l := ⟨_, rfl⟩
 obtain ⟨lv, hlv'⟩ : ∃ l, hf.nlen v = l := ⟨_, rfl⟩
 rw [hlu'] at ha hlu hu ⊢
 rw [hlv'] at hb hlv hv ⊢
 have HV : Hid (∀ k, lv ≤ k → hf.dg (v : Int) k = 0) := fun k hk => hf.dg_over (Nat.lt_of_lt_of_le hv (Nat.pow_le_pow_right (by decide) hk))
 have HS : Hid (u - v < 65536 ^ lu) := by unfold Hid; omega
 have HE : Hid ((u : Int) - v = ((u - v : Nat) : Int)) := by unfold Hid; omega
 clear hu hv hlu' hlv' hle
 go_enter Try.func57, Try.ntmps57
 go_wp2
 go_loopw [5, 6, 7] (fun o c i wr => RSubRel w u v lu o c i wr) (fun _ _ i _ => lu - (intOf i).toNat)
 case atStart => exact ⟨0, 0, _, by omega, rfl, by rw [hf.bw_zero], rfl, hown0, (Below.refl _ _).alloc (Nat.le_refl _) _⟩
 case round =>
  clear hown0
  obtain ⟨k, cap, ao, hk, rfl, rfl, rfl, hown, hbel⟩ := hrel
  have hsz := hbel.size
  obtain ⟨f0, f1⟩ := hf.bw_range u v k
  obtain ⟨d0, d1⟩ := hf.dg_range u k
  obtain ⟨e0, e1⟩ := hf.dg_range v k
  obtain ⟨C, hC⟩ : ∃ C, hf.bw (u : Int) v k = C := ⟨_, rfl⟩
  obtain ⟨X, hX⟩ : ∃ X, hf.dg (u : Int) k = X := ⟨_, rfl⟩
  obtain ⟨Y, hY⟩ : ∃ Y, hf.dg (v : Int) k = Y := ⟨_, rfl⟩
  rw [hC] at f0 f1
  rw [hX] at d0 d1
  rw [hY] at e0 e1
  by_cases h1 : k < lu
  ·obtain ⟨ba, oa, rfl, hba, hsa⟩ := ha.at (by omega)
   have r1 := ha.room
   have c1 : wr.cell? ⟨ba, oa + k, none⟩ = some (.int .i64 X) := (hbel.cell (p := ⟨ba, oa + k, none⟩) hba).trans (by rw [← hX]; exact hsa.cell k _ (hf.dcells_at _ _ _ h1))
   by_cases h2 : k < lv
   ·obtain ⟨bb, ob, rfl, hbb, hsb⟩ := hb.at (by omega)
    have r2 := hb.room
    have c2 : wr.cell? ⟨bb, ob + k, none⟩ = some (.int .i64 Y) := (hbel.cell (p := ⟨bb, ob + k, none⟩) hbb).trans (by rw [← hY]; exact hsb.cell k _ (hf.dcells_at _ _ _ h2))
    by_cases hn : X - C - Y < 0
    ·have HN : Hid _ := fun w2 w4 g' cap' => rsub_next (l := lu) (c := 1) (x := X - C - Y + 65536) (w2 := w2) (w4 := w4) (g' := g') (cap' := cap') (by omega) (Or.inr ⟨by rw [hC, hX, hY]; omega, by omega, rfl⟩) hown hbel
     rw [hC]
     clear hC hX hY
     go_wp2_with (at_builtin; refine wpList_append_lies _ rfl (.tmp 36) (.tmp 38) 33 rfl w.heap.size 3 i0 (.int .i64 0) 1 8 Try.underlying33 hi0 hz0 hz1 hz2 rfl (by decide) (.slice ao k cap) (k) (hf.dcells k ((u : Int) - v)) rfl (World.ownsRow.alloc hown _) ⟨wr.heap.size, 0, none⟩ 1 1 [.int .i64 (X - C - Y + 65536)] rfl rfl (cell_one_new _ _ _) (ints_oneCell .i64 [X - C - Y + 65536]) (by decide) (by unfold maxLen; omega) (by omega) (by simp; omega) _ rfl ?_; intro g' cap' w4 hown4 hgrow4 hat4 hlt4)
     go_roundw
     case rel => exact HN.out _ w4 g' cap' hown4 ((Below.refl _ _).alloc (Nat.le_refl _) _) hgrow4
     case measure => simp [intOf]; omega
    ·have HN : Hid _ := fun w2 w4 g' cap' => rsub_next (l := lu) (c := 0) (x := X - C - Y) (w2 := w2) (w4 := w4) (g' := g') (cap' := cap') (by omega) (Or.inl ⟨by rw [hC, hX, hY]; omega, by omega, rfl⟩) hown hbel
     rw [hC]
     clear hC hX hY
     go_wp2_with (at_builtin; refine wpList_append_lies _ rfl (.tmp 36) (.tmp 38) 33 rfl w.heap.size 3 i0 (.int .i64 0) 1 8 Try.underlying33 hi0 hz0 hz1 hz2 rfl (by decide) (.slice ao k cap) (k) (hf.dcells k ((u : Int) - v)) rfl (World.ownsRow.alloc hown _) ⟨wr.heap.size, 0, none⟩ 1 1 [.int .i64 (X - C - Y)] rfl rfl (cell_one_new _ _ _) (ints_oneCell .i64 [X - C - Y]) (by decide) (by unfold maxLen; omega) (by omega) (by simp; omega) _ rfl ?_; intro g' cap' w4 hown4 hgrow4 hat4 hlt4)
     go_roundw
     case rel => exact HN.out _ w4 g' cap' hown4 ((Below.refl _ _).alloc (Nat.le_refl _) _) hgrow4
     case measure => simp [intOf]; omega
   ·have h2' : ¬ (k : Int) < lv := by omega
    have hY0 := HV.out k (by omega)
    by_cases hn : X - C < 0
    ·have HN : Hid _ := fun w2 w4 g' cap' => rsub_next (l := lu) (c := 1) (x := X - C + 65536) (w2 := w2) (w4 := w4) (g' := g') (cap' := cap') (by omega) (Or.inr ⟨by rw [hC, hX, hY0]; omega, by omega, rfl⟩) hown hbel
     rw [hC]
     clear hC hX hY hY0
     go_wp2_with (at_builtin; refine wpList_append_lies _ rfl (.tmp 36) (.tmp 38) 33 rfl w.heap.size 3 i0 (.int .i64 0) 1 8 Try.underlying33 hi0 hz0 hz1 hz2 rfl (by decide) (.slice ao k cap) (k) (hf.dcells k ((u : Int) - v)) rfl (World.ownsRow.alloc hown _) ⟨wr.heap.size, 0, none⟩ 1 1 [.int .i64 (X - C + 65536)] rfl rfl (cell_one_new _ _ _) (ints_oneCell .i64 [X - C + 65536]) (by decide) (by unfold maxLen; omega) (by omega) (by simp; omega) _ rfl ?_; intro g' cap' w4 hown4 hgrow4 hat4 hlt4)
     go_roundw
     case rel => exact HN.out _ w4 g' cap' hown4 ((Below.refl _ _).alloc (Nat.le_refl _) _) hgrow4
     case measure => simp [intOf]; omega
    ·have HN : Hid _ := fun w2 w4 g' cap' => rsub_next (l := lu) (c := 0) (x := X - C) (w2 := w2) (w4 := w4) (g' := g') (cap' := cap') (by omega) (Or.inl ⟨by rw [hC, hX, hY0]; omega, by omega, rfl⟩) hown hbel
     rw [hC]
     clear hC hX hY hY0
     go_wp2_with (at_builtin; refine wpList_append_lies _ rfl (.tmp 36) (.tmp 38) 33 rfl w.heap.size 3 i0 (.int .i64 0) 1 8 Try.underlying33 hi0 hz0 hz1 hz2 rfl (by decide) (.slice ao k cap) (k) (hf.dcells k ((u : Int) - v)) rfl (World.ownsRow.alloc hown _) ⟨wr.heap.size, 0, none⟩ 1 1 [.int .i64 (X - C)] rfl rfl (cell_one_new _ _ _) (ints_oneCell .i64 [X - C]) (by decide) (by unfold maxLen; omega) (by omega) (by simp; omega) _ rfl ?_; intro g' cap' w4 hown4 hgrow4 hat4 hlt4)
     go_roundw
     case rel => exact HN.out _ w4 g' cap' hown4 ((Below.refl _ _).alloc (Nat.le_refl _) _) hgrow4
     case measure => simp [intOf]; omega
  ·obtain rfl : k = lu := by omega
   rw [HE.out] at hown
   clear hC hX hY
   go_wp2_with (go_at_call 68; refine (rtrim_own _ _ _ (u - v) _ _ hown HS.out).mono ?_; rintro e w' ⟨rfl, hw, hown5⟩; subst hw)
   go_ret
   exact ⟨_, cap, rfl, hown5, hbel⟩
end Go.Proofs.Ytkmgndaholglhaa
