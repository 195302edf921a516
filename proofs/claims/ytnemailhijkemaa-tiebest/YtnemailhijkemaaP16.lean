/-
  Joined texts, part 16:
  Blocks of eight cells: what they hold. It imports nothing of the program.
  What zelligeref08's Best answers.
  A slice of points that comes as an argument, opened; and appended to an empty one.
-/
import Derived.Test.YtnemailhijkemaaP15
import Derived.Test.YtnemailhijkemaaP7
import Derived.Deep.SlicePairs
import Derived.Lib.AppendZeros
import Derived.ProofKit
import Derived.OpenShut
import Derived.ChangeSlices
import Derived.Lib.SmallJoins
namespace Go.Proofs.Ytnemailhijkemaa
open Go.RowKit
set_option linter.unusedVariables false

/-- A block of 8 cells. -/
structure B8 (w : World) (b : Nat) (x0 x1 x2 x3 x4 x5 x6 x7 : Value) : Prop where
  c0 : w.cell? ⟨b, 0, none⟩ = some x0
  c1 : w.cell? ⟨b, 1, none⟩ = some x1
  c2 : w.cell? ⟨b, 2, none⟩ = some x2
  c3 : w.cell? ⟨b, 3, none⟩ = some x3
  c4 : w.cell? ⟨b, 4, none⟩ = some x4
  c5 : w.cell? ⟨b, 5, none⟩ = some x5
  c6 : w.cell? ⟨b, 6, none⟩ = some x6
  c7 : w.cell? ⟨b, 7, none⟩ = some x7
  f0 : w.frozen? ⟨b, 0, none⟩ = false
  f1 : w.frozen? ⟨b, 1, none⟩ = false
  f2 : w.frozen? ⟨b, 2, none⟩ = false
  f3 : w.frozen? ⟨b, 3, none⟩ = false
  f4 : w.frozen? ⟨b, 4, none⟩ = false
  f5 : w.frozen? ⟨b, 5, none⟩ = false
  f6 : w.frozen? ⟨b, 6, none⟩ = false
  f7 : w.frozen? ⟨b, 7, none⟩ = false
theorem B8.on {w w' : World} {b : Nat} {x0 x1 x2 x3 x4 x5 x6 x7 : Value} (h : B8 w b x0 x1 x2 x3 x4 x5 x6 x7) (hb : Below w.heap.size w w') : B8 w' b x0 x1 x2 x3 x4 x5 x6 x7 := ⟨cell_on hb h.c0, cell_on hb h.c1, cell_on hb h.c2, cell_on hb h.c3, cell_on hb h.c4, cell_on hb h.c5, cell_on hb h.c6, cell_on hb h.c7, free_on hb h.c0 h.f0, free_on hb h.c1 h.f1, free_on hb h.c2 h.f2, free_on hb h.c3 h.f3, free_on hb h.c4 h.f4, free_on hb h.c5 h.f5, free_on hb h.c6 h.f6, free_on hb h.c7 h.f7⟩
theorem b8_new (w : World) (x0 x1 x2 x3 x4 x5 x6 x7 : Value) (t : TypeId) : B8 (w.alloc (.cells #[x0, x1, x2, x3, x4, x5, x6, x7] t)) w.heap.size x0 x1 x2 x3 x4 x5 x6 x7 := by
  have h := Row.new w [x0, x1, x2, x3, x4, x5, x6, x7] t
  exact ⟨h.cell 0 _ rfl, h.cell 1 _ rfl, h.cell 2 _ rfl, h.cell 3 _ rfl, h.cell 4 _ rfl, h.cell 5 _ rfl, h.cell 6 _ rfl, h.cell 7 _ rfl, h.free 0 (by simp), h.free 1 (by simp), h.free 2 (by simp), h.free 3 (by simp), h.free 4 (by simp), h.free 5 (by simp), h.free 6 (by simp), h.free 7 (by simp)⟩
theorem B8.put {w : World} {b k i : Nat} {x0 x1 x2 x3 x4 x5 x6 x7 v : Value} (h : B8 w b x0 x1 x2 x3 x4 x5 x6 x7) (hk : k ≠ b) : B8 (w.setCell ⟨k, i, none⟩ v) b x0 x1 x2 x3 x4 x5 x6 x7 := by
  refine ⟨?_, ?_, ?_, ?_, ?_, ?_, ?_, ?_, by rw [World.frozen?_setCell]; exact h.f0, by rw [World.frozen?_setCell]; exact h.f1, by rw [World.frozen?_setCell]; exact h.f2, by rw [World.frozen?_setCell]; exact h.f3, by rw [World.frozen?_setCell]; exact h.f4, by rw [World.frozen?_setCell]; exact h.f5, by rw [World.frozen?_setCell]; exact h.f6, by rw [World.frozen?_setCell]; exact h.f7⟩
  · rw [World.cell?_setCell_other _ _ _ _ (by intro q; simp only [Addr.mk.injEq] at q; omega)]; exact h.c0
  · rw [World.cell?_setCell_other _ _ _ _ (by intro q; simp only [Addr.mk.injEq] at q; omega)]; exact h.c1
  · rw [World.cell?_setCell_other _ _ _ _ (by intro q; simp only [Addr.mk.injEq] at q; omega)]; exact h.c2
  · rw [World.cell?_setCell_other _ _ _ _ (by intro q; simp only [Addr.mk.injEq] at q; omega)]; exact h.c3
  · rw [World.cell?_setCell_other _ _ _ _ (by intro q; simp only [Addr.mk.injEq] at q; omega)]; exact h.c4
  · rw [World.cell?_setCell_other _ _ _ _ (by intro q; simp only [Addr.mk.injEq] at q; omega)]; exact h.c5
  · rw [World.cell?_setCell_other _ _ _ _ (by intro q; simp only [Addr.mk.injEq] at q; omega)]; exact h.c6
  · rw [World.cell?_setCell_other _ _ _ _ (by intro q; simp only [Addr.mk.injEq] at q; omega)]; exact h.c7
theorem B8.set {w : World} {b : Nat} {x0 x1 x2 x3 x4 x5 x6 x7 u0 u1 u2 u3 u4 u5 u6 u7 : Value} (h : B8 w b x0 x1 x2 x3 x4 x5 x6 x7) : B8 ((((((((w.setCell ⟨b, 0, none⟩ u0).setCell ⟨b, 1, none⟩ u1).setCell ⟨b, 2, none⟩ u2).setCell ⟨b, 3, none⟩ u3).setCell ⟨b, 4, none⟩ u4).setCell ⟨b, 5, none⟩ u5).setCell ⟨b, 6, none⟩ u6).setCell ⟨b, 7, none⟩ u7) b u0 u1 u2 u3 u4 u5 u6 u7 := by
  refine ⟨?_, ?_, ?_, ?_, ?_, ?_, ?_, ?_, by simp only [World.frozen?_setCell]; exact h.f0, by simp only [World.frozen?_setCell]; exact h.f1, by simp only [World.frozen?_setCell]; exact h.f2, by simp only [World.frozen?_setCell]; exact h.f3, by simp only [World.frozen?_setCell]; exact h.f4, by simp only [World.frozen?_setCell]; exact h.f5, by simp only [World.frozen?_setCell]; exact h.f6, by simp only [World.frozen?_setCell]; exact h.f7⟩
  · rw [World.cell?_setCell_other _ _ _ _ (by intro q; simp only [Addr.mk.injEq] at q; omega)]; rw [World.cell?_setCell_other _ _ _ _ (by intro q; simp only [Addr.mk.injEq] at q; omega)]; rw [World.cell?_setCell_other _ _ _ _ (by intro q; simp only [Addr.mk.injEq] at q; omega)]; rw [World.cell?_setCell_other _ _ _ _ (by intro q; simp only [Addr.mk.injEq] at q; omega)]; rw [World.cell?_setCell_other _ _ _ _ (by intro q; simp only [Addr.mk.injEq] at q; omega)]; rw [World.cell?_setCell_other _ _ _ _ (by intro q; simp only [Addr.mk.injEq] at q; omega)]; rw [World.cell?_setCell_other _ _ _ _ (by intro q; simp only [Addr.mk.injEq] at q; omega)]; have hh : _ = some x0 := h.c0
    have h1 : w.cell? ⟨b, 0, none⟩ = some x0 := by
      exact hh
    exact World.cell?_setCell_same _ _ _ h1
  · rw [World.cell?_setCell_other _ _ _ _ (by intro q; simp only [Addr.mk.injEq] at q; omega)]; rw [World.cell?_setCell_other _ _ _ _ (by intro q; simp only [Addr.mk.injEq] at q; omega)]; rw [World.cell?_setCell_other _ _ _ _ (by intro q; simp only [Addr.mk.injEq] at q; omega)]; rw [World.cell?_setCell_other _ _ _ _ (by intro q; simp only [Addr.mk.injEq] at q; omega)]; rw [World.cell?_setCell_other _ _ _ _ (by intro q; simp only [Addr.mk.injEq] at q; omega)]; rw [World.cell?_setCell_other _ _ _ _ (by intro q; simp only [Addr.mk.injEq] at q; omega)]; have hh : _ = some x1 := h.c1
    have h1 : (w.setCell ⟨b, 0, none⟩ u0).cell? ⟨b, 1, none⟩ = some x1 := by
      rw [World.cell?_setCell_other _ _ _ _ (by intro q; simp only [Addr.mk.injEq] at q; omega)]; exact hh
    exact World.cell?_setCell_same _ _ _ h1
  · rw [World.cell?_setCell_other _ _ _ _ (by intro q; simp only [Addr.mk.injEq] at q; omega)]; rw [World.cell?_setCell_other _ _ _ _ (by intro q; simp only [Addr.mk.injEq] at q; omega)]; rw [World.cell?_setCell_other _ _ _ _ (by intro q; simp only [Addr.mk.injEq] at q; omega)]; rw [World.cell?_setCell_other _ _ _ _ (by intro q; simp only [Addr.mk.injEq] at q; omega)]; rw [World.cell?_setCell_other _ _ _ _ (by intro q; simp only [Addr.mk.injEq] at q; omega)]; have hh : _ = some x2 := h.c2
    have h1 : ((w.setCell ⟨b, 0, none⟩ u0).setCell ⟨b, 1, none⟩ u1).cell? ⟨b, 2, none⟩ = some x2 := by
      rw [World.cell?_setCell_other _ _ _ _ (by intro q; simp only [Addr.mk.injEq] at q; omega)]; rw [World.cell?_setCell_other _ _ _ _ (by intro q; simp only [Addr.mk.injEq] at q; omega)]; exact hh
    exact World.cell?_setCell_same _ _ _ h1
  · rw [World.cell?_setCell_other _ _ _ _ (by intro q; simp only [Addr.mk.injEq] at q; omega)]; rw [World.cell?_setCell_other _ _ _ _ (by intro q; simp only [Addr.mk.injEq] at q; omega)]; rw [World.cell?_setCell_other _ _ _ _ (by intro q; simp only [Addr.mk.injEq] at q; omega)]; rw [World.cell?_setCell_other _ _ _ _ (by intro q; simp only [Addr.mk.injEq] at q; omega)]; have hh : _ = some x3 := h.c3
    have h1 : (((w.setCell ⟨b, 0, none⟩ u0).setCell ⟨b, 1, none⟩ u1).setCell ⟨b, 2, none⟩ u2).cell? ⟨b, 3, none⟩ = some x3 := by
      rw [World.cell?_setCell_other _ _ _ _ (by intro q; simp only [Addr.mk.injEq] at q; omega)]; rw [World.cell?_setCell_other _ _ _ _ (by intro q; simp only [Addr.mk.injEq] at q; omega)]; rw [World.cell?_setCell_other _ _ _ _ (by intro q; simp only [Addr.mk.injEq] at q; omega)]; exact hh
    exact World.cell?_setCell_same _ _ _ h1
  · rw [World.cell?_setCell_other _ _ _ _ (by intro q; simp only [Addr.mk.injEq] at q; omega)]; rw [World.cell?_setCell_other _ _ _ _ (by intro q; simp only [Addr.mk.injEq] at q; omega)]; rw [World.cell?_setCell_other _ _ _ _ (by intro q; simp only [Addr.mk.injEq] at q; omega)]; have hh : _ = some x4 := h.c4
    have h1 : ((((w.setCell ⟨b, 0, none⟩ u0).setCell ⟨b, 1, none⟩ u1).setCell ⟨b, 2, none⟩ u2).setCell ⟨b, 3, none⟩ u3).cell? ⟨b, 4, none⟩ = some x4 := by
      rw [World.cell?_setCell_other _ _ _ _ (by intro q; simp only [Addr.mk.injEq] at q; omega)]; rw [World.cell?_setCell_other _ _ _ _ (by intro q; simp only [Addr.mk.injEq] at q; omega)]; rw [World.cell?_setCell_other _ _ _ _ (by intro q; simp only [Addr.mk.injEq] at q; omega)]; rw [World.cell?_setCell_other _ _ _ _ (by intro q; simp only [Addr.mk.injEq] at q; omega)]; exact hh
    exact World.cell?_setCell_same _ _ _ h1
  · rw [World.cell?_setCell_other _ _ _ _ (by intro q; simp only [Addr.mk.injEq] at q; omega)]; rw [World.cell?_setCell_other _ _ _ _ (by intro q; simp only [Addr.mk.injEq] at q; omega)]; have hh : _ = some x5 := h.c5
    have h1 : (((((w.setCell ⟨b, 0, none⟩ u0).setCell ⟨b, 1, none⟩ u1).setCell ⟨b, 2, none⟩ u2).setCell ⟨b, 3, none⟩ u3).setCell ⟨b, 4, none⟩ u4).cell? ⟨b, 5, none⟩ = some x5 := by
      rw [World.cell?_setCell_other _ _ _ _ (by intro q; simp only [Addr.mk.injEq] at q; omega)]; rw [World.cell?_setCell_other _ _ _ _ (by intro q; simp only [Addr.mk.injEq] at q; omega)]; rw [World.cell?_setCell_other _ _ _ _ (by intro q; simp only [Addr.mk.injEq] at q; omega)]; rw [World.cell?_setCell_other _ _ _ _ (by intro q; simp only [Addr.mk.injEq] at q; omega)]; rw [World.cell?_setCell_other _ _ _ _ (by intro q; simp only [Addr.mk.injEq] at q; omega)]; exact hh
    exact World.cell?_setCell_same _ _ _ h1
  · rw [World.cell?_setCell_other _ _ _ _ (by intro q; simp only [Addr.mk.injEq] at q; omega)]; have hh : _ = some x6 := h.c6
    have h1 : ((((((w.setCell ⟨b, 0, none⟩ u0).setCell ⟨b, 1, none⟩ u1).setCell ⟨b, 2, none⟩ u2).setCell ⟨b, 3, none⟩ u3).setCell ⟨b, 4, none⟩ u4).setCell ⟨b, 5, none⟩ u5).cell? ⟨b, 6, none⟩ = some x6 := by
      rw [World.cell?_setCell_other _ _ _ _ (by intro q; simp only [Addr.mk.injEq] at q; omega)]; rw [World.cell?_setCell_other _ _ _ _ (by intro q; simp only [Addr.mk.injEq] at q; omega)]; rw [World.cell?_setCell_other _ _ _ _ (by intro q; simp only [Addr.mk.injEq] at q; omega)]; rw [World.cell?_setCell_other _ _ _ _ (by intro q; simp only [Addr.mk.injEq] at q; omega)]; rw [World.cell?_setCell_other _ _ _ _ (by intro q; simp only [Addr.mk.injEq] at q; omega)]; rw [World.cell?_setCell_other _ _ _ _ (by intro q; simp only [Addr.mk.injEq] at q; omega)]; exact hh
    exact World.cell?_setCell_same _ _ _ h1
  · have hh : _ = some x7 := h.c7
    have h1 : (((((((w.setCell ⟨b, 0, none⟩ u0).setCell ⟨b, 1, none⟩ u1).setCell ⟨b, 2, none⟩ u2).setCell ⟨b, 3, none⟩ u3).setCell ⟨b, 4, none⟩ u4).setCell ⟨b, 5, none⟩ u5).setCell ⟨b, 6, none⟩ u6).cell? ⟨b, 7, none⟩ = some x7 := by
      rw [World.cell?_setCell_other _ _ _ _ (by intro q; simp only [Addr.mk.injEq] at q; omega)]; rw [World.cell?_setCell_other _ _ _ _ (by intro q; simp only [Addr.mk.injEq] at q; omega)]; rw [World.cell?_setCell_other _ _ _ _ (by intro q; simp only [Addr.mk.injEq] at q; omega)]; rw [World.cell?_setCell_other _ _ _ _ (by intro q; simp only [Addr.mk.injEq] at q; omega)]; rw [World.cell?_setCell_other _ _ _ _ (by intro q; simp only [Addr.mk.injEq] at q; omega)]; rw [World.cell?_setCell_other _ _ _ _ (by intro q; simp only [Addr.mk.injEq] at q; omega)]; rw [World.cell?_setCell_other _ _ _ _ (by intro q; simp only [Addr.mk.injEq] at q; omega)]; exact hh
    exact World.cell?_setCell_same _ _ _ h1
theorem B8.drew {w : World} {b : Nat} {x0 x1 x2 x3 x4 x5 x6 x7 : Value} (h : B8 w b x0 x1 x2 x3 x4 x5 x6 x7) : B8 w.drew b x0 x1 x2 x3 x4 x5 x6 x7 := ⟨h.c0, h.c1, h.c2, h.c3, h.c4, h.c5, h.c6, h.c7, h.f0, h.f1, h.f2, h.f3, h.f4, h.f5, h.f6, h.f7⟩
theorem B8.grown {w w' : World} {b g : Nat} {x0 x1 x2 x3 x4 x5 x6 x7 : Value} (h : B8 w b x0 x1 x2 x3 x4 x5 x6 x7) (hg : w.grownBy w' (some g)) (hne : b ≠ g) : B8 w' b x0 x1 x2 x3 x4 x5 x6 x7 := ⟨cell_far h.c0 hg hne, cell_far h.c1 hg hne, cell_far h.c2 hg hne, cell_far h.c3 hg hne, cell_far h.c4 hg hne, cell_far h.c5 hg hne, cell_far h.c6 hg hne, cell_far h.c7 hg hne, free_far h.c0 h.f0 hg hne, free_far h.c1 h.f1 hg hne, free_far h.c2 h.f2 hg hne, free_far h.c3 h.f3 hg hne, free_far h.c4 h.f4 hg hne, free_far h.c5 h.f5 hg hne, free_far h.c6 h.f6 hg hne, free_far h.c7 h.f7 hg hne⟩
theorem bs_6228 (w : World) (x00 x01 x02 x03 x04 x05 x10 x11 x20 x21 x30 x31 x32 x33 x34 x35 x36 x37 : Value) (t0 t1 t2 t3 : TypeId) : ∃ W, W = ((((w.alloc (.cells #[x00, x01, x02, x03, x04, x05] t0)).alloc (.cells #[x10, x11] t1)).alloc (.cells #[x20, x21] t2)).alloc (.cells #[x30, x31, x32, x33, x34, x35, x36, x37] t3)) ∧ Below w.heap.size w W ∧ B6 W (w.heap.size) x00 x01 x02 x03 x04 x05 ∧ Bx W (w.heap.size + 1) x10 x11 ∧ Bx W (w.heap.size + 1 + 1) x20 x21 ∧ B8 W (w.heap.size + 1 + 1 + 1) x30 x31 x32 x33 x34 x35 x36 x37 ∧ w.heap.size + 1 + 1 + 1 < W.heap.size := by
  have e0 : Below w.heap.size w (w.alloc (.cells #[x00, x01, x02, x03, x04, x05] t0)) := (Below.refl _ _).alloc (Nat.le_refl _) _
  have h0 := b6_new w x00 x01 x02 x03 x04 x05 t0
  have e1 : Below (w.alloc (.cells #[x00, x01, x02, x03, x04, x05] t0)).heap.size (w.alloc (.cells #[x00, x01, x02, x03, x04, x05] t0)) ((w.alloc (.cells #[x00, x01, x02, x03, x04, x05] t0)).alloc (.cells #[x10, x11] t1)) := (Below.refl _ _).alloc (Nat.le_refl _) _
  have h1 := bx_new (w.alloc (.cells #[x00, x01, x02, x03, x04, x05] t0)) x10 x11 t1
  rw [World.size_alloc] at h1
  have e2 : Below ((w.alloc (.cells #[x00, x01, x02, x03, x04, x05] t0)).alloc (.cells #[x10, x11] t1)).heap.size ((w.alloc (.cells #[x00, x01, x02, x03, x04, x05] t0)).alloc (.cells #[x10, x11] t1)) (((w.alloc (.cells #[x00, x01, x02, x03, x04, x05] t0)).alloc (.cells #[x10, x11] t1)).alloc (.cells #[x20, x21] t2)) := (Below.refl _ _).alloc (Nat.le_refl _) _
  have h2 := bx_new ((w.alloc (.cells #[x00, x01, x02, x03, x04, x05] t0)).alloc (.cells #[x10, x11] t1)) x20 x21 t2
  rw [World.size_alloc, World.size_alloc] at h2
  have e3 : Below (((w.alloc (.cells #[x00, x01, x02, x03, x04, x05] t0)).alloc (.cells #[x10, x11] t1)).alloc (.cells #[x20, x21] t2)).heap.size (((w.alloc (.cells #[x00, x01, x02, x03, x04, x05] t0)).alloc (.cells #[x10, x11] t1)).alloc (.cells #[x20, x21] t2)) ((((w.alloc (.cells #[x00, x01, x02, x03, x04, x05] t0)).alloc (.cells #[x10, x11] t1)).alloc (.cells #[x20, x21] t2)).alloc (.cells #[x30, x31, x32, x33, x34, x35, x36, x37] t3)) := (Below.refl _ _).alloc (Nat.le_refl _) _
  have h3 := b8_new (((w.alloc (.cells #[x00, x01, x02, x03, x04, x05] t0)).alloc (.cells #[x10, x11] t1)).alloc (.cells #[x20, x21] t2)) x30 x31 x32 x33 x34 x35 x36 x37 t3
  rw [World.size_alloc, World.size_alloc, World.size_alloc] at h3
  exact ⟨_, rfl, also (also (also (e0) e1) e2) e3, (((h0.on e1).on e2).on e3), ((h1.on e2).on e3), (h2.on e3), h3, by simp⟩
theorem b8_row {w : World} {b : Nat} {x0 x1 x2 x3 x4 x5 x6 x7 : Value} (h : Row w b [x0, x1, x2, x3, x4, x5, x6, x7]) : B8 w b x0 x1 x2 x3 x4 x5 x6 x7 := ⟨(h 0 _ rfl).1, (h 1 _ rfl).1, (h 2 _ rfl).1, (h 3 _ rfl).1, (h 4 _ rfl).1, (h 5 _ rfl).1, (h 6 _ rfl).1, (h 7 _ rfl).1, (h 0 _ rfl).2, (h 1 _ rfl).2, (h 2 _ rfl).2, (h 3 _ rfl).2, (h 4 _ rfl).2, (h 5 _ rfl).2, (h 6 _ rfl).2, (h 7 _ rfl).2⟩
theorem row_b8 {w : World} {b : Nat} {x0 x1 x2 x3 x4 x5 x6 x7 : Value} (h : B8 w b x0 x1 x2 x3 x4 x5 x6 x7) : Row w b [x0, x1, x2, x3, x4, x5, x6, x7] := fun j v hj => match j, hj with
  | 0, hj => by cases hj; exact ⟨h.c0, h.f0⟩
  | 1, hj => by cases hj; exact ⟨h.c1, h.f1⟩
  | 2, hj => by cases hj; exact ⟨h.c2, h.f2⟩
  | 3, hj => by cases hj; exact ⟨h.c3, h.f3⟩
  | 4, hj => by cases hj; exact ⟨h.c4, h.f4⟩
  | 5, hj => by cases hj; exact ⟨h.c5, h.f5⟩
  | 6, hj => by cases hj; exact ⟨h.c6, h.f6⟩
  | 7, hj => by cases hj; exact ⟨h.c7, h.f7⟩
  | k + 8, hj => by simp at hj
end Go.Proofs.Ytnemailhijkemaa

namespace Go.Proofs.Ytnemailhijkemaa
open Go.RowKit
set_option linter.unusedVariables false

/-- What the document asks of a point, of the list's first k points alone. -/
def inQ (a b : Pt) (L : List Pt) (c : Pt) (k : Nat) : Bool := leftQ a b c && (L.take k).all fun d => !leftQ a b d || !cfQ a b c d
theorem in_zero (a b : Pt) (L : List Pt) (c : Pt) : leftQ a b c = inQ a b L c 0 := by unfold inQ; simp
theorem in_step {a b c d : Pt} {L : List Pt} {k : Nat} (h : L[k]? = some d) : inQ a b L c (k + 1) = (inQ a b L c k && (!leftQ a b d || !cfQ a b c d)) := by
  unfold inQ
  rw [List.take_add_one, h, List.all_append, Bool.and_assoc]
  simp
theorem in_true {a b c d : Pt} {L : List Pt} {k : Nat} {v : Bool} (h : L[k]? = some d) (hk : true = inQ a b L c k) (hv : (!leftQ a b d || !cfQ a b c d) = v) : v = inQ a b L c (k + 1) := by
  rw [in_step h, ← hk, hv]; rfl
theorem in_no {a b c : Pt} {L : List Pt} {k : Nat} (h : false = inQ a b L c k) : okQ a b L c = false := by
  unfold inQ at h
  unfold okQ
  cases hl : leftQ a b c
  · rfl
  · rw [hl] at h
    have h2 : ((L.take k).all fun d => !leftQ a b d || !cfQ a b c d) = false := h.symm
    conv => lhs; rw [← List.take_append_drop k L]
    rw [List.all_append, h2]
    simp
theorem in_all {a b c : Pt} {L : List Pt} {n : Nat} (hn : L.length = n) (h : true = inQ a b L c n) : okQ a b L c = true := by
  unfold inQ at h
  rw [← hn, List.take_length] at h
  exact h.symm
theorem val_next (k : Nat) : Value.int .i64 ((k : Int) + 1) = Value.int .i64 ((k + 1 : Nat) : Int) := by simp
theorem meas_next {n k : Nat} (h : k < n) : n - (intOf (Value.int .i64 ((k : Int) + 1))).toNat < n - (intOf (Value.int .i64 (k : Int))).toNat := by simp [intOf]; omega
/-- None of the first i points is so. -/
def Nots (a b : Pt) (L : List Pt) (i : Nat) : Prop := ∀ j (hj : j < L.length), j < i → okQ a b L L[j] = false
theorem nots_next {a b c : Pt} {L : List Pt} {i : Nat} (h : Nots a b L i) (hi : L[i]? = some c) (hc : okQ a b L c = false) : Nots a b L (i + 1) := by
  intro j hj hji
  rcases Nat.lt_or_ge j i with h2 | h2
  · exact h j hj h2
  · obtain rfl : j = i := by omega
    rw [List.getElem?_eq_getElem hj] at hi
    rw [Option.some.inj hi]
    exact hc
theorem rb_found {a b c : Pt} {L : List Pt} {i : Nat} (h : Nots a b L i) (hi : L[i]? = some c) (hc : okQ a b L c = true) : rbQ a b L = (i : Int) := by
  obtain ⟨hl, e⟩ := List.getElem?_eq_some_iff.1 hi
  exact rb_at hl (by rw [e]; exact hc) h
theorem rb_nil {a b : Pt} {L : List Pt} {n : Nat} (hn : L.length = n) (h : Nots a b L n) : rbQ a b L = -1 := rb_none fun j hj => h j hj (by omega)
set_option maxRecDepth 100000 in
set_option maxHeartbeats 8000000 in
theorem rtBest (a1 a2 b1 b2 : Int) (s : Option Addr) (n cap : Nat) (L : List Pt) (w : World) (hL : PSl w s n cap L) (hn : n ≤ 1000000) (Ra : Hid (R2 (a1, a2))) (Rb : Hid (R2 (b1, b2))) (hR : ∀ (j : Nat) (x y : Int), L[j]? = some (x, y) → R2 (x, y)) {r : Int} (hr : r = rbQ (a1, a2) (b1, b2) L) :
    Calls Try.prog 16 #[.agg #[.int .i64 a1, .int .i64 a2], .agg #[.int .i64 b1, .int .i64 b2], .slice s n cap] w fun e w' => e = .returned (.int .i64 r) ∧ Below w.heap.size w w' := by
  have HR : Hid _ := hr
  have RL : Hid _ := hR
  have HN : Hid (L.length = n) := hL.len
  clear hr hR
  obtain ⟨W, hW, bW, x_a, x_b, sW⟩ := bs_22 w (.int .i64 a1) (.int .i64 a2) (.int .i64 b1) (.int .i64 b2) 23 23
  have zbW := bW.size
  have BB := bW
  go_enter Try.func16, Try.ntmps16
  go_wp2
  rw [← hW]
  clear hW
  go_loopw [7] (fun iv wr => ∃ i : Nat, i ≤ n ∧ iv = .int .i64 (i : Int) ∧ Hid (Nots (a1, a2) (b1, b2) L i) ∧ Bx wr w.heap.size (.int .i64 a1) (.int .i64 a2) ∧ Bx wr (w.heap.size + 1) (.int .i64 b1) (.int .i64 b2) ∧ Below w.heap.size w wr) (fun iv _ => n - (intOf iv).toNat)
  case atStart => exact ⟨0, by omega, rfl, fun j _ h => absurd h (Nat.not_lt_zero j), x_a, x_b, BB⟩
  case round =>
    clear x_a x_b BB
    obtain ⟨i, hi, rfl, hno, x_a, x_b, BB⟩ := hrel
    by_cases hlt : i < n
    · skip
      obtain ⟨bl, ofs, x, y, rfl, hbl, hxy, hpc⟩ := (hL.below BB).at hlt
      have x_e := hpc i x y hxy
      have hw : wrap64 ((i : Int) + 1) = (i : Int) + 1 := wrap_in (by omega) (by omega)
      have hlt' : (i : Int) < (n : Int) := by omega
      have HXY : Hid _ := hxy
      have RX : Hid (R2 (x, y)) := RL.out _ _ _ hxy
      clear hxy hpc
      obtain ⟨q0, hq0⟩ : ∃ q, q = leftQ (a1, a2) (b1, b2) (x, y) := ⟨_, rfl⟩
      have Q0 : Hid _ := hq0
      clear hq0
      have zb0 := bx_lt x_b
      obtain ⟨wo, rfl⟩ : ∃ wo : World, wo = wr := ⟨_, rfl⟩
      go_wp2
      have dd1 : Below wo.heap.size wo wo.drew := (Below.refl _ _).drew
      have zdd1 := dd1.size
      replace x_a := x_a.on dd1
      replace x_b := x_b.on dd1
      replace BB := also BB dd1
      replace x_e := x_e.on dd1
      refine wp_region_held_drew (S := (fun w' => w'.cell? ⟨w.heap.size, 0, none⟩ = some (.int .i64 a1) ∧ w'.cell? ⟨w.heap.size, 1, none⟩ = some (.int .i64 a2) ∧ w'.cell? ⟨w.heap.size + 1, 0, none⟩ = some (.int .i64 b1) ∧ w'.cell? ⟨w.heap.size + 1, 1, none⟩ = some (.int .i64 b2) ∧ w'.cell? ⟨bl, ofs + i * 2, none⟩ = some (.int .i64 x) ∧ w'.cell? ⟨bl, ofs + i * 2 + 1, none⟩ = some (.int .i64 y) ∧ Below w.heap.size w w')) (by kernel_rfl) ?_ (fun hHeld => ?_)
      · exact ⟨x_a.c0, x_a.c1, x_b.c0, x_b.c1, x_e.c0, x_e.c1, BB⟩
      refine take_yes (i := 0) (v := ?vso0) rfl (by kernel_rfl) (by kernel_rfl) (by kernel_rfl) (fun _ _ _ h => h) (by rfl) (by assumption) ?hyso0 ?restso0
      case hyso0 => (intro w hSw; (try dsimp only at hSw); first | (go_simp; done) | (go_simp; with_reducible rfl))
      simp only [Act.put, List.setIfInBounds_toArray, List.set_cons_zero, List.set_cons_succ]
      refine take_yes (i := 1) (v := ?vso1) rfl (by kernel_rfl) (by kernel_rfl) (by kernel_rfl) (fun _ _ _ h => h) (by rfl) (by assumption) ?hyso1 ?restso1
      case hyso1 => (intro w hSw; (try dsimp only at hSw); first | (go_simp; done) | (go_simp; with_reducible rfl))
      simp only [Act.put, List.setIfInBounds_toArray, List.set_cons_zero, List.set_cons_succ]
      refine take_yes (i := 2) (v := ?vso2) rfl (by kernel_rfl) (by kernel_rfl) (by kernel_rfl) (fun _ _ _ h => h) (by rfl) (by assumption) ?hyso2 ?restso2
      case hyso2 => (intro w hSw; (try dsimp only at hSw); first | (go_simp; done) | (go_simp; with_reducible rfl))
      simp only [Act.put, List.setIfInBounds_toArray, List.set_cons_zero, List.set_cons_succ]
      refine take_yes (i := 3) (v := ?vso3) rfl (by kernel_rfl) (by kernel_rfl) (by kernel_rfl) (fun _ _ _ h => h) (by rfl) (by assumption) ?hyso3 ?restso3
      case hyso3 => (intro w hSw; (try dsimp only at hSw); first | (go_simp; done) | (go_simp; with_reducible rfl))
      simp only [Act.put, List.setIfInBounds_toArray, List.set_cons_zero, List.set_cons_succ]
      refine take_yes (i := 4) (v := ?vso4) rfl (by kernel_rfl) (by kernel_rfl) (by kernel_rfl) (fun _ _ _ h => h) (by rfl) (by assumption) ?hyso4 ?restso4
      case hyso4 => (intro w hSw; (try dsimp only at hSw); first | (go_simp; done) | (go_simp; with_reducible rfl))
      simp only [Act.put, List.setIfInBounds_toArray, List.set_cons_zero, List.set_cons_succ]
      refine take_yes (i := 5) (v := ?vso5) rfl (by kernel_rfl) (by kernel_rfl) (by kernel_rfl) (fun _ _ _ h => h) (by rfl) (by assumption) ?hyso5 ?restso5
      case hyso5 => (intro w hSw; (try dsimp only at hSw); first | (go_simp; done) | (go_simp; with_reducible rfl))
      simp only [Act.put, List.setIfInBounds_toArray, List.set_cons_zero, List.set_cons_succ]
      refine take_call (i := 6) rfl (by kernel_rfl) (fun Kc hK => ?_)
      go_simp
      (go_at_call 15; refine (rtLeft a1 a2 b1 b2 x y _ Ra Rb RX Q0.out).mono ?_; rintro e w1 ⟨rfl, bw1⟩)
      refine hK.out _ _ ?_ (fun hHeld => ?_)
      · exact ⟨cell_on bw1 hHeld.1, cell_on bw1 hHeld.2.1, cell_on bw1 hHeld.2.2.1, cell_on bw1 hHeld.2.2.2.1, cell_on bw1 hHeld.2.2.2.2.1, cell_on bw1 hHeld.2.2.2.2.2.1, also hHeld.2.2.2.2.2.2 bw1⟩
      clear hK Kc
      have zbw1 := bw1.size
      replace x_a := x_a.on bw1
      replace x_b := x_b.on bw1
      replace BB := also BB bw1
      replace x_e := x_e.on bw1
      refine take_yes (i := 7) (v := ?vso7) rfl (by kernel_rfl) (by kernel_rfl) (by kernel_rfl) (fun _ _ _ h => h) (by rfl) (by assumption) ?hyso7 ?restso7
      case hyso7 => (intro w hSw; (try dsimp only at hSw); first | (go_simp; done) | (go_simp; with_reducible rfl))
      simp only [Act.put, List.setIfInBounds_toArray, List.set_cons_zero, List.set_cons_succ]
      refine wpAnyH_done (by kernel_rfl) ?_ _
      go_wp2
      go_loopw [8, 9] (fun qv kv wr => ∃ (k : Nat) (q : Bool), k ≤ n ∧ kv = .int .i64 (k : Int) ∧ qv = .bool q ∧ Hid (q = inQ (a1, a2) (b1, b2) L (x, y) k) ∧ Bx wr w.heap.size (.int .i64 a1) (.int .i64 a2) ∧ Bx wr (w.heap.size + 1) (.int .i64 b1) (.int .i64 b2) ∧ Below w.heap.size w wr) (fun _ kv _ => n - (intOf kv).toNat)
      case atStart => exact ⟨0, _, by omega, rfl, rfl, Q0.out.trans (in_zero _ _ _ _), x_a, x_b, BB⟩
      case round =>
        clear x_a x_b x_e BB
        obtain ⟨k, q, hk, rfl, rfl, hq, x_a, x_b, BB⟩ := hrel
        cases q
        · by_cases hlt2 : (k : Int) < (n : Int)
          · go_wp2
            go_roundw
            case rel => exact ⟨i + 1, by omega, by simp, nots_next hno.out HXY.out (in_no hq.out), x_a, x_b, BB⟩
            case measure => simp [intOf]; omega
          · go_wp2
            go_roundw
            case rel => exact ⟨i + 1, by omega, by simp, nots_next hno.out HXY.out (in_no hq.out), x_a, x_b, BB⟩
            case measure => simp [intOf]; omega
        · by_cases hlt2 : k < n
          · obtain ⟨bl', ofs', u, v, e', _, huv, hpc⟩ := (hL.below BB).at hlt2
            obtain ⟨rfl, rfl⟩ : bl = bl' ∧ ofs = ofs' := by simp at e'; exact e'
            clear e'
            have x_e := hpc i x y HXY.out
            have x_l := hpc k u v huv
            have hlt2' : (k : Int) < (n : Int) := Int.ofNat_lt.2 hlt2
            have HUV : Hid _ := huv
            have RU : Hid (R2 (u, v)) := RL.out _ _ _ huv
            clear huv hpc
            cases hl : leftQ (a1, a2) (b1, b2) (u, v)
            · skip
              have zb := bx_lt x_b
              have HL : Hid _ := hl
              clear hl
              go_wp2
              have dd1 : Below wr.heap.size wr wr.drew := (Below.refl _ _).drew
              have zdd1 := dd1.size
              replace x_a := x_a.on dd1
              replace x_b := x_b.on dd1
              replace BB := also BB dd1
              replace x_e := x_e.on dd1
              replace x_l := x_l.on dd1
              refine wp_region_held_drew (S := (fun w' => w'.cell? ⟨w.heap.size, 0, none⟩ = some (.int .i64 a1) ∧ w'.cell? ⟨w.heap.size, 1, none⟩ = some (.int .i64 a2) ∧ w'.cell? ⟨w.heap.size + 1, 0, none⟩ = some (.int .i64 b1) ∧ w'.cell? ⟨w.heap.size + 1, 1, none⟩ = some (.int .i64 b2) ∧ w'.cell? ⟨bl, ofs + i * 2, none⟩ = some (.int .i64 x) ∧ w'.cell? ⟨bl, ofs + i * 2 + 1, none⟩ = some (.int .i64 y) ∧ w'.cell? ⟨bl, ofs + k * 2, none⟩ = some (.int .i64 u) ∧ w'.cell? ⟨bl, ofs + k * 2 + 1, none⟩ = some (.int .i64 v) ∧ Below w.heap.size w w')) (by kernel_rfl) ?_ (fun hHeld => ?_)
              · exact ⟨x_a.c0, x_a.c1, x_b.c0, x_b.c1, x_e.c0, x_e.c1, x_l.c0, x_l.c1, BB⟩
              refine take_yes (i := 0) (v := ?vsino0) rfl (by kernel_rfl) (by kernel_rfl) (by kernel_rfl) (fun _ _ _ h => h) (by rfl) (by assumption) ?hysino0 ?restsino0
              case hysino0 => (intro w hSw; (try dsimp only at hSw); first | (go_simp; done) | (go_simp; with_reducible rfl))
              simp only [Act.put, List.setIfInBounds_toArray, List.set_cons_zero, List.set_cons_succ]
              refine take_yes (i := 1) (v := ?vsino1) rfl (by kernel_rfl) (by kernel_rfl) (by kernel_rfl) (fun _ _ _ h => h) (by rfl) (by assumption) ?hysino1 ?restsino1
              case hysino1 => (intro w hSw; (try dsimp only at hSw); first | (go_simp; done) | (go_simp; with_reducible rfl))
              simp only [Act.put, List.setIfInBounds_toArray, List.set_cons_zero, List.set_cons_succ]
              refine take_yes (i := 2) (v := ?vsino2) rfl (by kernel_rfl) (by kernel_rfl) (by kernel_rfl) (fun _ _ _ h => h) (by rfl) (by assumption) ?hysino2 ?restsino2
              case hysino2 => (intro w hSw; (try dsimp only at hSw); first | (go_simp; done) | (go_simp; with_reducible rfl))
              simp only [Act.put, List.setIfInBounds_toArray, List.set_cons_zero, List.set_cons_succ]
              refine take_yes (i := 3) (v := ?vsino3) rfl (by kernel_rfl) (by kernel_rfl) (by kernel_rfl) (fun _ _ _ h => h) (by rfl) (by assumption) ?hysino3 ?restsino3
              case hysino3 => (intro w hSw; (try dsimp only at hSw); first | (go_simp; done) | (go_simp; with_reducible rfl))
              simp only [Act.put, List.setIfInBounds_toArray, List.set_cons_zero, List.set_cons_succ]
              refine take_yes (i := 4) (v := ?vsino4) rfl (by kernel_rfl) (by kernel_rfl) (by kernel_rfl) (fun _ _ _ h => h) (by rfl) (by assumption) ?hysino4 ?restsino4
              case hysino4 => (intro w hSw; (try dsimp only at hSw); first | (go_simp; done) | (go_simp; with_reducible rfl))
              simp only [Act.put, List.setIfInBounds_toArray, List.set_cons_zero, List.set_cons_succ]
              refine take_yes (i := 5) (v := ?vsino5) rfl (by kernel_rfl) (by kernel_rfl) (by kernel_rfl) (fun _ _ _ h => h) (by rfl) (by assumption) ?hysino5 ?restsino5
              case hysino5 => (intro w hSw; (try dsimp only at hSw); first | (go_simp; done) | (go_simp; with_reducible rfl))
              simp only [Act.put, List.setIfInBounds_toArray, List.set_cons_zero, List.set_cons_succ]
              refine take_call (i := 6) rfl (by kernel_rfl) (fun Kc hK => ?_)
              go_simp
              (go_at_call 15; refine (rtLeft a1 a2 b1 b2 u v _ Ra Rb RU HL.out.symm).mono ?_; rintro e w2 ⟨rfl, bw2⟩)
              refine hK.out _ _ ?_ (fun hHeld => ?_)
              · exact ⟨cell_on bw2 hHeld.1, cell_on bw2 hHeld.2.1, cell_on bw2 hHeld.2.2.1, cell_on bw2 hHeld.2.2.2.1, cell_on bw2 hHeld.2.2.2.2.1, cell_on bw2 hHeld.2.2.2.2.2.1, cell_on bw2 hHeld.2.2.2.2.2.2.1, cell_on bw2 hHeld.2.2.2.2.2.2.2.1, also hHeld.2.2.2.2.2.2.2.2 bw2⟩
              clear hK Kc
              have zbw2 := bw2.size
              replace x_a := x_a.on bw2
              replace x_b := x_b.on bw2
              replace BB := also BB bw2
              replace x_e := x_e.on bw2
              replace x_l := x_l.on bw2
              refine take_yes (i := 7) (v := ?vsino7) rfl (by kernel_rfl) (by kernel_rfl) (by kernel_rfl) (fun _ _ _ h => h) (by rfl) (by assumption) ?hysino7 ?restsino7
              case hysino7 => (intro w hSw; (try dsimp only at hSw); first | (go_simp; done) | (go_simp; with_reducible rfl))
              simp only [Act.put, List.setIfInBounds_toArray, List.set_cons_zero, List.set_cons_succ]
              refine take_yes (i := 8) (v := ?vsino8) rfl (by kernel_rfl) (by kernel_rfl) (by kernel_rfl) (fun _ _ _ h => h) (by rfl) (by assumption) ?hysino8 ?restsino8
              case hysino8 => (intro w hSw; (try dsimp only at hSw); first | (go_simp; done) | (go_simp; with_reducible rfl))
              simp only [Act.put, List.setIfInBounds_toArray, List.set_cons_zero, List.set_cons_succ]
              refine take_no (i := 9) rfl (by kernel_rfl) (by kernel_rfl) (by kernel_rfl) (fun _ _ _ h => h) (by rfl) (by assumption) ?_
              simp only [Act.put, List.setIfInBounds_toArray, List.set_cons_zero, List.set_cons_succ]
              refine take_no (i := 10) rfl (by kernel_rfl) (by kernel_rfl) (by kernel_rfl) (fun _ _ _ h => h) (by rfl) (by assumption) ?_
              simp only [Act.put, List.setIfInBounds_toArray, List.set_cons_zero, List.set_cons_succ]
              refine take_no (i := 11) rfl (by kernel_rfl) (by kernel_rfl) (by kernel_rfl) (fun _ _ _ h => h) (by rfl) (by assumption) ?_
              simp only [Act.put, List.setIfInBounds_toArray, List.set_cons_zero, List.set_cons_succ]
              refine take_no (i := 12) rfl (by kernel_rfl) (by kernel_rfl) (by kernel_rfl) (fun _ _ _ h => h) (by rfl) (by assumption) ?_
              simp only [Act.put, List.setIfInBounds_toArray, List.set_cons_zero, List.set_cons_succ]
              refine take_no (i := 13) rfl (by kernel_rfl) (by kernel_rfl) (by kernel_rfl) (fun _ _ _ h => h) (by rfl) (by assumption) ?_
              simp only [Act.put, List.setIfInBounds_toArray, List.set_cons_zero, List.set_cons_succ]
              refine take_no (i := 14) rfl (by kernel_rfl) (by kernel_rfl) (by kernel_rfl) (fun _ _ _ h => h) (by rfl) (by assumption) ?_
              simp only [Act.put, List.setIfInBounds_toArray, List.set_cons_zero, List.set_cons_succ]
              refine take_no (i := 15) rfl (by kernel_rfl) (by kernel_rfl) (by kernel_rfl) (fun _ _ _ h => h) (by rfl) (by assumption) ?_
              simp only [Act.put, List.setIfInBounds_toArray, List.set_cons_zero, List.set_cons_succ]
              refine take_no (i := 16) rfl (by kernel_rfl) (by kernel_rfl) (by kernel_rfl) (fun _ _ _ h => h) (by rfl) (by assumption) ?_
              simp only [Act.put, List.setIfInBounds_toArray, List.set_cons_zero, List.set_cons_succ]
              refine take_no (i := 17) rfl (by kernel_rfl) (by kernel_rfl) (by kernel_rfl) (fun _ _ _ h => h) (by rfl) (by assumption) ?_
              simp only [Act.put, List.setIfInBounds_toArray, List.set_cons_zero, List.set_cons_succ]
              refine take_no (i := 18) rfl (by kernel_rfl) (by kernel_rfl) (by kernel_rfl) (fun _ _ _ h => h) (by rfl) (by assumption) ?_
              simp only [Act.put, List.setIfInBounds_toArray, List.set_cons_zero, List.set_cons_succ]
              refine take_no (i := 19) rfl (by kernel_rfl) (by kernel_rfl) (by kernel_rfl) (fun _ _ _ h => h) (by rfl) (by assumption) ?_
              simp only [Act.put, List.setIfInBounds_toArray, List.set_cons_zero, List.set_cons_succ]
              refine take_no (i := 20) rfl (by kernel_rfl) (by kernel_rfl) (by kernel_rfl) (fun _ _ _ h => h) (by rfl) (by assumption) ?_
              simp only [Act.put, List.setIfInBounds_toArray, List.set_cons_zero, List.set_cons_succ]
              refine take_yes (i := 21) (v := ?vsino21) rfl (by kernel_rfl) (by kernel_rfl) (by kernel_rfl) (fun _ _ _ h => h) (by rfl) (by assumption) ?hysino21 ?restsino21
              case hysino21 => (intro w hSw; (try dsimp only at hSw); first | (go_simp; done) | (go_simp; with_reducible rfl))
              simp only [Act.put, List.setIfInBounds_toArray, List.set_cons_zero, List.set_cons_succ]
              refine take_yes (i := 22) (v := ?vsino22) rfl (by kernel_rfl) (by kernel_rfl) (by kernel_rfl) (fun _ _ _ h => h) (by rfl) (by assumption) ?hysino22 ?restsino22
              case hysino22 => (intro w hSw; (try dsimp only at hSw); first | (go_simp; done) | (go_simp; with_reducible rfl))
              simp only [Act.put, List.setIfInBounds_toArray, List.set_cons_zero, List.set_cons_succ]
              refine wpAnyH_done (by kernel_rfl) ?_ _
              go_wp2
              go_roundw
              case rel => exact ⟨k + 1, _, hlt2, val_next k, rfl, in_true HUV.out hq.out (by rw [HL.out]; rfl), x_a, x_b, BB⟩
              case measure => exact meas_next hlt2
            · cases hcf : cfQ (a1, a2) (b1, b2) (x, y) (u, v)
              · skip
                have zb := bx_lt x_b
                have HL : Hid _ := hl
                clear hl
                have HC : Hid _ := hcf
                clear hcf
                go_wp2
                have dd1 : Below wr.heap.size wr wr.drew := (Below.refl _ _).drew
                have zdd1 := dd1.size
                replace x_a := x_a.on dd1
                replace x_b := x_b.on dd1
                replace BB := also BB dd1
                replace x_e := x_e.on dd1
                replace x_l := x_l.on dd1
                refine wp_region_held_drew (S := (fun w' => w'.cell? ⟨w.heap.size, 0, none⟩ = some (.int .i64 a1) ∧ w'.cell? ⟨w.heap.size, 1, none⟩ = some (.int .i64 a2) ∧ w'.cell? ⟨w.heap.size + 1, 0, none⟩ = some (.int .i64 b1) ∧ w'.cell? ⟨w.heap.size + 1, 1, none⟩ = some (.int .i64 b2) ∧ w'.cell? ⟨bl, ofs + i * 2, none⟩ = some (.int .i64 x) ∧ w'.cell? ⟨bl, ofs + i * 2 + 1, none⟩ = some (.int .i64 y) ∧ w'.cell? ⟨bl, ofs + k * 2, none⟩ = some (.int .i64 u) ∧ w'.cell? ⟨bl, ofs + k * 2 + 1, none⟩ = some (.int .i64 v) ∧ Below w.heap.size w w')) (by kernel_rfl) ?_ (fun hHeld => ?_)
                · exact ⟨x_a.c0, x_a.c1, x_b.c0, x_b.c1, x_e.c0, x_e.c1, x_l.c0, x_l.c1, BB⟩
                refine take_yes (i := 0) (v := ?vsimfalse0) rfl (by kernel_rfl) (by kernel_rfl) (by kernel_rfl) (fun _ _ _ h => h) (by rfl) (by assumption) ?hysimfalse0 ?restsimfalse0
                case hysimfalse0 => (intro w hSw; (try dsimp only at hSw); first | (go_simp; done) | (go_simp; with_reducible rfl))
                simp only [Act.put, List.setIfInBounds_toArray, List.set_cons_zero, List.set_cons_succ]
                refine take_yes (i := 1) (v := ?vsimfalse1) rfl (by kernel_rfl) (by kernel_rfl) (by kernel_rfl) (fun _ _ _ h => h) (by rfl) (by assumption) ?hysimfalse1 ?restsimfalse1
                case hysimfalse1 => (intro w hSw; (try dsimp only at hSw); first | (go_simp; done) | (go_simp; with_reducible rfl))
                simp only [Act.put, List.setIfInBounds_toArray, List.set_cons_zero, List.set_cons_succ]
                refine take_yes (i := 2) (v := ?vsimfalse2) rfl (by kernel_rfl) (by kernel_rfl) (by kernel_rfl) (fun _ _ _ h => h) (by rfl) (by assumption) ?hysimfalse2 ?restsimfalse2
                case hysimfalse2 => (intro w hSw; (try dsimp only at hSw); first | (go_simp; done) | (go_simp; with_reducible rfl))
                simp only [Act.put, List.setIfInBounds_toArray, List.set_cons_zero, List.set_cons_succ]
                refine take_yes (i := 3) (v := ?vsimfalse3) rfl (by kernel_rfl) (by kernel_rfl) (by kernel_rfl) (fun _ _ _ h => h) (by rfl) (by assumption) ?hysimfalse3 ?restsimfalse3
                case hysimfalse3 => (intro w hSw; (try dsimp only at hSw); first | (go_simp; done) | (go_simp; with_reducible rfl))
                simp only [Act.put, List.setIfInBounds_toArray, List.set_cons_zero, List.set_cons_succ]
                refine take_yes (i := 4) (v := ?vsimfalse4) rfl (by kernel_rfl) (by kernel_rfl) (by kernel_rfl) (fun _ _ _ h => h) (by rfl) (by assumption) ?hysimfalse4 ?restsimfalse4
                case hysimfalse4 => (intro w hSw; (try dsimp only at hSw); first | (go_simp; done) | (go_simp; with_reducible rfl))
                simp only [Act.put, List.setIfInBounds_toArray, List.set_cons_zero, List.set_cons_succ]
                refine take_yes (i := 5) (v := ?vsimfalse5) rfl (by kernel_rfl) (by kernel_rfl) (by kernel_rfl) (fun _ _ _ h => h) (by rfl) (by assumption) ?hysimfalse5 ?restsimfalse5
                case hysimfalse5 => (intro w hSw; (try dsimp only at hSw); first | (go_simp; done) | (go_simp; with_reducible rfl))
                simp only [Act.put, List.setIfInBounds_toArray, List.set_cons_zero, List.set_cons_succ]
                refine take_call (i := 6) rfl (by kernel_rfl) (fun Kc hK => ?_)
                go_simp
                (go_at_call 15; refine (rtLeft a1 a2 b1 b2 u v _ Ra Rb RU HL.out.symm).mono ?_; rintro e w2 ⟨rfl, bw2⟩)
                refine hK.out _ _ ?_ (fun hHeld => ?_)
                · exact ⟨cell_on bw2 hHeld.1, cell_on bw2 hHeld.2.1, cell_on bw2 hHeld.2.2.1, cell_on bw2 hHeld.2.2.2.1, cell_on bw2 hHeld.2.2.2.2.1, cell_on bw2 hHeld.2.2.2.2.2.1, cell_on bw2 hHeld.2.2.2.2.2.2.1, cell_on bw2 hHeld.2.2.2.2.2.2.2.1, also hHeld.2.2.2.2.2.2.2.2 bw2⟩
                clear hK Kc
                have zbw2 := bw2.size
                replace x_a := x_a.on bw2
                replace x_b := x_b.on bw2
                replace BB := also BB bw2
                replace x_e := x_e.on bw2
                replace x_l := x_l.on bw2
                refine take_yes (i := 7) (v := ?vsimfalse7) rfl (by kernel_rfl) (by kernel_rfl) (by kernel_rfl) (fun _ _ _ h => h) (by rfl) (by assumption) ?hysimfalse7 ?restsimfalse7
                case hysimfalse7 => (intro w hSw; (try dsimp only at hSw); first | (go_simp; done) | (go_simp; with_reducible rfl))
                simp only [Act.put, List.setIfInBounds_toArray, List.set_cons_zero, List.set_cons_succ]
                refine take_yes (i := 8) (v := ?vsimfalse8) rfl (by kernel_rfl) (by kernel_rfl) (by kernel_rfl) (fun _ _ _ h => h) (by rfl) (by assumption) ?hysimfalse8 ?restsimfalse8
                case hysimfalse8 => (intro w hSw; (try dsimp only at hSw); first | (go_simp; done) | (go_simp; with_reducible rfl))
                simp only [Act.put, List.setIfInBounds_toArray, List.set_cons_zero, List.set_cons_succ]
                refine take_yes (i := 9) (v := ?vsimfalse9) rfl (by kernel_rfl) (by kernel_rfl) (by kernel_rfl) (fun _ _ _ h => h) (by rfl) (by assumption) ?hysimfalse9 ?restsimfalse9
                case hysimfalse9 => (intro w hSw; (try dsimp only at hSw); first | (go_simp; done) | (go_simp; with_reducible rfl))
                simp only [Act.put, List.setIfInBounds_toArray, List.set_cons_zero, List.set_cons_succ]
                refine take_yes (i := 10) (v := ?vsimfalse10) rfl (by kernel_rfl) (by kernel_rfl) (by kernel_rfl) (fun _ _ _ h => h) (by rfl) (by assumption) ?hysimfalse10 ?restsimfalse10
                case hysimfalse10 => (intro w hSw; (try dsimp only at hSw); first | (go_simp; done) | (go_simp; with_reducible rfl))
                simp only [Act.put, List.setIfInBounds_toArray, List.set_cons_zero, List.set_cons_succ]
                refine take_yes (i := 11) (v := ?vsimfalse11) rfl (by kernel_rfl) (by kernel_rfl) (by kernel_rfl) (fun _ _ _ h => h) (by rfl) (by assumption) ?hysimfalse11 ?restsimfalse11
                case hysimfalse11 => (intro w hSw; (try dsimp only at hSw); first | (go_simp; done) | (go_simp; with_reducible rfl))
                simp only [Act.put, List.setIfInBounds_toArray, List.set_cons_zero, List.set_cons_succ]
                refine take_yes (i := 12) (v := ?vsimfalse12) rfl (by kernel_rfl) (by kernel_rfl) (by kernel_rfl) (fun _ _ _ h => h) (by rfl) (by assumption) ?hysimfalse12 ?restsimfalse12
                case hysimfalse12 => (intro w hSw; (try dsimp only at hSw); first | (go_simp; done) | (go_simp; with_reducible rfl))
                simp only [Act.put, List.setIfInBounds_toArray, List.set_cons_zero, List.set_cons_succ]
                refine take_yes (i := 13) (v := ?vsimfalse13) rfl (by kernel_rfl) (by kernel_rfl) (by kernel_rfl) (fun _ _ _ h => h) (by rfl) (by assumption) ?hysimfalse13 ?restsimfalse13
                case hysimfalse13 => (intro w hSw; (try dsimp only at hSw); first | (go_simp; done) | (go_simp; with_reducible rfl))
                simp only [Act.put, List.setIfInBounds_toArray, List.set_cons_zero, List.set_cons_succ]
                refine take_yes (i := 14) (v := ?vsimfalse14) rfl (by kernel_rfl) (by kernel_rfl) (by kernel_rfl) (fun _ _ _ h => h) (by rfl) (by assumption) ?hysimfalse14 ?restsimfalse14
                case hysimfalse14 => (intro w hSw; (try dsimp only at hSw); first | (go_simp; done) | (go_simp; with_reducible rfl))
                simp only [Act.put, List.setIfInBounds_toArray, List.set_cons_zero, List.set_cons_succ]
                refine take_yes (i := 15) (v := ?vsimfalse15) rfl (by kernel_rfl) (by kernel_rfl) (by kernel_rfl) (fun _ _ _ h => h) (by rfl) (by assumption) ?hysimfalse15 ?restsimfalse15
                case hysimfalse15 => (intro w hSw; (try dsimp only at hSw); first | (go_simp; done) | (go_simp; with_reducible rfl))
                simp only [Act.put, List.setIfInBounds_toArray, List.set_cons_zero, List.set_cons_succ]
                refine take_yes (i := 16) (v := ?vsimfalse16) rfl (by kernel_rfl) (by kernel_rfl) (by kernel_rfl) (fun _ _ _ h => h) (by rfl) (by assumption) ?hysimfalse16 ?restsimfalse16
                case hysimfalse16 => (intro w hSw; (try dsimp only at hSw); first | (go_simp; done) | (go_simp; with_reducible rfl))
                simp only [Act.put, List.setIfInBounds_toArray, List.set_cons_zero, List.set_cons_succ]
                refine take_yes (i := 17) (v := ?vsimfalse17) rfl (by kernel_rfl) (by kernel_rfl) (by kernel_rfl) (fun _ _ _ h => h) (by rfl) (by assumption) ?hysimfalse17 ?restsimfalse17
                case hysimfalse17 => (intro w hSw; (try dsimp only at hSw); first | (go_simp; done) | (go_simp; with_reducible rfl))
                simp only [Act.put, List.setIfInBounds_toArray, List.set_cons_zero, List.set_cons_succ]
                refine take_yes (i := 18) (v := ?vsimfalse18) rfl (by kernel_rfl) (by kernel_rfl) (by kernel_rfl) (fun _ _ _ h => h) (by rfl) (by assumption) ?hysimfalse18 ?restsimfalse18
                case hysimfalse18 => (intro w hSw; (try dsimp only at hSw); first | (go_simp; done) | (go_simp; with_reducible rfl))
                simp only [Act.put, List.setIfInBounds_toArray, List.set_cons_zero, List.set_cons_succ]
                refine take_call (i := 19) rfl (by kernel_rfl) (fun Kc hK => ?_)
                go_simp
                (go_at_call 9; refine (rtConflict a1 a2 b1 b2 x y u v _ Ra Rb RX RU HC.out.symm).mono ?_; rintro e w3 ⟨rfl, bw3⟩)
                refine hK.out _ _ ?_ (fun hHeld => ?_)
                · exact ⟨cell_on bw3 hHeld.1, cell_on bw3 hHeld.2.1, cell_on bw3 hHeld.2.2.1, cell_on bw3 hHeld.2.2.2.1, cell_on bw3 hHeld.2.2.2.2.1, cell_on bw3 hHeld.2.2.2.2.2.1, cell_on bw3 hHeld.2.2.2.2.2.2.1, cell_on bw3 hHeld.2.2.2.2.2.2.2.1, also hHeld.2.2.2.2.2.2.2.2 bw3⟩
                clear hK Kc
                have zbw3 := bw3.size
                replace x_a := x_a.on bw3
                replace x_b := x_b.on bw3
                replace BB := also BB bw3
                replace x_e := x_e.on bw3
                replace x_l := x_l.on bw3
                refine take_yes (i := 20) (v := ?vsimfalse20) rfl (by kernel_rfl) (by kernel_rfl) (by kernel_rfl) (fun _ _ _ h => h) (by rfl) (by assumption) ?hysimfalse20 ?restsimfalse20
                case hysimfalse20 => (intro w hSw; (try dsimp only at hSw); first | (go_simp; done) | (go_simp; with_reducible rfl))
                simp only [Act.put, List.setIfInBounds_toArray, List.set_cons_zero, List.set_cons_succ]
                refine take_yes (i := 21) (v := ?vsimfalse21) rfl (by kernel_rfl) (by kernel_rfl) (by kernel_rfl) (fun _ _ _ h => h) (by rfl) (by assumption) ?hysimfalse21 ?restsimfalse21
                case hysimfalse21 => (intro w hSw; (try dsimp only at hSw); first | (go_simp; done) | (go_simp; with_reducible rfl))
                simp only [Act.put, List.setIfInBounds_toArray, List.set_cons_zero, List.set_cons_succ]
                refine take_yes (i := 22) (v := ?vsimfalse22) rfl (by kernel_rfl) (by kernel_rfl) (by kernel_rfl) (fun _ _ _ h => h) (by rfl) (by assumption) ?hysimfalse22 ?restsimfalse22
                case hysimfalse22 => (intro w hSw; (try dsimp only at hSw); first | (go_simp; done) | (go_simp; with_reducible rfl))
                simp only [Act.put, List.setIfInBounds_toArray, List.set_cons_zero, List.set_cons_succ]
                refine wpAnyH_done (by kernel_rfl) ?_ _
                go_wp2
                go_roundw
                case rel => exact ⟨k + 1, _, hlt2, val_next k, rfl, in_true HUV.out hq.out (by rw [HL.out, HC.out]; rfl), x_a, x_b, BB⟩
                case measure => exact meas_next hlt2
              · skip
                have zb := bx_lt x_b
                have HL : Hid _ := hl
                clear hl
                have HC : Hid _ := hcf
                clear hcf
                go_wp2
                have dd1 : Below wr.heap.size wr wr.drew := (Below.refl _ _).drew
                have zdd1 := dd1.size
                replace x_a := x_a.on dd1
                replace x_b := x_b.on dd1
                replace BB := also BB dd1
                replace x_e := x_e.on dd1
                replace x_l := x_l.on dd1
                refine wp_region_held_drew (S := (fun w' => w'.cell? ⟨w.heap.size, 0, none⟩ = some (.int .i64 a1) ∧ w'.cell? ⟨w.heap.size, 1, none⟩ = some (.int .i64 a2) ∧ w'.cell? ⟨w.heap.size + 1, 0, none⟩ = some (.int .i64 b1) ∧ w'.cell? ⟨w.heap.size + 1, 1, none⟩ = some (.int .i64 b2) ∧ w'.cell? ⟨bl, ofs + i * 2, none⟩ = some (.int .i64 x) ∧ w'.cell? ⟨bl, ofs + i * 2 + 1, none⟩ = some (.int .i64 y) ∧ w'.cell? ⟨bl, ofs + k * 2, none⟩ = some (.int .i64 u) ∧ w'.cell? ⟨bl, ofs + k * 2 + 1, none⟩ = some (.int .i64 v) ∧ Below w.heap.size w w')) (by kernel_rfl) ?_ (fun hHeld => ?_)
                · exact ⟨x_a.c0, x_a.c1, x_b.c0, x_b.c1, x_e.c0, x_e.c1, x_l.c0, x_l.c1, BB⟩
                refine take_yes (i := 0) (v := ?vsimtrue0) rfl (by kernel_rfl) (by kernel_rfl) (by kernel_rfl) (fun _ _ _ h => h) (by rfl) (by assumption) ?hysimtrue0 ?restsimtrue0
                case hysimtrue0 => (intro w hSw; (try dsimp only at hSw); first | (go_simp; done) | (go_simp; with_reducible rfl))
                simp only [Act.put, List.setIfInBounds_toArray, List.set_cons_zero, List.set_cons_succ]
                refine take_yes (i := 1) (v := ?vsimtrue1) rfl (by kernel_rfl) (by kernel_rfl) (by kernel_rfl) (fun _ _ _ h => h) (by rfl) (by assumption) ?hysimtrue1 ?restsimtrue1
                case hysimtrue1 => (intro w hSw; (try dsimp only at hSw); first | (go_simp; done) | (go_simp; with_reducible rfl))
                simp only [Act.put, List.setIfInBounds_toArray, List.set_cons_zero, List.set_cons_succ]
                refine take_yes (i := 2) (v := ?vsimtrue2) rfl (by kernel_rfl) (by kernel_rfl) (by kernel_rfl) (fun _ _ _ h => h) (by rfl) (by assumption) ?hysimtrue2 ?restsimtrue2
                case hysimtrue2 => (intro w hSw; (try dsimp only at hSw); first | (go_simp; done) | (go_simp; with_reducible rfl))
                simp only [Act.put, List.setIfInBounds_toArray, List.set_cons_zero, List.set_cons_succ]
                refine take_yes (i := 3) (v := ?vsimtrue3) rfl (by kernel_rfl) (by kernel_rfl) (by kernel_rfl) (fun _ _ _ h => h) (by rfl) (by assumption) ?hysimtrue3 ?restsimtrue3
                case hysimtrue3 => (intro w hSw; (try dsimp only at hSw); first | (go_simp; done) | (go_simp; with_reducible rfl))
                simp only [Act.put, List.setIfInBounds_toArray, List.set_cons_zero, List.set_cons_succ]
                refine take_yes (i := 4) (v := ?vsimtrue4) rfl (by kernel_rfl) (by kernel_rfl) (by kernel_rfl) (fun _ _ _ h => h) (by rfl) (by assumption) ?hysimtrue4 ?restsimtrue4
                case hysimtrue4 => (intro w hSw; (try dsimp only at hSw); first | (go_simp; done) | (go_simp; with_reducible rfl))
                simp only [Act.put, List.setIfInBounds_toArray, List.set_cons_zero, List.set_cons_succ]
                refine take_yes (i := 5) (v := ?vsimtrue5) rfl (by kernel_rfl) (by kernel_rfl) (by kernel_rfl) (fun _ _ _ h => h) (by rfl) (by assumption) ?hysimtrue5 ?restsimtrue5
                case hysimtrue5 => (intro w hSw; (try dsimp only at hSw); first | (go_simp; done) | (go_simp; with_reducible rfl))
                simp only [Act.put, List.setIfInBounds_toArray, List.set_cons_zero, List.set_cons_succ]
                refine take_call (i := 6) rfl (by kernel_rfl) (fun Kc hK => ?_)
                go_simp
                (go_at_call 15; refine (rtLeft a1 a2 b1 b2 u v _ Ra Rb RU HL.out.symm).mono ?_; rintro e w2 ⟨rfl, bw2⟩)
                refine hK.out _ _ ?_ (fun hHeld => ?_)
                · exact ⟨cell_on bw2 hHeld.1, cell_on bw2 hHeld.2.1, cell_on bw2 hHeld.2.2.1, cell_on bw2 hHeld.2.2.2.1, cell_on bw2 hHeld.2.2.2.2.1, cell_on bw2 hHeld.2.2.2.2.2.1, cell_on bw2 hHeld.2.2.2.2.2.2.1, cell_on bw2 hHeld.2.2.2.2.2.2.2.1, also hHeld.2.2.2.2.2.2.2.2 bw2⟩
                clear hK Kc
                have zbw2 := bw2.size
                replace x_a := x_a.on bw2
                replace x_b := x_b.on bw2
                replace BB := also BB bw2
                replace x_e := x_e.on bw2
                replace x_l := x_l.on bw2
                refine take_yes (i := 7) (v := ?vsimtrue7) rfl (by kernel_rfl) (by kernel_rfl) (by kernel_rfl) (fun _ _ _ h => h) (by rfl) (by assumption) ?hysimtrue7 ?restsimtrue7
                case hysimtrue7 => (intro w hSw; (try dsimp only at hSw); first | (go_simp; done) | (go_simp; with_reducible rfl))
                simp only [Act.put, List.setIfInBounds_toArray, List.set_cons_zero, List.set_cons_succ]
                refine take_yes (i := 8) (v := ?vsimtrue8) rfl (by kernel_rfl) (by kernel_rfl) (by kernel_rfl) (fun _ _ _ h => h) (by rfl) (by assumption) ?hysimtrue8 ?restsimtrue8
                case hysimtrue8 => (intro w hSw; (try dsimp only at hSw); first | (go_simp; done) | (go_simp; with_reducible rfl))
                simp only [Act.put, List.setIfInBounds_toArray, List.set_cons_zero, List.set_cons_succ]
                refine take_yes (i := 9) (v := ?vsimtrue9) rfl (by kernel_rfl) (by kernel_rfl) (by kernel_rfl) (fun _ _ _ h => h) (by rfl) (by assumption) ?hysimtrue9 ?restsimtrue9
                case hysimtrue9 => (intro w hSw; (try dsimp only at hSw); first | (go_simp; done) | (go_simp; with_reducible rfl))
                simp only [Act.put, List.setIfInBounds_toArray, List.set_cons_zero, List.set_cons_succ]
                refine take_yes (i := 10) (v := ?vsimtrue10) rfl (by kernel_rfl) (by kernel_rfl) (by kernel_rfl) (fun _ _ _ h => h) (by rfl) (by assumption) ?hysimtrue10 ?restsimtrue10
                case hysimtrue10 => (intro w hSw; (try dsimp only at hSw); first | (go_simp; done) | (go_simp; with_reducible rfl))
                simp only [Act.put, List.setIfInBounds_toArray, List.set_cons_zero, List.set_cons_succ]
                refine take_yes (i := 11) (v := ?vsimtrue11) rfl (by kernel_rfl) (by kernel_rfl) (by kernel_rfl) (fun _ _ _ h => h) (by rfl) (by assumption) ?hysimtrue11 ?restsimtrue11
                case hysimtrue11 => (intro w hSw; (try dsimp only at hSw); first | (go_simp; done) | (go_simp; with_reducible rfl))
                simp only [Act.put, List.setIfInBounds_toArray, List.set_cons_zero, List.set_cons_succ]
                refine take_yes (i := 12) (v := ?vsimtrue12) rfl (by kernel_rfl) (by kernel_rfl) (by kernel_rfl) (fun _ _ _ h => h) (by rfl) (by assumption) ?hysimtrue12 ?restsimtrue12
                case hysimtrue12 => (intro w hSw; (try dsimp only at hSw); first | (go_simp; done) | (go_simp; with_reducible rfl))
                simp only [Act.put, List.setIfInBounds_toArray, List.set_cons_zero, List.set_cons_succ]
                refine take_yes (i := 13) (v := ?vsimtrue13) rfl (by kernel_rfl) (by kernel_rfl) (by kernel_rfl) (fun _ _ _ h => h) (by rfl) (by assumption) ?hysimtrue13 ?restsimtrue13
                case hysimtrue13 => (intro w hSw; (try dsimp only at hSw); first | (go_simp; done) | (go_simp; with_reducible rfl))
                simp only [Act.put, List.setIfInBounds_toArray, List.set_cons_zero, List.set_cons_succ]
                refine take_yes (i := 14) (v := ?vsimtrue14) rfl (by kernel_rfl) (by kernel_rfl) (by kernel_rfl) (fun _ _ _ h => h) (by rfl) (by assumption) ?hysimtrue14 ?restsimtrue14
                case hysimtrue14 => (intro w hSw; (try dsimp only at hSw); first | (go_simp; done) | (go_simp; with_reducible rfl))
                simp only [Act.put, List.setIfInBounds_toArray, List.set_cons_zero, List.set_cons_succ]
                refine take_yes (i := 15) (v := ?vsimtrue15) rfl (by kernel_rfl) (by kernel_rfl) (by kernel_rfl) (fun _ _ _ h => h) (by rfl) (by assumption) ?hysimtrue15 ?restsimtrue15
                case hysimtrue15 => (intro w hSw; (try dsimp only at hSw); first | (go_simp; done) | (go_simp; with_reducible rfl))
                simp only [Act.put, List.setIfInBounds_toArray, List.set_cons_zero, List.set_cons_succ]
                refine take_yes (i := 16) (v := ?vsimtrue16) rfl (by kernel_rfl) (by kernel_rfl) (by kernel_rfl) (fun _ _ _ h => h) (by rfl) (by assumption) ?hysimtrue16 ?restsimtrue16
                case hysimtrue16 => (intro w hSw; (try dsimp only at hSw); first | (go_simp; done) | (go_simp; with_reducible rfl))
                simp only [Act.put, List.setIfInBounds_toArray, List.set_cons_zero, List.set_cons_succ]
                refine take_yes (i := 17) (v := ?vsimtrue17) rfl (by kernel_rfl) (by kernel_rfl) (by kernel_rfl) (fun _ _ _ h => h) (by rfl) (by assumption) ?hysimtrue17 ?restsimtrue17
                case hysimtrue17 => (intro w hSw; (try dsimp only at hSw); first | (go_simp; done) | (go_simp; with_reducible rfl))
                simp only [Act.put, List.setIfInBounds_toArray, List.set_cons_zero, List.set_cons_succ]
                refine take_yes (i := 18) (v := ?vsimtrue18) rfl (by kernel_rfl) (by kernel_rfl) (by kernel_rfl) (fun _ _ _ h => h) (by rfl) (by assumption) ?hysimtrue18 ?restsimtrue18
                case hysimtrue18 => (intro w hSw; (try dsimp only at hSw); first | (go_simp; done) | (go_simp; with_reducible rfl))
                simp only [Act.put, List.setIfInBounds_toArray, List.set_cons_zero, List.set_cons_succ]
                refine take_call (i := 19) rfl (by kernel_rfl) (fun Kc hK => ?_)
                go_simp
                (go_at_call 9; refine (rtConflict a1 a2 b1 b2 x y u v _ Ra Rb RX RU HC.out.symm).mono ?_; rintro e w3 ⟨rfl, bw3⟩)
                refine hK.out _ _ ?_ (fun hHeld => ?_)
                · exact ⟨cell_on bw3 hHeld.1, cell_on bw3 hHeld.2.1, cell_on bw3 hHeld.2.2.1, cell_on bw3 hHeld.2.2.2.1, cell_on bw3 hHeld.2.2.2.2.1, cell_on bw3 hHeld.2.2.2.2.2.1, cell_on bw3 hHeld.2.2.2.2.2.2.1, cell_on bw3 hHeld.2.2.2.2.2.2.2.1, also hHeld.2.2.2.2.2.2.2.2 bw3⟩
                clear hK Kc
                have zbw3 := bw3.size
                replace x_a := x_a.on bw3
                replace x_b := x_b.on bw3
                replace BB := also BB bw3
                replace x_e := x_e.on bw3
                replace x_l := x_l.on bw3
                refine take_yes (i := 20) (v := ?vsimtrue20) rfl (by kernel_rfl) (by kernel_rfl) (by kernel_rfl) (fun _ _ _ h => h) (by rfl) (by assumption) ?hysimtrue20 ?restsimtrue20
                case hysimtrue20 => (intro w hSw; (try dsimp only at hSw); first | (go_simp; done) | (go_simp; with_reducible rfl))
                simp only [Act.put, List.setIfInBounds_toArray, List.set_cons_zero, List.set_cons_succ]
                refine take_yes (i := 21) (v := ?vsimtrue21) rfl (by kernel_rfl) (by kernel_rfl) (by kernel_rfl) (fun _ _ _ h => h) (by rfl) (by assumption) ?hysimtrue21 ?restsimtrue21
                case hysimtrue21 => (intro w hSw; (try dsimp only at hSw); first | (go_simp; done) | (go_simp; with_reducible rfl))
                simp only [Act.put, List.setIfInBounds_toArray, List.set_cons_zero, List.set_cons_succ]
                refine take_yes (i := 22) (v := ?vsimtrue22) rfl (by kernel_rfl) (by kernel_rfl) (by kernel_rfl) (fun _ _ _ h => h) (by rfl) (by assumption) ?hysimtrue22 ?restsimtrue22
                case hysimtrue22 => (intro w hSw; (try dsimp only at hSw); first | (go_simp; done) | (go_simp; with_reducible rfl))
                simp only [Act.put, List.setIfInBounds_toArray, List.set_cons_zero, List.set_cons_succ]
                refine wpAnyH_done (by kernel_rfl) ?_ _
                go_wp2
                go_roundw
                case rel => exact ⟨k + 1, _, hlt2, val_next k, rfl, in_true HUV.out hq.out (by rw [HL.out, HC.out]; rfl), x_a, x_b, BB⟩
                case measure => exact meas_next hlt2
          · obtain rfl : k = n := by omega
            go_wp2
            go_ret
            exact ⟨by rw [HR.out, rb_found hno.out HXY.out (in_all HN.out hq.out)]; rfl, BB⟩
    · obtain rfl : i = n := by omega
      go_wp2
      go_ret
      exact ⟨by rw [HR.out, rb_nil HN.out hno.out]; rfl, BB⟩
end Go.Proofs.Ytnemailhijkemaa

namespace Go.Proofs.Ytnemailhijkemaa
open Go.ChangeShapes Go.WideShapes Go.ChangeAt Go.RowKit
set_option linter.unusedVariables false

theorem laidOutP : laidOutB Try.prog = true := by kernel_rfl
theorem cellsPt : Try.prog.cellsOf 23 = 2 := by kernel_rfl
theorem cellsI64 : Try.prog.cellsOf 2 = 1 := by kernel_rfl
theorem bd_pt {x : Int} (h : (Lit.int .i64 x).wf = true) : R64 x := bd_i64 h
def numV (v : Value) : Int := match v with | .int _ n => n | _ => 0
theorem pts_view {H : Type} {enc : TypeId × Value → H} {W : World} {fuel : Nat} {a0 : Option Addr} {len cap : Nat} {d : DataW H} {p : List MemPlace}
    (hf : DataW.trod enc Try.prog W 0 (fun _ => true) true fuel 32 (Value.slice a0 len cap).cells.toList = some (d, p)) (hfz : W.noneFrozen p) (hlt : ∀ x ∈ p, x.block < W.heap.size) :
    ∃ L : List Pt, PSl W a0 len cap L ∧ cap ≤ maxLen ∧ ∀ (j : Nat) (x y : Int), L[j]? = some (x, y) → R2 (x, y) := by
  rcases Go.Deep.open_slice_pairs Try.underlying32 Try.underlying23 cellsPt rfl rfl cellsI64 cellsI64 hf with ⟨hcs, hx⟩ | ⟨a, len', cap', m, n, V0, V1, D0, D1, P0, P1, hcs, _, hl, hm, hmm, hx, hcell⟩
  · simp [Value.cells] at hcs
    obtain ⟨rfl, rfl, rfl⟩ := hcs
    exact ⟨[], ⟨rfl, Nat.le_refl _, fun _ => ⟨rfl, rfl⟩, Or.inl rfl⟩, by decide, fun j x y h => by simp at h⟩
  · simp [Value.cells] at hcs
    obtain ⟨rfl, rfl, rfl⟩ := hcs
    simp only [Prod.mk.injEq] at hx
    obtain ⟨_, rfl⟩ := hx
    simp only [if_true] at hmm
    subst hmm
    have hv : ∀ i, i < m → V0 i = .int .i64 (numV (V0 i)) ∧ V1 i = .int .i64 (numV (V1 i)) ∧ R64 (numV (V0 i)) ∧ R64 (numV (V1 i)) := by
      intro i hi
      obtain ⟨_, _, t0, t1⟩ := hcell i hi
      obtain ⟨x, e0, _, w0⟩ := DataW.trod_int Try.underlying2 t0
      obtain ⟨y, e1, _, w1⟩ := DataW.trod_int Try.underlying2 t1
      simp at e0 e1
      rw [e0, e1]
      exact ⟨rfl, rfl, bd_pt w0, bd_pt w1⟩
    have hat : ∀ (j : Nat) (x y : Int), ((List.range len).map fun i => (numV (V0 i), numV (V1 i)))[j]? = some (x, y) → j < len ∧ x = numV (V0 j) ∧ y = numV (V1 j) := by
      intro j x y h
      rw [List.getElem?_map] at h
      by_cases hj : j < len
      · rw [List.getElem?_range hj] at h
        simp at h
        exact ⟨hj, h.1.symm, h.2.symm⟩
      · rw [List.getElem?_eq_none (by simp; omega)] at h
        simp at h
    refine ⟨(List.range len).map fun i => (numV (V0 i), numV (V1 i)), ⟨by simp, hl, (fun h => by cases h), ?_⟩, hm, fun j x y h => ?_⟩
    · rcases Nat.eq_zero_or_pos len with h0 | h0
      · exact Or.inl h0
      right
      have hsp : a.spot = none := by
        have h1 := (hcell 0 (by omega)).1
        rw [show a.add (0 * 2) = a from rfl] at h1
        unfold World.cell? at h1
        split at h1
        · split at h1
          · cases h1
          · rename_i hs
            simpa using hs
        · cases h1
      obtain ⟨b, o, sp⟩ := a
      dsimp only at hsp
      subst hsp
      have hmem : ∀ j, j < m * 2 → MemPlace.cell b (o + j) ∈ MemPlace.row ⟨b, o, none⟩ (m * 2) ++ (List.range m).flatMap fun i => P0 i ++ P1 i := fun j hj => by
        refine List.mem_append_left _ ?_
        unfold MemPlace.row
        exact List.mem_map.2 ⟨j, List.mem_range.2 hj, rfl⟩
      refine ⟨b, o, rfl, hlt _ (hmem 0 (by omega)), ?_⟩
      intro j v hj
      have hjl := (List.getElem?_eq_some_iff.1 hj).1
      rw [pcells_length] at hjl
      simp at hjl
      refine ⟨?_, hfz _ _ (hmem j (by omega))⟩
      have hk : j / 2 < len := by omega
      have hp : ((List.range len).map fun i => (numV (V0 i), numV (V1 i)))[j / 2]? = some (numV (V0 (j / 2)), numV (V1 (j / 2))) := by rw [List.getElem?_map, List.getElem?_range hk]; rfl
      obtain ⟨q0, q1⟩ := pcells_at _ _ _ _ hp
      obtain ⟨c0, c1, _, _⟩ := hcell (j / 2) (by omega)
      obtain ⟨v0, v1, _, _⟩ := hv (j / 2) (by omega)
      rw [Addr.add_lit] at c0 c1
      rcases Nat.mod_two_eq_zero_or_one j with e | e
      · have ej : j / 2 * 2 = j := by omega
        rw [ej] at q0 c0
        rw [hj] at q0
        rw [c0, v0]
        exact q0.symm
      · have ej : j / 2 * 2 + 1 = j := by omega
        rw [ej] at q1 c1
        rw [hj] at q1
        rw [c1, v1]
        exact q1.symm
    · obtain ⟨hj, rfl, rfl⟩ := hat j x y h
      exact ⟨(hv j (by omega)).2.2.1, (hv j (by omega)).2.2.2⟩
theorem PSl.take {w : World} {a : Option Addr} {n cap m : Nat} {L : List Pt} (h : PSl w a n cap L) (h0 : 0 < m) (hm : m ≤ n) : PSl w a m cap (L.take m) := by
  refine ⟨by rw [List.length_take, h.len]; omega, Nat.le_trans hm h.room, (fun e => by have := (h.nil e).1; omega), ?_⟩
  rcases h.seg with e | ⟨b, o, e, hlt, hs⟩
  · omega
  · refine Or.inr ⟨b, o, e, hlt, ?_⟩
    have hp : pcells (L.take m) = (pcells L).take (m * 2) := by
      clear h hm hs e hlt h0
      induction L generalizing m with
      | nil => simp [pcells]
      | cons p l ih =>
        cases m with
        | zero => simp [pcells]
        | succ k =>
          rw [show (k + 1) * 2 = k * 2 + 1 + 1 by omega]
          simp only [List.take_succ_cons, pcells, ih]
    rw [hp]
    exact hs.take _
theorem infoPt : (Try.prog.info? 23).map (fun i => (i.zero, i.size, i.bytes)) = some (some (.agg #[.int .i64 0, .int .i64 0]), 2, 16) := by kernel_rfl
theorem pcells_one : ∀ (L : List Pt), ∀ v ∈ pcells L, v.oneCell' = true
  | [], v, h => by simp [pcells] at h
  | p :: l, v, h => by
    simp only [pcells, List.mem_cons] at h
    rcases h with rfl | rfl | h
    · rfl
    · rfl
    · exact pcells_one l v h
theorem append_pts_run (w : World) (ty : TypeId) (a : Option Addr) (n cap : Nat) (L : List Pt) (hL : PSl w a n cap L) (hn : n ≤ 1000000) :
    ∃ a' cap' w', (Builtin.append_ #[32, 32] ty #[.slice (some ⟨w.heap.size, 0, none⟩) 0 0, .slice a n cap]).run Try.prog (w.alloc (.cells #[] 23)) = .ok (.slice a' n cap') w' ∧ PSl w' a' n cap' L ∧ Below w.heap.size w w' := by
  obtain ⟨i0, hi0, hz0, hz1, hz2⟩ := info_parts infoPt
  have hown0 : (w.alloc (.cells #[] 23)).ownsRow w.heap.size 23 2 (.slice (some ⟨w.heap.size, 0, none⟩) 0 0) 0 [] := World.ownsRow_lit w #[] 0 (Nat.le_refl _) (by decide) rfl
  have hB0 : Below w.heap.size w (w.alloc (.cells #[] 23)) := (Below.refl _ _).alloc (Nat.le_refl _) _
  have hL' := hL.below hB0
  cases a with
  | none =>
    obtain ⟨rfl, rfl⟩ := hL.nil rfl
    have hrun := run_append_owned_none (P := Try.prog) (w := w.alloc (.cells #[] 23)) w.heap.size 32 ty 23 i0 2 Try.underlying32 hi0 _ 0 [] hown0
    exact ⟨_, 0, _, hrun, ⟨hL.len, Nat.le_refl _, (fun h => by cases h), Or.inl rfl⟩, hB0⟩
  | some ad =>
    obtain ⟨v', w', hr, h2, h3, _, _⟩ := run_append_own_at (P := Try.prog) (w.alloc (.cells #[] 23)) w.heap.size 32 ty 23 i0 (.agg #[.int .i64 0, .int .i64 0]) 2 16 Try.underlying32 hi0 hz0 hz1 hz2 rfl (by decide) _ 0 [] hown0 ad n cap (pcells L) (by rw [pcells_length, hL.len]) (by
      intro j u hu
      have hj := (List.getElem?_eq_some_iff.1 hu).1
      rw [pcells_length, hL.len] at hj
      rcases hL'.seg with e | ⟨b, o, e, _, hs⟩
      · omega
      · cases e
        rw [Addr.add_lit]
        exact hs.cell j u hu) (pcells_one L) (by unfold maxLen; omega) (by omega) (by simp)
    rw [Nat.zero_add, List.nil_append] at h2
    have hbel : Below w.heap.size w w' := hB0.grown h3 (by simp) (fun k' hk' => by simp [Value.ownBlock] at hk'; omega)
    have h2' := h2
    obtain ⟨hl, ⟨e1, e2⟩ | ⟨g, cap', cur, hv, hb, hg, h4, h5, h6, h7⟩⟩ := h2
    · subst e2
      subst e1
      exact ⟨none, 0, w', hr, ⟨hL.len, Nat.le_refl _, fun _ => ⟨rfl, rfl⟩, Or.inl rfl⟩, hbel⟩
    · subst hv
      refine ⟨_, cap', w', hr, ⟨hL.len, h4, (fun h => by cases h), Or.inr ⟨g, 0, rfl, (Array.getElem?_eq_some_iff.1 hg).1, ?_⟩⟩, hbel⟩
      intro j u hu
      have hj := (List.getElem?_eq_some_iff.1 hu).1
      rw [Nat.zero_add]
      exact ⟨(World.ownsRow.cellAt h2' j (by omega)).trans hu, World.ownsRow.frozenAt h2' j⟩
/-- An append whose run is known, in a region whose order is open. -/
theorem step_append_run {P : Program} {w : World} {ops : Array Oper} {o : Oper} {a : Act} {K : Act → World → Prop} {Q : Exit → Act → World → Prop} {E : Prop} (hgd : o.guard = none) (s x : Operand) (t : TypeId)
    (ho : o.op = .call { callee := .builtin .append, args := #[s, x], argTypes := #[t, t] }) (v vx v' : Value) (w' : World) (hs : a.eval s = v) (hx : a.eval x = vx)
    (hrun : (Builtin.append_ #[t, t] o.type #[v, vx]).run P w = .ok v' w') (h : K (a.put o.dst v') w') : if Region.wanted o (yielded ops a.tmps) = true then Oper.wp P o a w K Q else E := by
  have hw : Region.wanted o (yielded ops a.tmps) = true := by simp [Region.wanted, hgd]
  rw [if_pos hw]
  unfold Oper.wp execOp
  simp only [ho, resolve, invoke, builtin, Sem.run_bind, Sem.run_pure, Result.andThen_ok, List.map_toArray, List.map_cons, List.map_nil, hs, hx, hrun]
  exact h
end Go.Proofs.Ytnemailhijkemaa
