/-
  Rows of values in one block of memory: what is read of them behind a store, a draw, a new block, a call that leaves old memory alone. It imports nothing of the program.
-/
import Derived.WalkKit
import Derived.WalkSmall
namespace Go.Proofs.YteoepelmapjhcaaDoor
open Go.RowKit

/-- Block b holds the values xs from its head on, and none of these cells is frozen. -/
def Row (w : World) (b : Nat) (xs : List Value) : Prop := ∀ j v, xs[j]? = some v → w.cell? ⟨b, j, none⟩ = some v ∧ w.frozen? ⟨b, j, none⟩ = false
theorem Row.cell {w : World} {b : Nat} {xs : List Value} (h : Row w b xs) (j : Nat) (v : Value) (hj : xs[j]? = some v) : w.cell? ⟨b, j, none⟩ = some v := (h j v hj).1
theorem Row.free {w : World} {b : Nat} {xs : List Value} (h : Row w b xs) (j : Nat) (hj : j < xs.length) : w.frozen? ⟨b, j, none⟩ = false := (h j xs[j] (List.getElem?_eq_getElem hj)).2
theorem Row.drewN {w : World} {b : Nat} {xs : List Value} (h : Row w b xs) (n : Nat) : Row (w.drewN n) b xs := h
theorem Row.drew {w : World} {b : Nat} {xs : List Value} (h : Row w b xs) : Row w.drew b xs := h
theorem Row.set {w : World} {b : Nat} {xs : List Value} (h : Row w b xs) (i : Nat) (v : Value) (hi : i < xs.length) : Row (w.setCell ⟨b, i, none⟩ v) b (xs.set i v) := by
  intro j u hu
  rw [World.frozen?_setCell]
  by_cases e : i = j
  · subst e
    rw [List.getElem?_set_self hi] at hu
    simp only [Option.some.injEq] at hu
    subst hu
    exact ⟨World.cell?_setCell_same _ _ _ (h.cell i xs[i] (List.getElem?_eq_getElem hi)), h.free i hi⟩
  · rw [List.getElem?_set_ne e] at hu
    rw [World.cell?_setCell_other _ _ _ _ (by intro q; simp only [Addr.mk.injEq] at q; omega)]
    exact h j u hu
theorem Row.below {w w' : World} {b B : Nat} {xs : List Value} (h : Row w b xs) (hb : Below B w w') (hB : b < B) : Row w' b xs := by
  intro j u hu
  rw [hb.cell (p := ⟨b, j, none⟩) hB, hb.frozen (p := ⟨b, j, none⟩) hB]
  exact h j u hu
theorem Row.other {w : World} {b c i : Nat} {xs : List Value} (h : Row w b xs) (v : Value) (hc : c ≠ b) : Row (w.setCell ⟨c, i, none⟩ v) b xs := by
  intro j u hu
  rw [World.frozen?_setCell, World.cell?_setCell_other _ _ _ _ (by intro q; simp only [Addr.mk.injEq] at q; omega)]
  exact h j u hu
theorem Row.new (w : World) (xs : List Value) (t : TypeId) : Row (w.alloc (.cells xs.toArray t)) w.heap.size xs := by
  intro j u hu
  rw [World.cell?_alloc_new, World.frozen?_alloc_new]
  exact ⟨by simpa using hu, rfl⟩
theorem Row.alloc {w : World} {b : Nat} {xs : List Value} (h : Row w b xs) (o : Obj) (hb : b < w.heap.size) : Row (w.alloc o) b xs :=
  h.below (((Below.refl _ _).alloc (Nat.le_refl _) o)) hb
theorem bcell {W w1 : World} (hb : Below W.heap.size W w1) : (∀ b o, b < W.heap.size → w1.cell? ⟨b, o, none⟩ = W.cell? ⟨b, o, none⟩) ∧ (∀ b o, b < W.heap.size → w1.frozen? ⟨b, o, none⟩ = W.frozen? ⟨b, o, none⟩) :=
  ⟨fun b o h => hb.cell (p := ⟨b, o, none⟩) h, fun b o h => hb.frozen (p := ⟨b, o, none⟩) h⟩
end Go.Proofs.YteoepelmapjhcaaDoor
