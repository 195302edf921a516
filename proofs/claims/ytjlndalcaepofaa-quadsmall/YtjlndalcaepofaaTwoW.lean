/-
  Two numbers of 128 bits in a law's own variables, and their 32 digits in two blocks: kept by every call that leaves old memory alone.
-/
import Derived.Test.YtjlndalcaepofaaDigB32
import Derived.Test.YtjlndalcaepofaaQuadC
namespace Go.Proofs.Ytjlndalcaepofaa
open Go.RowKit

theorem keep4 {n : Nat} {v1 v2 v3 v4 : Value} {w0 w w' : World} (h : w.cell? ⟨n, 0, none⟩ = some v1 ∧ w.cell? ⟨n, 1, none⟩ = some v2 ∧ w.cell? ⟨n + 1, 0, none⟩ = some v3 ∧ w.cell? ⟨n + 1, 1, none⟩ = some v4 ∧ Below w0.heap.size w0 w)
    (hb : Below w.heap.size w w') : w'.cell? ⟨n, 0, none⟩ = some v1 ∧ w'.cell? ⟨n, 1, none⟩ = some v2 ∧ w'.cell? ⟨n + 1, 0, none⟩ = some v3 ∧ w'.cell? ⟨n + 1, 1, none⟩ = some v4 ∧ Below w0.heap.size w0 w' :=
  ⟨cell_later hb h.1, cell_later hb h.2.1, cell_later hb h.2.2.1, cell_later hb h.2.2.2.1, h.2.2.2.2.trans (hb.mono h.2.2.2.2.size)⟩
theorem start4 (v1 v2 v3 v4 : Value) (w : World) (t : TypeId) :
    let w' := ((w.alloc (.cells #[v1, v2] t)).alloc (.cells #[v3, v4] t)).drew
    w'.cell? ⟨w.heap.size, 0, none⟩ = some v1 ∧ w'.cell? ⟨w.heap.size, 1, none⟩ = some v2 ∧ w'.cell? ⟨w.heap.size + 1, 0, none⟩ = some v3 ∧ w'.cell? ⟨w.heap.size + 1, 1, none⟩ = some v4 ∧ Below w.heap.size w w' := by
  intro w'
  refine ⟨by simp [w'], by simp [w'], by simp [w', go_sem], by simp [w', go_sem], ((((Below.refl _ _).alloc (Nat.le_refl _) _).alloc (by simp) _)).drew⟩
structure TwoW (w0 w : World) (a b : Int) (bx by' : Nat) : Prop where
  ca : w.cell? ⟨w0.heap.size, 0, none⟩ = some (.int .i64 (hi a)) ∧ w.cell? ⟨w0.heap.size, 1, none⟩ = some (.int .u64 (lo a)) ∧ w.cell? ⟨w0.heap.size + 1, 0, none⟩ = some (.int .i64 (hi b)) ∧ w.cell? ⟨w0.heap.size + 1, 1, none⟩ = some (.int .u64 (lo b)) ∧ Below w0.heap.size w0 w
  rx : Row w bx (dcells 32 a)
  ry : Row w by' (dcells 32 b)
  sx : bx < w.heap.size
  sy : by' < w.heap.size
theorem TwoW.below {w0 w : World} {a b : Int} {bx by' : Nat} (h : TwoW w0 w a b bx by') : Below w0.heap.size w0 w := h.ca.2.2.2.2
theorem TwoW.later {w0 w w' : World} {a b : Int} {bx by' : Nat} (h : TwoW w0 w a b bx by') (hb : Below w.heap.size w w') : TwoW w0 w' a b bx by' :=
  ⟨keep4 h.ca hb, h.rx.below hb h.sx, h.ry.below hb h.sy, Nat.lt_of_lt_of_le h.sx hb.size, Nat.lt_of_lt_of_le h.sy hb.size⟩
theorem twoW_xy {w0 W w w' : World} {a b : Int} {bx by' : Nat} (h : w'.cell? ⟨w0.heap.size, 0, none⟩ = some (.int .i64 (hi a)) ∧ w'.cell? ⟨w0.heap.size, 1, none⟩ = some (.int .u64 (lo a)) ∧ w'.cell? ⟨w0.heap.size + 1, 0, none⟩ = some (.int .i64 (hi b)) ∧ w'.cell? ⟨w0.heap.size + 1, 1, none⟩ = some (.int .u64 (lo b)) ∧ Below w0.heap.size w0 w')
    (hx : d32.Made W w bx a) (hy : d32.Made w w' by' b) : TwoW w0 w' a b bx by' :=
  ⟨h, hx.row.below hy.below hx.size, hy.row, Nat.lt_of_lt_of_le hx.size hy.below.size, hy.size⟩
end Go.Proofs.Ytjlndalcaepofaa
