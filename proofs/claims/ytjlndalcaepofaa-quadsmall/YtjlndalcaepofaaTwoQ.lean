/-
  Two numbers of 256 bits in a law's own variables, and their digits in two blocks: kept by every call that leaves old memory alone.
-/
import Derived.Test.YtjlndalcaepofaaDigB32
import Derived.Test.YtjlndalcaepofaaQuadC
namespace Go.Proofs.Ytjlndalcaepofaa
open Go.RowKit

theorem keep8 {n : Nat} {u0 u1 u2 u3 v0 v1 v2 v3 : Value} {w0 w w' : World} (h : w.cell? ⟨n, 0, none⟩ = some u0 ∧ w.cell? ⟨n, 1, none⟩ = some u1 ∧ w.cell? ⟨n, 2, none⟩ = some u2 ∧ w.cell? ⟨n, 3, none⟩ = some u3 ∧ w.cell? ⟨n + 1, 0, none⟩ = some v0 ∧ w.cell? ⟨n + 1, 1, none⟩ = some v1 ∧ w.cell? ⟨n + 1, 2, none⟩ = some v2 ∧ w.cell? ⟨n + 1, 3, none⟩ = some v3 ∧ Below w0.heap.size w0 w)
    (hb : Below w.heap.size w w') : w'.cell? ⟨n, 0, none⟩ = some u0 ∧ w'.cell? ⟨n, 1, none⟩ = some u1 ∧ w'.cell? ⟨n, 2, none⟩ = some u2 ∧ w'.cell? ⟨n, 3, none⟩ = some u3 ∧ w'.cell? ⟨n + 1, 0, none⟩ = some v0 ∧ w'.cell? ⟨n + 1, 1, none⟩ = some v1 ∧ w'.cell? ⟨n + 1, 2, none⟩ = some v2 ∧ w'.cell? ⟨n + 1, 3, none⟩ = some v3 ∧ Below w0.heap.size w0 w' := by
  obtain ⟨h0, h1, h2, h3, h4, h5, h6, h7, h8⟩ := h
  exact ⟨cell_later hb h0, cell_later hb h1, cell_later hb h2, cell_later hb h3, cell_later hb h4, cell_later hb h5, cell_later hb h6, cell_later hb h7, h8.trans (hb.mono h8.size)⟩
theorem start8 (u0 u1 u2 u3 v0 v1 v2 v3 : Value) (w : World) (t : TypeId) :
    let w' := ((w.alloc (.cells #[u0, u1, u2, u3] t)).alloc (.cells #[v0, v1, v2, v3] t)).drew
    w'.cell? ⟨w.heap.size, 0, none⟩ = some u0 ∧ w'.cell? ⟨w.heap.size, 1, none⟩ = some u1 ∧ w'.cell? ⟨w.heap.size, 2, none⟩ = some u2 ∧ w'.cell? ⟨w.heap.size, 3, none⟩ = some u3 ∧ w'.cell? ⟨w.heap.size + 1, 0, none⟩ = some v0 ∧ w'.cell? ⟨w.heap.size + 1, 1, none⟩ = some v1 ∧ w'.cell? ⟨w.heap.size + 1, 2, none⟩ = some v2 ∧ w'.cell? ⟨w.heap.size + 1, 3, none⟩ = some v3 ∧ Below w.heap.size w w' := by
  intro w'
  refine ⟨?_, ?_, ?_, ?_, ?_, ?_, ?_, ?_, ((((Below.refl _ _).alloc (Nat.le_refl _) _).alloc (by simp) _)).drew⟩ <;> simp [w', go_sem]

structure TwoQ (w0 w : World) (a b : Int) (bx by' : Nat) : Prop where
  ca : w.cell? ⟨w0.heap.size, 0, none⟩ = some (.int .u64 (q.dg a 0)) ∧ w.cell? ⟨w0.heap.size, 1, none⟩ = some (.int .u64 (q.dg a 1)) ∧ w.cell? ⟨w0.heap.size, 2, none⟩ = some (.int .u64 (q.dg a 2)) ∧ w.cell? ⟨w0.heap.size, 3, none⟩ = some (.int .u64 (q.dg a 3)) ∧ w.cell? ⟨w0.heap.size + 1, 0, none⟩ = some (.int .u64 (q.dg b 0)) ∧ w.cell? ⟨w0.heap.size + 1, 1, none⟩ = some (.int .u64 (q.dg b 1)) ∧ w.cell? ⟨w0.heap.size + 1, 2, none⟩ = some (.int .u64 (q.dg b 2)) ∧ w.cell? ⟨w0.heap.size + 1, 3, none⟩ = some (.int .u64 (q.dg b 3)) ∧ Below w0.heap.size w0 w
  rx : Row w bx (dcells 32 a)
  ry : Row w by' (dcells 32 b)
  sx : bx < w.heap.size
  sy : by' < w.heap.size
theorem TwoQ.below {w0 w : World} {a b : Int} {bx by' : Nat} (h : TwoQ w0 w a b bx by') : Below w0.heap.size w0 w := h.ca.2.2.2.2.2.2.2.2
theorem TwoQ.later {w0 w w' : World} {a b : Int} {bx by' : Nat} (h : TwoQ w0 w a b bx by') (hb : Below w.heap.size w w') : TwoQ w0 w' a b bx by' :=
  ⟨keep8 h.ca hb, h.rx.below hb h.sx, h.ry.below hb h.sy, Nat.lt_of_lt_of_le h.sx hb.size, Nat.lt_of_lt_of_le h.sy hb.size⟩
theorem twoQ_xy {w0 W w w' : World} {a b : Int} {bx by' : Nat} (h : w'.cell? ⟨w0.heap.size, 0, none⟩ = some (.int .u64 (q.dg a 0)) ∧ w'.cell? ⟨w0.heap.size, 1, none⟩ = some (.int .u64 (q.dg a 1)) ∧ w'.cell? ⟨w0.heap.size, 2, none⟩ = some (.int .u64 (q.dg a 2)) ∧ w'.cell? ⟨w0.heap.size, 3, none⟩ = some (.int .u64 (q.dg a 3)) ∧ w'.cell? ⟨w0.heap.size + 1, 0, none⟩ = some (.int .u64 (q.dg b 0)) ∧ w'.cell? ⟨w0.heap.size + 1, 1, none⟩ = some (.int .u64 (q.dg b 1)) ∧ w'.cell? ⟨w0.heap.size + 1, 2, none⟩ = some (.int .u64 (q.dg b 2)) ∧ w'.cell? ⟨w0.heap.size + 1, 3, none⟩ = some (.int .u64 (q.dg b 3)) ∧ Below w0.heap.size w0 w')
    (hx : d32.Made W w bx a) (hy : d32.Made w w' by' b) : TwoQ w0 w' a b bx by' :=
  ⟨h, hx.row.below hy.below hx.size, hy.row, Nat.lt_of_lt_of_le hx.size hy.below.size, hy.size⟩
end Go.Proofs.Ytjlndalcaepofaa
