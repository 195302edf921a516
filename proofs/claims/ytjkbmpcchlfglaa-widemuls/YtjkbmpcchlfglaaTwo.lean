/-
  Two numbers in a law's own variables, and their digits in two blocks: kept by every call that leaves old memory alone.
-/
import Derived.Test.YtjkbmpcchlfglaaRefB
import Derived.Test.YtjkbmpcchlfglaaWideA
namespace Go.Proofs.Ytjkbmpcchlfglaa
open Go.RowKit

theorem wide_range (h l : Int) (h1 : -9223372036854775808 ≤ h) (h2 : h ≤ 9223372036854775807) (l1 : 0 ≤ l) (l2 : l ≤ 18446744073709551615) : -170141183460469231731687303715884105728 ≤ h * 18446744073709551616 + l ∧ h * 18446744073709551616 + l < 170141183460469231731687303715884105728 := by omega
theorem keep2 {n : Nat} {a b : Int} {w0 w w' : World} (h : w.cell? ⟨n, 0, none⟩ = some (.int .i64 (hi a)) ∧ w.cell? ⟨n, 1, none⟩ = some (.int .u64 (lo a)) ∧ w.cell? ⟨n + 1, 0, none⟩ = some (.int .i64 (hi b)) ∧ w.cell? ⟨n + 1, 1, none⟩ = some (.int .u64 (lo b)) ∧ Below w0.heap.size w0 w)
    (hb : Below w.heap.size w w') : w'.cell? ⟨n, 0, none⟩ = some (.int .i64 (hi a)) ∧ w'.cell? ⟨n, 1, none⟩ = some (.int .u64 (lo a)) ∧ w'.cell? ⟨n + 1, 0, none⟩ = some (.int .i64 (hi b)) ∧ w'.cell? ⟨n + 1, 1, none⟩ = some (.int .u64 (lo b)) ∧ Below w0.heap.size w0 w' :=
  ⟨cell_later hb h.1, cell_later hb h.2.1, cell_later hb h.2.2.1, cell_later hb h.2.2.2.1, h.2.2.2.2.trans (hb.mono h.2.2.2.2.size)⟩
theorem start2 (a b : Int) (w : World) (t : TypeId) :
    (((w.alloc (.cells #[.int .i64 (hi a), .int .u64 (lo a)] t)).alloc (.cells #[.int .i64 (hi b), .int .u64 (lo b)] t)).drew).cell? ⟨w.heap.size, 0, none⟩ = some (.int .i64 (hi a)) ∧
    (((w.alloc (.cells #[.int .i64 (hi a), .int .u64 (lo a)] t)).alloc (.cells #[.int .i64 (hi b), .int .u64 (lo b)] t)).drew).cell? ⟨w.heap.size, 1, none⟩ = some (.int .u64 (lo a)) ∧
    (((w.alloc (.cells #[.int .i64 (hi a), .int .u64 (lo a)] t)).alloc (.cells #[.int .i64 (hi b), .int .u64 (lo b)] t)).drew).cell? ⟨w.heap.size + 1, 0, none⟩ = some (.int .i64 (hi b)) ∧
    (((w.alloc (.cells #[.int .i64 (hi a), .int .u64 (lo a)] t)).alloc (.cells #[.int .i64 (hi b), .int .u64 (lo b)] t)).drew).cell? ⟨w.heap.size + 1, 1, none⟩ = some (.int .u64 (lo b)) ∧
    Below w.heap.size w (((w.alloc (.cells #[.int .i64 (hi a), .int .u64 (lo a)] t)).alloc (.cells #[.int .i64 (hi b), .int .u64 (lo b)] t)).drew) := by
  refine ⟨by simp, by simp, by simp [go_sem], by simp [go_sem], ((((Below.refl _ _).alloc (Nat.le_refl _) _).alloc (by simp) _)).drew⟩

theorem keep4 {n : Nat} {v1 v2 v3 v4 : Value} {w0 w w' : World} (h : w.cell? ⟨n, 0, none⟩ = some v1 ∧ w.cell? ⟨n, 1, none⟩ = some v2 ∧ w.cell? ⟨n + 1, 0, none⟩ = some v3 ∧ w.cell? ⟨n + 1, 1, none⟩ = some v4 ∧ Below w0.heap.size w0 w)
    (hb : Below w.heap.size w w') : w'.cell? ⟨n, 0, none⟩ = some v1 ∧ w'.cell? ⟨n, 1, none⟩ = some v2 ∧ w'.cell? ⟨n + 1, 0, none⟩ = some v3 ∧ w'.cell? ⟨n + 1, 1, none⟩ = some v4 ∧ Below w0.heap.size w0 w' :=
  ⟨cell_later hb h.1, cell_later hb h.2.1, cell_later hb h.2.2.1, cell_later hb h.2.2.2.1, h.2.2.2.2.trans (hb.mono h.2.2.2.2.size)⟩
theorem start4 {w0 w : World} (hB : Below w0.heap.size w0 w) (v1 v2 v3 v4 : Value) (t : TypeId) :
    (((w.alloc (.cells #[v1, v2] t)).alloc (.cells #[v3, v4] t)).drew).cell? ⟨w.heap.size, 0, none⟩ = some v1 ∧ (((w.alloc (.cells #[v1, v2] t)).alloc (.cells #[v3, v4] t)).drew).cell? ⟨w.heap.size, 1, none⟩ = some v2 ∧
    (((w.alloc (.cells #[v1, v2] t)).alloc (.cells #[v3, v4] t)).drew).cell? ⟨w.heap.size + 1, 0, none⟩ = some v3 ∧ (((w.alloc (.cells #[v1, v2] t)).alloc (.cells #[v3, v4] t)).drew).cell? ⟨w.heap.size + 1, 1, none⟩ = some v4 ∧
    Below w0.heap.size w0 (((w.alloc (.cells #[v1, v2] t)).alloc (.cells #[v3, v4] t)).drew) := by
  have hs := hB.size
  refine ⟨by simp, by simp, by simp [go_sem], by simp [go_sem], ((hB.alloc hs _).alloc (by simp; omega) _).drew⟩

structure Two (w0 w : World) (a b : Int) (bx by' : Nat) : Prop where
  cells : w.cell? ⟨w0.heap.size, 0, none⟩ = some (.int .i64 (hi a)) ∧ w.cell? ⟨w0.heap.size, 1, none⟩ = some (.int .u64 (lo a)) ∧ w.cell? ⟨w0.heap.size + 1, 0, none⟩ = some (.int .i64 (hi b)) ∧ w.cell? ⟨w0.heap.size + 1, 1, none⟩ = some (.int .u64 (lo b))
  below : Below w0.heap.size w0 w
  rx : Row w bx (dcells 16 a)
  ry : Row w by' (dcells 16 b)
  sx : bx < w.heap.size
  sy : by' < w.heap.size
theorem Two.later {w0 w w' : World} {a b : Int} {bx by' : Nat} (h : Two w0 w a b bx by') (hb : Below w.heap.size w w') : Two w0 w' a b bx by' :=
  ⟨⟨cell_later hb h.cells.1, cell_later hb h.cells.2.1, cell_later hb h.cells.2.2.1, cell_later hb h.cells.2.2.2⟩, h.below.trans (hb.mono h.below.size), h.rx.below hb h.sx, h.ry.below hb h.sy, Nat.lt_of_lt_of_le h.sx hb.size, Nat.lt_of_lt_of_le h.sy hb.size⟩
theorem two_xy {w0 W w w' : World} {a b : Int} {bx by' : Nat} (h : w'.cell? ⟨w0.heap.size, 0, none⟩ = some (.int .i64 (hi a)) ∧ w'.cell? ⟨w0.heap.size, 1, none⟩ = some (.int .u64 (lo a)) ∧ w'.cell? ⟨w0.heap.size + 1, 0, none⟩ = some (.int .i64 (hi b)) ∧ w'.cell? ⟨w0.heap.size + 1, 1, none⟩ = some (.int .u64 (lo b)) ∧ Below w0.heap.size w0 w')
    (hx : Made W w bx a) (hy : Made w w' by' b) : Two w0 w' a b bx by' :=
  ⟨⟨h.1, h.2.1, h.2.2.1, h.2.2.2.1⟩, h.2.2.2.2, hx.row.below hy.below hx.size, hy.row, Nat.lt_of_lt_of_le hx.size hy.below.size, hy.size⟩
theorem two_yx {w0 W w w' : World} {a b : Int} {bx by' : Nat} (h : w'.cell? ⟨w0.heap.size, 0, none⟩ = some (.int .i64 (hi a)) ∧ w'.cell? ⟨w0.heap.size, 1, none⟩ = some (.int .u64 (lo a)) ∧ w'.cell? ⟨w0.heap.size + 1, 0, none⟩ = some (.int .i64 (hi b)) ∧ w'.cell? ⟨w0.heap.size + 1, 1, none⟩ = some (.int .u64 (lo b)) ∧ Below w0.heap.size w0 w')
    (hx : Made w w' bx a) (hy : Made W w by' b) : Two w0 w' a b bx by' :=
  ⟨⟨h.1, h.2.1, h.2.2.1, h.2.2.2.1⟩, h.2.2.2.2, hx.row, hy.row.below hx.below hy.size, hx.size, Nat.lt_of_lt_of_le hy.size hx.below.size⟩
end Go.Proofs.Ytjkbmpcchlfglaa
