/-
  PredMoves: all stays when all points are moved alike.
-/
import Derived.Test.YtlelbhiebmdnoaaChecked
import Derived.Test.YtlelbhiebmdnoaaRows
import Derived.Test.YtlelbhiebmdnoaaP8
import Derived.Test.YtlelbhiebmdnoaaP13
import Derived.Deep.RegionHeld3
import Derived.ProofKit
import Derived.OpenShut
import Derived.Lib.SmallJoins
namespace Go.Proofs.Ytlelbhiebmdnoaa
open Go.RowKit
set_option linter.unusedVariables false

namespace pmoves
open Go.ChangeShapes Go.WideShapes Go.ChangeAt Go.Joins
theorem mv_both {p1 p2 s1 s2 : Int} (h : mvC p1 p2 s1 s2 = true) : canC p1 p2 = true ∧ canC (p1 + s1) (p2 + s2) = true := by
  unfold mvC at h
  rw [Bool.and_eq_true_iff, Bool.and_eq_true_iff] at h
  exact ⟨h.1, h.2.2⟩
theorem mv_can {a1 a2 b1 b2 c1 c2 d1 d2 s1 s2 : Int} (ha : mvC a1 a2 s1 s2 = true) (hb : mvC b1 b2 s1 s2 = true) (hc : mvC c1 c2 s1 s2 = true) (hd : mvC d1 d2 s1 s2 = true) : (canC a1 a2 = true ∧ canC (a1 + s1) (a2 + s2) = true) ∧ (canC b1 b2 = true ∧ canC (b1 + s1) (b2 + s2) = true) ∧ (canC c1 c2 = true ∧ canC (c1 + s1) (c2 + s2) = true) ∧ (canC d1 d2 = true ∧ canC (d1 + s1) (d2 + s2) = true) := ⟨mv_both ha, mv_both hb, mv_both hc, mv_both hd⟩
theorem mv_same {a1 a2 b1 b2 c1 c2 d1 d2 s1 s2 : Int} (ha : canC a1 a2 = true ∧ canC (a1 + s1) (a2 + s2) = true) (hb : canC b1 b2 = true ∧ canC (b1 + s1) (b2 + s2) = true) (hc : canC c1 c2 = true ∧ canC (c1 + s1) (c2 + s2) = true) (hd : canC d1 d2 = true ∧ canC (d1 + s1) (d2 + s2) = true) : arP (a1 + s1) (a2 + s2) (b1 + s1) (b2 + s2) (c1 + s1) (c2 + s2) = arP a1 a2 b1 b2 c1 c2 ∧ diP (a1 + s1) (a2 + s2) (d1 + s1) (d2 + s2) = diP a1 a2 d1 d2 ∧ ciP (a1 + s1) (a2 + s2) (b1 + s1) (b2 + s2) (c1 + s1) (c2 + s2) (d1 + s1) (d2 + s2) = ciP a1 a2 b1 b2 c1 c2 d1 d2 ∧ whP (a1 + s1) (a2 + s2) (b1 + s1) (b2 + s2) (c1 + s1) (c2 + s2) (d1 + s1) (d2 + s2) = whP a1 a2 b1 b2 c1 c2 d1 d2 := by
  have e1 : arP (a1 + s1) (a2 + s2) (b1 + s1) (b2 + s2) (c1 + s1) (c2 + s2) = arP a1 a2 b1 b2 c1 c2 := by
    unfold arP; rw [if_pos (can3.2 ⟨ha.1, hb.1, hc.1⟩), if_pos (can3.2 ⟨ha.2, hb.2, hc.2⟩), area_moved]
  refine ⟨e1, ?_, ?_, ?_⟩
  · unfold diP; rw [if_pos (can2.2 ⟨ha.1, hd.1⟩), if_pos (can2.2 ⟨ha.2, hd.2⟩), dist_moved]
  · unfold ciP; rw [if_pos (can4.2 ⟨ha.1, hb.1, hc.1, hd.1⟩), if_pos (can4.2 ⟨ha.2, hb.2, hc.2, hd.2⟩), det_moved]
  · unfold whP; rw [e1, area_moved, area_moved, area_moved, hd.1, hd.2]
set_option maxRecDepth 100000 in
set_option maxHeartbeats 20000000 in
theorem walk (a1 a2 : Int) (ha1_1 : -9223372036854775808 ≤ a1) (ha1_2 : a1 ≤ 9223372036854775807) (ha2_1 : -9223372036854775808 ≤ a2) (ha2_2 : a2 ≤ 9223372036854775807) (b1 b2 : Int) (hb1_1 : -9223372036854775808 ≤ b1) (hb1_2 : b1 ≤ 9223372036854775807) (hb2_1 : -9223372036854775808 ≤ b2) (hb2_2 : b2 ≤ 9223372036854775807) (c1 c2 : Int) (hc1_1 : -9223372036854775808 ≤ c1) (hc1_2 : c1 ≤ 9223372036854775807) (hc2_1 : -9223372036854775808 ≤ c2) (hc2_2 : c2 ≤ 9223372036854775807) (d1 d2 : Int) (hd1_1 : -9223372036854775808 ≤ d1) (hd1_2 : d1 ≤ 9223372036854775807) (hd2_1 : -9223372036854775808 ≤ d2) (hd2_2 : d2 ≤ 9223372036854775807) (s1 s2 : Int) (hs1_1 : -9223372036854775808 ≤ s1) (hs1_2 : s1 ≤ 9223372036854775807) (hs2_1 : -9223372036854775808 ≤ s2) (hs2_2 : s2 ≤ 9223372036854775807) (w : World) :
    Calls Try.prog 7 #[.agg #[.int .i64 a1, .int .i64 a2, .int .i64 b1, .int .i64 b2, .int .i64 c1, .int .i64 c2], .agg #[.int .i64 d1, .int .i64 d2], .agg #[.int .i64 s1, .int .i64 s2]] w fun e w' => e = .returned (.bool true) ∧ Below w.heap.size w w' := by
  have Ra1 : Hid (R64 a1) := ⟨ha1_1, ha1_2⟩
  have Ra2 : Hid (R64 a2) := ⟨ha2_1, ha2_2⟩
  have Rb1 : Hid (R64 b1) := ⟨hb1_1, hb1_2⟩
  have Rb2 : Hid (R64 b2) := ⟨hb2_1, hb2_2⟩
  have Rc1 : Hid (R64 c1) := ⟨hc1_1, hc1_2⟩
  have Rc2 : Hid (R64 c2) := ⟨hc2_1, hc2_2⟩
  have Rd1 : Hid (R64 d1) := ⟨hd1_1, hd1_2⟩
  have Rd2 : Hid (R64 d2) := ⟨hd2_1, hd2_2⟩
  have Rs1 : Hid (R64 s1) := ⟨hs1_1, hs1_2⟩
  have Rs2 : Hid (R64 s2) := ⟨hs2_1, hs2_2⟩
  clear ha1_1 ha1_2 ha2_1 ha2_2 hb1_1 hb1_2 hb2_1 hb2_2 hc1_1 hc1_2 hc2_1 hc2_2 hd1_1 hd1_2 hd2_1 hd2_2 hs1_1 hs1_2 hs2_1 hs2_2
  cases ha : mvC a1 a2 s1 s2
  · skip
    obtain ⟨W, hW, bW, x_t, x_d, x_s, sW⟩ := bs_622 w (.int .i64 a1) (.int .i64 a2) (.int .i64 b1) (.int .i64 b2) (.int .i64 c1) (.int .i64 c2) (.int .i64 d1) (.int .i64 d2) (.int .i64 s1) (.int .i64 s2) 41 23 23
    have zbW := bW.size
    have BB := bW
    go_enter Try.func7, Try.ntmps7
    go_wp2_with (go_at_call 22; fail)
    rw [← hW]
    clear hW
    refine (pMoved a1 a2 s1 s2 W Ra1 Ra2 Rs1 Rs2 ha.symm).mono ?_
    rintro e w0 ⟨u0, v0, rfl, g0, bw0⟩
    have zbw0 := bw0.size
    replace BB := also BB bw0
    replace x_t := x_t.on bw0
    replace x_d := x_d.on bw0
    replace x_s := x_s.on bw0
    clear g0
    obtain ⟨Z0, hZ0, bZ0, x_ma, sZ0⟩ := bs_2 w0 (.int .i64 u0) (.int .i64 v0) 23
    have zbZ0 := bZ0.size
    replace BB := also BB bZ0
    replace x_t := x_t.on bZ0
    replace x_d := x_d.on bZ0
    replace x_s := x_s.on bZ0
    have st_t_0 : (w0.alloc (.cells #[.int .i64 u0, .int .i64 v0] 23)).cell? ⟨w.heap.size, 0, none⟩ = some (.int .i64 a1) := by rw [← hZ0]; exact x_t.c0
    have st_t_1 : (w0.alloc (.cells #[.int .i64 u0, .int .i64 v0] 23)).cell? ⟨w.heap.size, 1, none⟩ = some (.int .i64 a2) := by rw [← hZ0]; exact x_t.c1
    have st_t_2 : (w0.alloc (.cells #[.int .i64 u0, .int .i64 v0] 23)).cell? ⟨w.heap.size, 2, none⟩ = some (.int .i64 b1) := by rw [← hZ0]; exact x_t.c2
    have st_t_3 : (w0.alloc (.cells #[.int .i64 u0, .int .i64 v0] 23)).cell? ⟨w.heap.size, 3, none⟩ = some (.int .i64 b2) := by rw [← hZ0]; exact x_t.c3
    have st_t_4 : (w0.alloc (.cells #[.int .i64 u0, .int .i64 v0] 23)).cell? ⟨w.heap.size, 4, none⟩ = some (.int .i64 c1) := by rw [← hZ0]; exact x_t.c4
    have st_t_5 : (w0.alloc (.cells #[.int .i64 u0, .int .i64 v0] 23)).cell? ⟨w.heap.size, 5, none⟩ = some (.int .i64 c2) := by rw [← hZ0]; exact x_t.c5
    have sf_t_0 : (w0.alloc (.cells #[.int .i64 u0, .int .i64 v0] 23)).frozen? ⟨w.heap.size, 0, none⟩ = false := by rw [← hZ0]; exact x_t.f0
    have sf_t_1 : (w0.alloc (.cells #[.int .i64 u0, .int .i64 v0] 23)).frozen? ⟨w.heap.size, 1, none⟩ = false := by rw [← hZ0]; exact x_t.f1
    have sf_t_2 : (w0.alloc (.cells #[.int .i64 u0, .int .i64 v0] 23)).frozen? ⟨w.heap.size, 2, none⟩ = false := by rw [← hZ0]; exact x_t.f2
    have sf_t_3 : (w0.alloc (.cells #[.int .i64 u0, .int .i64 v0] 23)).frozen? ⟨w.heap.size, 3, none⟩ = false := by rw [← hZ0]; exact x_t.f3
    have sf_t_4 : (w0.alloc (.cells #[.int .i64 u0, .int .i64 v0] 23)).frozen? ⟨w.heap.size, 4, none⟩ = false := by rw [← hZ0]; exact x_t.f4
    have sf_t_5 : (w0.alloc (.cells #[.int .i64 u0, .int .i64 v0] 23)).frozen? ⟨w.heap.size, 5, none⟩ = false := by rw [← hZ0]; exact x_t.f5
    have st_d_0 : (w0.alloc (.cells #[.int .i64 u0, .int .i64 v0] 23)).cell? ⟨w.heap.size + 1, 0, none⟩ = some (.int .i64 d1) := by rw [← hZ0]; exact x_d.c0
    have st_d_1 : (w0.alloc (.cells #[.int .i64 u0, .int .i64 v0] 23)).cell? ⟨w.heap.size + 1, 1, none⟩ = some (.int .i64 d2) := by rw [← hZ0]; exact x_d.c1
    have sf_d_0 : (w0.alloc (.cells #[.int .i64 u0, .int .i64 v0] 23)).frozen? ⟨w.heap.size + 1, 0, none⟩ = false := by rw [← hZ0]; exact x_d.f0
    have sf_d_1 : (w0.alloc (.cells #[.int .i64 u0, .int .i64 v0] 23)).frozen? ⟨w.heap.size + 1, 1, none⟩ = false := by rw [← hZ0]; exact x_d.f1
    have st_s_0 : (w0.alloc (.cells #[.int .i64 u0, .int .i64 v0] 23)).cell? ⟨w.heap.size + 1 + 1, 0, none⟩ = some (.int .i64 s1) := by rw [← hZ0]; exact x_s.c0
    have st_s_1 : (w0.alloc (.cells #[.int .i64 u0, .int .i64 v0] 23)).cell? ⟨w.heap.size + 1 + 1, 1, none⟩ = some (.int .i64 s2) := by rw [← hZ0]; exact x_s.c1
    have sf_s_0 : (w0.alloc (.cells #[.int .i64 u0, .int .i64 v0] 23)).frozen? ⟨w.heap.size + 1 + 1, 0, none⟩ = false := by rw [← hZ0]; exact x_s.f0
    have sf_s_1 : (w0.alloc (.cells #[.int .i64 u0, .int .i64 v0] 23)).frozen? ⟨w.heap.size + 1 + 1, 1, none⟩ = false := by rw [← hZ0]; exact x_s.f1
    go_wp2_with (go_at_call 22; fail)
    rw [← hZ0]
    clear hZ0 st_t_0 st_t_1 st_t_2 st_t_3 st_t_4 st_t_5 sf_t_0 sf_t_1 sf_t_2 sf_t_3 sf_t_4 sf_t_5 st_d_0 st_d_1 sf_d_0 sf_d_1 st_s_0 st_s_1 sf_s_0 sf_s_1
    refine (pMoved b1 b2 s1 s2 Z0 Rb1 Rb2 Rs1 Rs2 rfl).mono ?_
    rintro e w1 ⟨u1, v1, rfl, g1, bw1⟩
    have zbw1 := bw1.size
    replace BB := also BB bw1
    replace x_t := x_t.on bw1
    replace x_d := x_d.on bw1
    replace x_s := x_s.on bw1
    replace x_ma := x_ma.on bw1
    generalize mvC b1 b2 s1 s2 = z1 at *
    clear g1
    obtain ⟨Z1, hZ1, bZ1, x_mb, sZ1⟩ := bs_2 w1 (.int .i64 u1) (.int .i64 v1) 23
    have zbZ1 := bZ1.size
    replace BB := also BB bZ1
    replace x_t := x_t.on bZ1
    replace x_d := x_d.on bZ1
    replace x_s := x_s.on bZ1
    replace x_ma := x_ma.on bZ1
    have st_t_0 : (w1.alloc (.cells #[.int .i64 u1, .int .i64 v1] 23)).cell? ⟨w.heap.size, 0, none⟩ = some (.int .i64 a1) := by rw [← hZ1]; exact x_t.c0
    have st_t_1 : (w1.alloc (.cells #[.int .i64 u1, .int .i64 v1] 23)).cell? ⟨w.heap.size, 1, none⟩ = some (.int .i64 a2) := by rw [← hZ1]; exact x_t.c1
    have st_t_2 : (w1.alloc (.cells #[.int .i64 u1, .int .i64 v1] 23)).cell? ⟨w.heap.size, 2, none⟩ = some (.int .i64 b1) := by rw [← hZ1]; exact x_t.c2
    have st_t_3 : (w1.alloc (.cells #[.int .i64 u1, .int .i64 v1] 23)).cell? ⟨w.heap.size, 3, none⟩ = some (.int .i64 b2) := by rw [← hZ1]; exact x_t.c3
    have st_t_4 : (w1.alloc (.cells #[.int .i64 u1, .int .i64 v1] 23)).cell? ⟨w.heap.size, 4, none⟩ = some (.int .i64 c1) := by rw [← hZ1]; exact x_t.c4
    have st_t_5 : (w1.alloc (.cells #[.int .i64 u1, .int .i64 v1] 23)).cell? ⟨w.heap.size, 5, none⟩ = some (.int .i64 c2) := by rw [← hZ1]; exact x_t.c5
    have sf_t_0 : (w1.alloc (.cells #[.int .i64 u1, .int .i64 v1] 23)).frozen? ⟨w.heap.size, 0, none⟩ = false := by rw [← hZ1]; exact x_t.f0
    have sf_t_1 : (w1.alloc (.cells #[.int .i64 u1, .int .i64 v1] 23)).frozen? ⟨w.heap.size, 1, none⟩ = false := by rw [← hZ1]; exact x_t.f1
    have sf_t_2 : (w1.alloc (.cells #[.int .i64 u1, .int .i64 v1] 23)).frozen? ⟨w.heap.size, 2, none⟩ = false := by rw [← hZ1]; exact x_t.f2
    have sf_t_3 : (w1.alloc (.cells #[.int .i64 u1, .int .i64 v1] 23)).frozen? ⟨w.heap.size, 3, none⟩ = false := by rw [← hZ1]; exact x_t.f3
    have sf_t_4 : (w1.alloc (.cells #[.int .i64 u1, .int .i64 v1] 23)).frozen? ⟨w.heap.size, 4, none⟩ = false := by rw [← hZ1]; exact x_t.f4
    have sf_t_5 : (w1.alloc (.cells #[.int .i64 u1, .int .i64 v1] 23)).frozen? ⟨w.heap.size, 5, none⟩ = false := by rw [← hZ1]; exact x_t.f5
    have st_d_0 : (w1.alloc (.cells #[.int .i64 u1, .int .i64 v1] 23)).cell? ⟨w.heap.size + 1, 0, none⟩ = some (.int .i64 d1) := by rw [← hZ1]; exact x_d.c0
    have st_d_1 : (w1.alloc (.cells #[.int .i64 u1, .int .i64 v1] 23)).cell? ⟨w.heap.size + 1, 1, none⟩ = some (.int .i64 d2) := by rw [← hZ1]; exact x_d.c1
    have sf_d_0 : (w1.alloc (.cells #[.int .i64 u1, .int .i64 v1] 23)).frozen? ⟨w.heap.size + 1, 0, none⟩ = false := by rw [← hZ1]; exact x_d.f0
    have sf_d_1 : (w1.alloc (.cells #[.int .i64 u1, .int .i64 v1] 23)).frozen? ⟨w.heap.size + 1, 1, none⟩ = false := by rw [← hZ1]; exact x_d.f1
    have st_s_0 : (w1.alloc (.cells #[.int .i64 u1, .int .i64 v1] 23)).cell? ⟨w.heap.size + 1 + 1, 0, none⟩ = some (.int .i64 s1) := by rw [← hZ1]; exact x_s.c0
    have st_s_1 : (w1.alloc (.cells #[.int .i64 u1, .int .i64 v1] 23)).cell? ⟨w.heap.size + 1 + 1, 1, none⟩ = some (.int .i64 s2) := by rw [← hZ1]; exact x_s.c1
    have sf_s_0 : (w1.alloc (.cells #[.int .i64 u1, .int .i64 v1] 23)).frozen? ⟨w.heap.size + 1 + 1, 0, none⟩ = false := by rw [← hZ1]; exact x_s.f0
    have sf_s_1 : (w1.alloc (.cells #[.int .i64 u1, .int .i64 v1] 23)).frozen? ⟨w.heap.size + 1 + 1, 1, none⟩ = false := by rw [← hZ1]; exact x_s.f1
    go_wp2_with (go_at_call 22; fail)
    rw [← hZ1]
    clear hZ1 st_t_0 st_t_1 st_t_2 st_t_3 st_t_4 st_t_5 sf_t_0 sf_t_1 sf_t_2 sf_t_3 sf_t_4 sf_t_5 st_d_0 st_d_1 sf_d_0 sf_d_1 st_s_0 st_s_1 sf_s_0 sf_s_1
    refine (pMoved c1 c2 s1 s2 Z1 Rc1 Rc2 Rs1 Rs2 rfl).mono ?_
    rintro e w2 ⟨u2, v2, rfl, g2, bw2⟩
    have zbw2 := bw2.size
    replace BB := also BB bw2
    replace x_t := x_t.on bw2
    replace x_d := x_d.on bw2
    replace x_s := x_s.on bw2
    replace x_ma := x_ma.on bw2
    replace x_mb := x_mb.on bw2
    generalize mvC c1 c2 s1 s2 = z2 at *
    clear g2
    obtain ⟨Z2, hZ2, bZ2, x_mc, sZ2⟩ := bs_2 w2 (.int .i64 u2) (.int .i64 v2) 23
    have zbZ2 := bZ2.size
    replace BB := also BB bZ2
    replace x_t := x_t.on bZ2
    replace x_d := x_d.on bZ2
    replace x_s := x_s.on bZ2
    replace x_ma := x_ma.on bZ2
    replace x_mb := x_mb.on bZ2
    have st_t_0 : (w2.alloc (.cells #[.int .i64 u2, .int .i64 v2] 23)).cell? ⟨w.heap.size, 0, none⟩ = some (.int .i64 a1) := by rw [← hZ2]; exact x_t.c0
    have st_t_1 : (w2.alloc (.cells #[.int .i64 u2, .int .i64 v2] 23)).cell? ⟨w.heap.size, 1, none⟩ = some (.int .i64 a2) := by rw [← hZ2]; exact x_t.c1
    have st_t_2 : (w2.alloc (.cells #[.int .i64 u2, .int .i64 v2] 23)).cell? ⟨w.heap.size, 2, none⟩ = some (.int .i64 b1) := by rw [← hZ2]; exact x_t.c2
    have st_t_3 : (w2.alloc (.cells #[.int .i64 u2, .int .i64 v2] 23)).cell? ⟨w.heap.size, 3, none⟩ = some (.int .i64 b2) := by rw [← hZ2]; exact x_t.c3
    have st_t_4 : (w2.alloc (.cells #[.int .i64 u2, .int .i64 v2] 23)).cell? ⟨w.heap.size, 4, none⟩ = some (.int .i64 c1) := by rw [← hZ2]; exact x_t.c4
    have st_t_5 : (w2.alloc (.cells #[.int .i64 u2, .int .i64 v2] 23)).cell? ⟨w.heap.size, 5, none⟩ = some (.int .i64 c2) := by rw [← hZ2]; exact x_t.c5
    have sf_t_0 : (w2.alloc (.cells #[.int .i64 u2, .int .i64 v2] 23)).frozen? ⟨w.heap.size, 0, none⟩ = false := by rw [← hZ2]; exact x_t.f0
    have sf_t_1 : (w2.alloc (.cells #[.int .i64 u2, .int .i64 v2] 23)).frozen? ⟨w.heap.size, 1, none⟩ = false := by rw [← hZ2]; exact x_t.f1
    have sf_t_2 : (w2.alloc (.cells #[.int .i64 u2, .int .i64 v2] 23)).frozen? ⟨w.heap.size, 2, none⟩ = false := by rw [← hZ2]; exact x_t.f2
    have sf_t_3 : (w2.alloc (.cells #[.int .i64 u2, .int .i64 v2] 23)).frozen? ⟨w.heap.size, 3, none⟩ = false := by rw [← hZ2]; exact x_t.f3
    have sf_t_4 : (w2.alloc (.cells #[.int .i64 u2, .int .i64 v2] 23)).frozen? ⟨w.heap.size, 4, none⟩ = false := by rw [← hZ2]; exact x_t.f4
    have sf_t_5 : (w2.alloc (.cells #[.int .i64 u2, .int .i64 v2] 23)).frozen? ⟨w.heap.size, 5, none⟩ = false := by rw [← hZ2]; exact x_t.f5
    have st_d_0 : (w2.alloc (.cells #[.int .i64 u2, .int .i64 v2] 23)).cell? ⟨w.heap.size + 1, 0, none⟩ = some (.int .i64 d1) := by rw [← hZ2]; exact x_d.c0
    have st_d_1 : (w2.alloc (.cells #[.int .i64 u2, .int .i64 v2] 23)).cell? ⟨w.heap.size + 1, 1, none⟩ = some (.int .i64 d2) := by rw [← hZ2]; exact x_d.c1
    have sf_d_0 : (w2.alloc (.cells #[.int .i64 u2, .int .i64 v2] 23)).frozen? ⟨w.heap.size + 1, 0, none⟩ = false := by rw [← hZ2]; exact x_d.f0
    have sf_d_1 : (w2.alloc (.cells #[.int .i64 u2, .int .i64 v2] 23)).frozen? ⟨w.heap.size + 1, 1, none⟩ = false := by rw [← hZ2]; exact x_d.f1
    have st_s_0 : (w2.alloc (.cells #[.int .i64 u2, .int .i64 v2] 23)).cell? ⟨w.heap.size + 1 + 1, 0, none⟩ = some (.int .i64 s1) := by rw [← hZ2]; exact x_s.c0
    have st_s_1 : (w2.alloc (.cells #[.int .i64 u2, .int .i64 v2] 23)).cell? ⟨w.heap.size + 1 + 1, 1, none⟩ = some (.int .i64 s2) := by rw [← hZ2]; exact x_s.c1
    have sf_s_0 : (w2.alloc (.cells #[.int .i64 u2, .int .i64 v2] 23)).frozen? ⟨w.heap.size + 1 + 1, 0, none⟩ = false := by rw [← hZ2]; exact x_s.f0
    have sf_s_1 : (w2.alloc (.cells #[.int .i64 u2, .int .i64 v2] 23)).frozen? ⟨w.heap.size + 1 + 1, 1, none⟩ = false := by rw [← hZ2]; exact x_s.f1
    go_wp2_with (go_at_call 22; fail)
    rw [← hZ2]
    clear hZ2 st_t_0 st_t_1 st_t_2 st_t_3 st_t_4 st_t_5 sf_t_0 sf_t_1 sf_t_2 sf_t_3 sf_t_4 sf_t_5 st_d_0 st_d_1 sf_d_0 sf_d_1 st_s_0 st_s_1 sf_s_0 sf_s_1
    refine (pMoved d1 d2 s1 s2 Z2 Rd1 Rd2 Rs1 Rs2 rfl).mono ?_
    rintro e w3 ⟨u3, v3, rfl, g3, bw3⟩
    have zbw3 := bw3.size
    replace BB := also BB bw3
    replace x_t := x_t.on bw3
    replace x_d := x_d.on bw3
    replace x_s := x_s.on bw3
    replace x_ma := x_ma.on bw3
    replace x_mb := x_mb.on bw3
    replace x_mc := x_mc.on bw3
    generalize mvC d1 d2 s1 s2 = z3 at *
    clear g3
    obtain ⟨Z3, hZ3, bZ3, x_md, sZ3⟩ := bs_2 w3 (.int .i64 u3) (.int .i64 v3) 23
    have zbZ3 := bZ3.size
    replace BB := also BB bZ3
    replace x_t := x_t.on bZ3
    replace x_d := x_d.on bZ3
    replace x_s := x_s.on bZ3
    replace x_ma := x_ma.on bZ3
    replace x_mb := x_mb.on bZ3
    replace x_mc := x_mc.on bZ3
    go_wp2_with (go_at_call 13; fail)
    rw [← hZ3]
    clear hZ3
    refine (lives7_any Z3).mono ?_
    rintro e v9 ⟨rfl, bv9⟩
    have zbv9 := bv9.size
    replace BB := also BB bv9
    replace x_t := x_t.on bv9
    replace x_d := x_d.on bv9
    replace x_s := x_s.on bv9
    replace x_ma := x_ma.on bv9
    replace x_mb := x_mb.on bv9
    replace x_mc := x_mc.on bv9
    replace x_md := x_md.on bv9
    go_wp2
    go_ret
    exact ⟨rfl, BB⟩
  · skip
    cases hb : mvC b1 b2 s1 s2
    · skip
      obtain ⟨W, hW, bW, x_t, x_d, x_s, sW⟩ := bs_622 w (.int .i64 a1) (.int .i64 a2) (.int .i64 b1) (.int .i64 b2) (.int .i64 c1) (.int .i64 c2) (.int .i64 d1) (.int .i64 d2) (.int .i64 s1) (.int .i64 s2) 41 23 23
      have zbW := bW.size
      have BB := bW
      go_enter Try.func7, Try.ntmps7
      go_wp2_with (go_at_call 22; fail)
      rw [← hW]
      clear hW
      refine (pMoved a1 a2 s1 s2 W Ra1 Ra2 Rs1 Rs2 ha.symm).mono ?_
      rintro e w0 ⟨u0, v0, rfl, g0, bw0⟩
      have zbw0 := bw0.size
      replace BB := also BB bw0
      replace x_t := x_t.on bw0
      replace x_d := x_d.on bw0
      replace x_s := x_s.on bw0
      clear g0
      obtain ⟨Z0, hZ0, bZ0, x_ma, sZ0⟩ := bs_2 w0 (.int .i64 u0) (.int .i64 v0) 23
      have zbZ0 := bZ0.size
      replace BB := also BB bZ0
      replace x_t := x_t.on bZ0
      replace x_d := x_d.on bZ0
      replace x_s := x_s.on bZ0
      have st_t_0 : (w0.alloc (.cells #[.int .i64 u0, .int .i64 v0] 23)).cell? ⟨w.heap.size, 0, none⟩ = some (.int .i64 a1) := by rw [← hZ0]; exact x_t.c0
      have st_t_1 : (w0.alloc (.cells #[.int .i64 u0, .int .i64 v0] 23)).cell? ⟨w.heap.size, 1, none⟩ = some (.int .i64 a2) := by rw [← hZ0]; exact x_t.c1
      have st_t_2 : (w0.alloc (.cells #[.int .i64 u0, .int .i64 v0] 23)).cell? ⟨w.heap.size, 2, none⟩ = some (.int .i64 b1) := by rw [← hZ0]; exact x_t.c2
      have st_t_3 : (w0.alloc (.cells #[.int .i64 u0, .int .i64 v0] 23)).cell? ⟨w.heap.size, 3, none⟩ = some (.int .i64 b2) := by rw [← hZ0]; exact x_t.c3
      have st_t_4 : (w0.alloc (.cells #[.int .i64 u0, .int .i64 v0] 23)).cell? ⟨w.heap.size, 4, none⟩ = some (.int .i64 c1) := by rw [← hZ0]; exact x_t.c4
      have st_t_5 : (w0.alloc (.cells #[.int .i64 u0, .int .i64 v0] 23)).cell? ⟨w.heap.size, 5, none⟩ = some (.int .i64 c2) := by rw [← hZ0]; exact x_t.c5
      have sf_t_0 : (w0.alloc (.cells #[.int .i64 u0, .int .i64 v0] 23)).frozen? ⟨w.heap.size, 0, none⟩ = false := by rw [← hZ0]; exact x_t.f0
      have sf_t_1 : (w0.alloc (.cells #[.int .i64 u0, .int .i64 v0] 23)).frozen? ⟨w.heap.size, 1, none⟩ = false := by rw [← hZ0]; exact x_t.f1
      have sf_t_2 : (w0.alloc (.cells #[.int .i64 u0, .int .i64 v0] 23)).frozen? ⟨w.heap.size, 2, none⟩ = false := by rw [← hZ0]; exact x_t.f2
      have sf_t_3 : (w0.alloc (.cells #[.int .i64 u0, .int .i64 v0] 23)).frozen? ⟨w.heap.size, 3, none⟩ = false := by rw [← hZ0]; exact x_t.f3
      have sf_t_4 : (w0.alloc (.cells #[.int .i64 u0, .int .i64 v0] 23)).frozen? ⟨w.heap.size, 4, none⟩ = false := by rw [← hZ0]; exact x_t.f4
      have sf_t_5 : (w0.alloc (.cells #[.int .i64 u0, .int .i64 v0] 23)).frozen? ⟨w.heap.size, 5, none⟩ = false := by rw [← hZ0]; exact x_t.f5
      have st_d_0 : (w0.alloc (.cells #[.int .i64 u0, .int .i64 v0] 23)).cell? ⟨w.heap.size + 1, 0, none⟩ = some (.int .i64 d1) := by rw [← hZ0]; exact x_d.c0
      have st_d_1 : (w0.alloc (.cells #[.int .i64 u0, .int .i64 v0] 23)).cell? ⟨w.heap.size + 1, 1, none⟩ = some (.int .i64 d2) := by rw [← hZ0]; exact x_d.c1
      have sf_d_0 : (w0.alloc (.cells #[.int .i64 u0, .int .i64 v0] 23)).frozen? ⟨w.heap.size + 1, 0, none⟩ = false := by rw [← hZ0]; exact x_d.f0
      have sf_d_1 : (w0.alloc (.cells #[.int .i64 u0, .int .i64 v0] 23)).frozen? ⟨w.heap.size + 1, 1, none⟩ = false := by rw [← hZ0]; exact x_d.f1
      have st_s_0 : (w0.alloc (.cells #[.int .i64 u0, .int .i64 v0] 23)).cell? ⟨w.heap.size + 1 + 1, 0, none⟩ = some (.int .i64 s1) := by rw [← hZ0]; exact x_s.c0
      have st_s_1 : (w0.alloc (.cells #[.int .i64 u0, .int .i64 v0] 23)).cell? ⟨w.heap.size + 1 + 1, 1, none⟩ = some (.int .i64 s2) := by rw [← hZ0]; exact x_s.c1
      have sf_s_0 : (w0.alloc (.cells #[.int .i64 u0, .int .i64 v0] 23)).frozen? ⟨w.heap.size + 1 + 1, 0, none⟩ = false := by rw [← hZ0]; exact x_s.f0
      have sf_s_1 : (w0.alloc (.cells #[.int .i64 u0, .int .i64 v0] 23)).frozen? ⟨w.heap.size + 1 + 1, 1, none⟩ = false := by rw [← hZ0]; exact x_s.f1
      go_wp2_with (go_at_call 22; fail)
      rw [← hZ0]
      clear hZ0 st_t_0 st_t_1 st_t_2 st_t_3 st_t_4 st_t_5 sf_t_0 sf_t_1 sf_t_2 sf_t_3 sf_t_4 sf_t_5 st_d_0 st_d_1 sf_d_0 sf_d_1 st_s_0 st_s_1 sf_s_0 sf_s_1
      refine (pMoved b1 b2 s1 s2 Z0 Rb1 Rb2 Rs1 Rs2 hb.symm).mono ?_
      rintro e w1 ⟨u1, v1, rfl, g1, bw1⟩
      have zbw1 := bw1.size
      replace BB := also BB bw1
      replace x_t := x_t.on bw1
      replace x_d := x_d.on bw1
      replace x_s := x_s.on bw1
      replace x_ma := x_ma.on bw1
      clear g1
      obtain ⟨Z1, hZ1, bZ1, x_mb, sZ1⟩ := bs_2 w1 (.int .i64 u1) (.int .i64 v1) 23
      have zbZ1 := bZ1.size
      replace BB := also BB bZ1
      replace x_t := x_t.on bZ1
      replace x_d := x_d.on bZ1
      replace x_s := x_s.on bZ1
      replace x_ma := x_ma.on bZ1
      have st_t_0 : (w1.alloc (.cells #[.int .i64 u1, .int .i64 v1] 23)).cell? ⟨w.heap.size, 0, none⟩ = some (.int .i64 a1) := by rw [← hZ1]; exact x_t.c0
      have st_t_1 : (w1.alloc (.cells #[.int .i64 u1, .int .i64 v1] 23)).cell? ⟨w.heap.size, 1, none⟩ = some (.int .i64 a2) := by rw [← hZ1]; exact x_t.c1
      have st_t_2 : (w1.alloc (.cells #[.int .i64 u1, .int .i64 v1] 23)).cell? ⟨w.heap.size, 2, none⟩ = some (.int .i64 b1) := by rw [← hZ1]; exact x_t.c2
      have st_t_3 : (w1.alloc (.cells #[.int .i64 u1, .int .i64 v1] 23)).cell? ⟨w.heap.size, 3, none⟩ = some (.int .i64 b2) := by rw [← hZ1]; exact x_t.c3
      have st_t_4 : (w1.alloc (.cells #[.int .i64 u1, .int .i64 v1] 23)).cell? ⟨w.heap.size, 4, none⟩ = some (.int .i64 c1) := by rw [← hZ1]; exact x_t.c4
      have st_t_5 : (w1.alloc (.cells #[.int .i64 u1, .int .i64 v1] 23)).cell? ⟨w.heap.size, 5, none⟩ = some (.int .i64 c2) := by rw [← hZ1]; exact x_t.c5
      have sf_t_0 : (w1.alloc (.cells #[.int .i64 u1, .int .i64 v1] 23)).frozen? ⟨w.heap.size, 0, none⟩ = false := by rw [← hZ1]; exact x_t.f0
      have sf_t_1 : (w1.alloc (.cells #[.int .i64 u1, .int .i64 v1] 23)).frozen? ⟨w.heap.size, 1, none⟩ = false := by rw [← hZ1]; exact x_t.f1
      have sf_t_2 : (w1.alloc (.cells #[.int .i64 u1, .int .i64 v1] 23)).frozen? ⟨w.heap.size, 2, none⟩ = false := by rw [← hZ1]; exact x_t.f2
      have sf_t_3 : (w1.alloc (.cells #[.int .i64 u1, .int .i64 v1] 23)).frozen? ⟨w.heap.size, 3, none⟩ = false := by rw [← hZ1]; exact x_t.f3
      have sf_t_4 : (w1.alloc (.cells #[.int .i64 u1, .int .i64 v1] 23)).frozen? ⟨w.heap.size, 4, none⟩ = false := by rw [← hZ1]; exact x_t.f4
      have sf_t_5 : (w1.alloc (.cells #[.int .i64 u1, .int .i64 v1] 23)).frozen? ⟨w.heap.size, 5, none⟩ = false := by rw [← hZ1]; exact x_t.f5
      have st_d_0 : (w1.alloc (.cells #[.int .i64 u1, .int .i64 v1] 23)).cell? ⟨w.heap.size + 1, 0, none⟩ = some (.int .i64 d1) := by rw [← hZ1]; exact x_d.c0
      have st_d_1 : (w1.alloc (.cells #[.int .i64 u1, .int .i64 v1] 23)).cell? ⟨w.heap.size + 1, 1, none⟩ = some (.int .i64 d2) := by rw [← hZ1]; exact x_d.c1
      have sf_d_0 : (w1.alloc (.cells #[.int .i64 u1, .int .i64 v1] 23)).frozen? ⟨w.heap.size + 1, 0, none⟩ = false := by rw [← hZ1]; exact x_d.f0
      have sf_d_1 : (w1.alloc (.cells #[.int .i64 u1, .int .i64 v1] 23)).frozen? ⟨w.heap.size + 1, 1, none⟩ = false := by rw [← hZ1]; exact x_d.f1
      have st_s_0 : (w1.alloc (.cells #[.int .i64 u1, .int .i64 v1] 23)).cell? ⟨w.heap.size + 1 + 1, 0, none⟩ = some (.int .i64 s1) := by rw [← hZ1]; exact x_s.c0
      have st_s_1 : (w1.alloc (.cells #[.int .i64 u1, .int .i64 v1] 23)).cell? ⟨w.heap.size + 1 + 1, 1, none⟩ = some (.int .i64 s2) := by rw [← hZ1]; exact x_s.c1
      have sf_s_0 : (w1.alloc (.cells #[.int .i64 u1, .int .i64 v1] 23)).frozen? ⟨w.heap.size + 1 + 1, 0, none⟩ = false := by rw [← hZ1]; exact x_s.f0
      have sf_s_1 : (w1.alloc (.cells #[.int .i64 u1, .int .i64 v1] 23)).frozen? ⟨w.heap.size + 1 + 1, 1, none⟩ = false := by rw [← hZ1]; exact x_s.f1
      go_wp2_with (go_at_call 22; fail)
      rw [← hZ1]
      clear hZ1 st_t_0 st_t_1 st_t_2 st_t_3 st_t_4 st_t_5 sf_t_0 sf_t_1 sf_t_2 sf_t_3 sf_t_4 sf_t_5 st_d_0 st_d_1 sf_d_0 sf_d_1 st_s_0 st_s_1 sf_s_0 sf_s_1
      refine (pMoved c1 c2 s1 s2 Z1 Rc1 Rc2 Rs1 Rs2 rfl).mono ?_
      rintro e w2 ⟨u2, v2, rfl, g2, bw2⟩
      have zbw2 := bw2.size
      replace BB := also BB bw2
      replace x_t := x_t.on bw2
      replace x_d := x_d.on bw2
      replace x_s := x_s.on bw2
      replace x_ma := x_ma.on bw2
      replace x_mb := x_mb.on bw2
      generalize mvC c1 c2 s1 s2 = z2 at *
      clear g2
      obtain ⟨Z2, hZ2, bZ2, x_mc, sZ2⟩ := bs_2 w2 (.int .i64 u2) (.int .i64 v2) 23
      have zbZ2 := bZ2.size
      replace BB := also BB bZ2
      replace x_t := x_t.on bZ2
      replace x_d := x_d.on bZ2
      replace x_s := x_s.on bZ2
      replace x_ma := x_ma.on bZ2
      replace x_mb := x_mb.on bZ2
      have st_t_0 : (w2.alloc (.cells #[.int .i64 u2, .int .i64 v2] 23)).cell? ⟨w.heap.size, 0, none⟩ = some (.int .i64 a1) := by rw [← hZ2]; exact x_t.c0
      have st_t_1 : (w2.alloc (.cells #[.int .i64 u2, .int .i64 v2] 23)).cell? ⟨w.heap.size, 1, none⟩ = some (.int .i64 a2) := by rw [← hZ2]; exact x_t.c1
      have st_t_2 : (w2.alloc (.cells #[.int .i64 u2, .int .i64 v2] 23)).cell? ⟨w.heap.size, 2, none⟩ = some (.int .i64 b1) := by rw [← hZ2]; exact x_t.c2
      have st_t_3 : (w2.alloc (.cells #[.int .i64 u2, .int .i64 v2] 23)).cell? ⟨w.heap.size, 3, none⟩ = some (.int .i64 b2) := by rw [← hZ2]; exact x_t.c3
      have st_t_4 : (w2.alloc (.cells #[.int .i64 u2, .int .i64 v2] 23)).cell? ⟨w.heap.size, 4, none⟩ = some (.int .i64 c1) := by rw [← hZ2]; exact x_t.c4
      have st_t_5 : (w2.alloc (.cells #[.int .i64 u2, .int .i64 v2] 23)).cell? ⟨w.heap.size, 5, none⟩ = some (.int .i64 c2) := by rw [← hZ2]; exact x_t.c5
      have sf_t_0 : (w2.alloc (.cells #[.int .i64 u2, .int .i64 v2] 23)).frozen? ⟨w.heap.size, 0, none⟩ = false := by rw [← hZ2]; exact x_t.f0
      have sf_t_1 : (w2.alloc (.cells #[.int .i64 u2, .int .i64 v2] 23)).frozen? ⟨w.heap.size, 1, none⟩ = false := by rw [← hZ2]; exact x_t.f1
      have sf_t_2 : (w2.alloc (.cells #[.int .i64 u2, .int .i64 v2] 23)).frozen? ⟨w.heap.size, 2, none⟩ = false := by rw [← hZ2]; exact x_t.f2
      have sf_t_3 : (w2.alloc (.cells #[.int .i64 u2, .int .i64 v2] 23)).frozen? ⟨w.heap.size, 3, none⟩ = false := by rw [← hZ2]; exact x_t.f3
      have sf_t_4 : (w2.alloc (.cells #[.int .i64 u2, .int .i64 v2] 23)).frozen? ⟨w.heap.size, 4, none⟩ = false := by rw [← hZ2]; exact x_t.f4
      have sf_t_5 : (w2.alloc (.cells #[.int .i64 u2, .int .i64 v2] 23)).frozen? ⟨w.heap.size, 5, none⟩ = false := by rw [← hZ2]; exact x_t.f5
      have st_d_0 : (w2.alloc (.cells #[.int .i64 u2, .int .i64 v2] 23)).cell? ⟨w.heap.size + 1, 0, none⟩ = some (.int .i64 d1) := by rw [← hZ2]; exact x_d.c0
      have st_d_1 : (w2.alloc (.cells #[.int .i64 u2, .int .i64 v2] 23)).cell? ⟨w.heap.size + 1, 1, none⟩ = some (.int .i64 d2) := by rw [← hZ2]; exact x_d.c1
      have sf_d_0 : (w2.alloc (.cells #[.int .i64 u2, .int .i64 v2] 23)).frozen? ⟨w.heap.size + 1, 0, none⟩ = false := by rw [← hZ2]; exact x_d.f0
      have sf_d_1 : (w2.alloc (.cells #[.int .i64 u2, .int .i64 v2] 23)).frozen? ⟨w.heap.size + 1, 1, none⟩ = false := by rw [← hZ2]; exact x_d.f1
      have st_s_0 : (w2.alloc (.cells #[.int .i64 u2, .int .i64 v2] 23)).cell? ⟨w.heap.size + 1 + 1, 0, none⟩ = some (.int .i64 s1) := by rw [← hZ2]; exact x_s.c0
      have st_s_1 : (w2.alloc (.cells #[.int .i64 u2, .int .i64 v2] 23)).cell? ⟨w.heap.size + 1 + 1, 1, none⟩ = some (.int .i64 s2) := by rw [← hZ2]; exact x_s.c1
      have sf_s_0 : (w2.alloc (.cells #[.int .i64 u2, .int .i64 v2] 23)).frozen? ⟨w.heap.size + 1 + 1, 0, none⟩ = false := by rw [← hZ2]; exact x_s.f0
      have sf_s_1 : (w2.alloc (.cells #[.int .i64 u2, .int .i64 v2] 23)).frozen? ⟨w.heap.size + 1 + 1, 1, none⟩ = false := by rw [← hZ2]; exact x_s.f1
      go_wp2_with (go_at_call 22; fail)
      rw [← hZ2]
      clear hZ2 st_t_0 st_t_1 st_t_2 st_t_3 st_t_4 st_t_5 sf_t_0 sf_t_1 sf_t_2 sf_t_3 sf_t_4 sf_t_5 st_d_0 st_d_1 sf_d_0 sf_d_1 st_s_0 st_s_1 sf_s_0 sf_s_1
      refine (pMoved d1 d2 s1 s2 Z2 Rd1 Rd2 Rs1 Rs2 rfl).mono ?_
      rintro e w3 ⟨u3, v3, rfl, g3, bw3⟩
      have zbw3 := bw3.size
      replace BB := also BB bw3
      replace x_t := x_t.on bw3
      replace x_d := x_d.on bw3
      replace x_s := x_s.on bw3
      replace x_ma := x_ma.on bw3
      replace x_mb := x_mb.on bw3
      replace x_mc := x_mc.on bw3
      generalize mvC d1 d2 s1 s2 = z3 at *
      clear g3
      obtain ⟨Z3, hZ3, bZ3, x_md, sZ3⟩ := bs_2 w3 (.int .i64 u3) (.int .i64 v3) 23
      have zbZ3 := bZ3.size
      replace BB := also BB bZ3
      replace x_t := x_t.on bZ3
      replace x_d := x_d.on bZ3
      replace x_s := x_s.on bZ3
      replace x_ma := x_ma.on bZ3
      replace x_mb := x_mb.on bZ3
      replace x_mc := x_mc.on bZ3
      go_wp2_with (go_at_call 13; fail)
      rw [← hZ3]
      clear hZ3
      refine (lives7_any Z3).mono ?_
      rintro e v9 ⟨rfl, bv9⟩
      have zbv9 := bv9.size
      replace BB := also BB bv9
      replace x_t := x_t.on bv9
      replace x_d := x_d.on bv9
      replace x_s := x_s.on bv9
      replace x_ma := x_ma.on bv9
      replace x_mb := x_mb.on bv9
      replace x_mc := x_mc.on bv9
      replace x_md := x_md.on bv9
      go_wp2
      go_ret
      exact ⟨rfl, BB⟩
    · skip
      cases hc : mvC c1 c2 s1 s2
      · skip
        obtain ⟨W, hW, bW, x_t, x_d, x_s, sW⟩ := bs_622 w (.int .i64 a1) (.int .i64 a2) (.int .i64 b1) (.int .i64 b2) (.int .i64 c1) (.int .i64 c2) (.int .i64 d1) (.int .i64 d2) (.int .i64 s1) (.int .i64 s2) 41 23 23
        have zbW := bW.size
        have BB := bW
        go_enter Try.func7, Try.ntmps7
        go_wp2_with (go_at_call 22; fail)
        rw [← hW]
        clear hW
        refine (pMoved a1 a2 s1 s2 W Ra1 Ra2 Rs1 Rs2 ha.symm).mono ?_
        rintro e w0 ⟨u0, v0, rfl, g0, bw0⟩
        have zbw0 := bw0.size
        replace BB := also BB bw0
        replace x_t := x_t.on bw0
        replace x_d := x_d.on bw0
        replace x_s := x_s.on bw0
        clear g0
        obtain ⟨Z0, hZ0, bZ0, x_ma, sZ0⟩ := bs_2 w0 (.int .i64 u0) (.int .i64 v0) 23
        have zbZ0 := bZ0.size
        replace BB := also BB bZ0
        replace x_t := x_t.on bZ0
        replace x_d := x_d.on bZ0
        replace x_s := x_s.on bZ0
        have st_t_0 : (w0.alloc (.cells #[.int .i64 u0, .int .i64 v0] 23)).cell? ⟨w.heap.size, 0, none⟩ = some (.int .i64 a1) := by rw [← hZ0]; exact x_t.c0
        have st_t_1 : (w0.alloc (.cells #[.int .i64 u0, .int .i64 v0] 23)).cell? ⟨w.heap.size, 1, none⟩ = some (.int .i64 a2) := by rw [← hZ0]; exact x_t.c1
        have st_t_2 : (w0.alloc (.cells #[.int .i64 u0, .int .i64 v0] 23)).cell? ⟨w.heap.size, 2, none⟩ = some (.int .i64 b1) := by rw [← hZ0]; exact x_t.c2
        have st_t_3 : (w0.alloc (.cells #[.int .i64 u0, .int .i64 v0] 23)).cell? ⟨w.heap.size, 3, none⟩ = some (.int .i64 b2) := by rw [← hZ0]; exact x_t.c3
        have st_t_4 : (w0.alloc (.cells #[.int .i64 u0, .int .i64 v0] 23)).cell? ⟨w.heap.size, 4, none⟩ = some (.int .i64 c1) := by rw [← hZ0]; exact x_t.c4
        have st_t_5 : (w0.alloc (.cells #[.int .i64 u0, .int .i64 v0] 23)).cell? ⟨w.heap.size, 5, none⟩ = some (.int .i64 c2) := by rw [← hZ0]; exact x_t.c5
        have sf_t_0 : (w0.alloc (.cells #[.int .i64 u0, .int .i64 v0] 23)).frozen? ⟨w.heap.size, 0, none⟩ = false := by rw [← hZ0]; exact x_t.f0
        have sf_t_1 : (w0.alloc (.cells #[.int .i64 u0, .int .i64 v0] 23)).frozen? ⟨w.heap.size, 1, none⟩ = false := by rw [← hZ0]; exact x_t.f1
        have sf_t_2 : (w0.alloc (.cells #[.int .i64 u0, .int .i64 v0] 23)).frozen? ⟨w.heap.size, 2, none⟩ = false := by rw [← hZ0]; exact x_t.f2
        have sf_t_3 : (w0.alloc (.cells #[.int .i64 u0, .int .i64 v0] 23)).frozen? ⟨w.heap.size, 3, none⟩ = false := by rw [← hZ0]; exact x_t.f3
        have sf_t_4 : (w0.alloc (.cells #[.int .i64 u0, .int .i64 v0] 23)).frozen? ⟨w.heap.size, 4, none⟩ = false := by rw [← hZ0]; exact x_t.f4
        have sf_t_5 : (w0.alloc (.cells #[.int .i64 u0, .int .i64 v0] 23)).frozen? ⟨w.heap.size, 5, none⟩ = false := by rw [← hZ0]; exact x_t.f5
        have st_d_0 : (w0.alloc (.cells #[.int .i64 u0, .int .i64 v0] 23)).cell? ⟨w.heap.size + 1, 0, none⟩ = some (.int .i64 d1) := by rw [← hZ0]; exact x_d.c0
        have st_d_1 : (w0.alloc (.cells #[.int .i64 u0, .int .i64 v0] 23)).cell? ⟨w.heap.size + 1, 1, none⟩ = some (.int .i64 d2) := by rw [← hZ0]; exact x_d.c1
        have sf_d_0 : (w0.alloc (.cells #[.int .i64 u0, .int .i64 v0] 23)).frozen? ⟨w.heap.size + 1, 0, none⟩ = false := by rw [← hZ0]; exact x_d.f0
        have sf_d_1 : (w0.alloc (.cells #[.int .i64 u0, .int .i64 v0] 23)).frozen? ⟨w.heap.size + 1, 1, none⟩ = false := by rw [← hZ0]; exact x_d.f1
        have st_s_0 : (w0.alloc (.cells #[.int .i64 u0, .int .i64 v0] 23)).cell? ⟨w.heap.size + 1 + 1, 0, none⟩ = some (.int .i64 s1) := by rw [← hZ0]; exact x_s.c0
        have st_s_1 : (w0.alloc (.cells #[.int .i64 u0, .int .i64 v0] 23)).cell? ⟨w.heap.size + 1 + 1, 1, none⟩ = some (.int .i64 s2) := by rw [← hZ0]; exact x_s.c1
        have sf_s_0 : (w0.alloc (.cells #[.int .i64 u0, .int .i64 v0] 23)).frozen? ⟨w.heap.size + 1 + 1, 0, none⟩ = false := by rw [← hZ0]; exact x_s.f0
        have sf_s_1 : (w0.alloc (.cells #[.int .i64 u0, .int .i64 v0] 23)).frozen? ⟨w.heap.size + 1 + 1, 1, none⟩ = false := by rw [← hZ0]; exact x_s.f1
        go_wp2_with (go_at_call 22; fail)
        rw [← hZ0]
        clear hZ0 st_t_0 st_t_1 st_t_2 st_t_3 st_t_4 st_t_5 sf_t_0 sf_t_1 sf_t_2 sf_t_3 sf_t_4 sf_t_5 st_d_0 st_d_1 sf_d_0 sf_d_1 st_s_0 st_s_1 sf_s_0 sf_s_1
        refine (pMoved b1 b2 s1 s2 Z0 Rb1 Rb2 Rs1 Rs2 hb.symm).mono ?_
        rintro e w1 ⟨u1, v1, rfl, g1, bw1⟩
        have zbw1 := bw1.size
        replace BB := also BB bw1
        replace x_t := x_t.on bw1
        replace x_d := x_d.on bw1
        replace x_s := x_s.on bw1
        replace x_ma := x_ma.on bw1
        clear g1
        obtain ⟨Z1, hZ1, bZ1, x_mb, sZ1⟩ := bs_2 w1 (.int .i64 u1) (.int .i64 v1) 23
        have zbZ1 := bZ1.size
        replace BB := also BB bZ1
        replace x_t := x_t.on bZ1
        replace x_d := x_d.on bZ1
        replace x_s := x_s.on bZ1
        replace x_ma := x_ma.on bZ1
        have st_t_0 : (w1.alloc (.cells #[.int .i64 u1, .int .i64 v1] 23)).cell? ⟨w.heap.size, 0, none⟩ = some (.int .i64 a1) := by rw [← hZ1]; exact x_t.c0
        have st_t_1 : (w1.alloc (.cells #[.int .i64 u1, .int .i64 v1] 23)).cell? ⟨w.heap.size, 1, none⟩ = some (.int .i64 a2) := by rw [← hZ1]; exact x_t.c1
        have st_t_2 : (w1.alloc (.cells #[.int .i64 u1, .int .i64 v1] 23)).cell? ⟨w.heap.size, 2, none⟩ = some (.int .i64 b1) := by rw [← hZ1]; exact x_t.c2
        have st_t_3 : (w1.alloc (.cells #[.int .i64 u1, .int .i64 v1] 23)).cell? ⟨w.heap.size, 3, none⟩ = some (.int .i64 b2) := by rw [← hZ1]; exact x_t.c3
        have st_t_4 : (w1.alloc (.cells #[.int .i64 u1, .int .i64 v1] 23)).cell? ⟨w.heap.size, 4, none⟩ = some (.int .i64 c1) := by rw [← hZ1]; exact x_t.c4
        have st_t_5 : (w1.alloc (.cells #[.int .i64 u1, .int .i64 v1] 23)).cell? ⟨w.heap.size, 5, none⟩ = some (.int .i64 c2) := by rw [← hZ1]; exact x_t.c5
        have sf_t_0 : (w1.alloc (.cells #[.int .i64 u1, .int .i64 v1] 23)).frozen? ⟨w.heap.size, 0, none⟩ = false := by rw [← hZ1]; exact x_t.f0
        have sf_t_1 : (w1.alloc (.cells #[.int .i64 u1, .int .i64 v1] 23)).frozen? ⟨w.heap.size, 1, none⟩ = false := by rw [← hZ1]; exact x_t.f1
        have sf_t_2 : (w1.alloc (.cells #[.int .i64 u1, .int .i64 v1] 23)).frozen? ⟨w.heap.size, 2, none⟩ = false := by rw [← hZ1]; exact x_t.f2
        have sf_t_3 : (w1.alloc (.cells #[.int .i64 u1, .int .i64 v1] 23)).frozen? ⟨w.heap.size, 3, none⟩ = false := by rw [← hZ1]; exact x_t.f3
        have sf_t_4 : (w1.alloc (.cells #[.int .i64 u1, .int .i64 v1] 23)).frozen? ⟨w.heap.size, 4, none⟩ = false := by rw [← hZ1]; exact x_t.f4
        have sf_t_5 : (w1.alloc (.cells #[.int .i64 u1, .int .i64 v1] 23)).frozen? ⟨w.heap.size, 5, none⟩ = false := by rw [← hZ1]; exact x_t.f5
        have st_d_0 : (w1.alloc (.cells #[.int .i64 u1, .int .i64 v1] 23)).cell? ⟨w.heap.size + 1, 0, none⟩ = some (.int .i64 d1) := by rw [← hZ1]; exact x_d.c0
        have st_d_1 : (w1.alloc (.cells #[.int .i64 u1, .int .i64 v1] 23)).cell? ⟨w.heap.size + 1, 1, none⟩ = some (.int .i64 d2) := by rw [← hZ1]; exact x_d.c1
        have sf_d_0 : (w1.alloc (.cells #[.int .i64 u1, .int .i64 v1] 23)).frozen? ⟨w.heap.size + 1, 0, none⟩ = false := by rw [← hZ1]; exact x_d.f0
        have sf_d_1 : (w1.alloc (.cells #[.int .i64 u1, .int .i64 v1] 23)).frozen? ⟨w.heap.size + 1, 1, none⟩ = false := by rw [← hZ1]; exact x_d.f1
        have st_s_0 : (w1.alloc (.cells #[.int .i64 u1, .int .i64 v1] 23)).cell? ⟨w.heap.size + 1 + 1, 0, none⟩ = some (.int .i64 s1) := by rw [← hZ1]; exact x_s.c0
        have st_s_1 : (w1.alloc (.cells #[.int .i64 u1, .int .i64 v1] 23)).cell? ⟨w.heap.size + 1 + 1, 1, none⟩ = some (.int .i64 s2) := by rw [← hZ1]; exact x_s.c1
        have sf_s_0 : (w1.alloc (.cells #[.int .i64 u1, .int .i64 v1] 23)).frozen? ⟨w.heap.size + 1 + 1, 0, none⟩ = false := by rw [← hZ1]; exact x_s.f0
        have sf_s_1 : (w1.alloc (.cells #[.int .i64 u1, .int .i64 v1] 23)).frozen? ⟨w.heap.size + 1 + 1, 1, none⟩ = false := by rw [← hZ1]; exact x_s.f1
        go_wp2_with (go_at_call 22; fail)
        rw [← hZ1]
        clear hZ1 st_t_0 st_t_1 st_t_2 st_t_3 st_t_4 st_t_5 sf_t_0 sf_t_1 sf_t_2 sf_t_3 sf_t_4 sf_t_5 st_d_0 st_d_1 sf_d_0 sf_d_1 st_s_0 st_s_1 sf_s_0 sf_s_1
        refine (pMoved c1 c2 s1 s2 Z1 Rc1 Rc2 Rs1 Rs2 hc.symm).mono ?_
        rintro e w2 ⟨u2, v2, rfl, g2, bw2⟩
        have zbw2 := bw2.size
        replace BB := also BB bw2
        replace x_t := x_t.on bw2
        replace x_d := x_d.on bw2
        replace x_s := x_s.on bw2
        replace x_ma := x_ma.on bw2
        replace x_mb := x_mb.on bw2
        clear g2
        obtain ⟨Z2, hZ2, bZ2, x_mc, sZ2⟩ := bs_2 w2 (.int .i64 u2) (.int .i64 v2) 23
        have zbZ2 := bZ2.size
        replace BB := also BB bZ2
        replace x_t := x_t.on bZ2
        replace x_d := x_d.on bZ2
        replace x_s := x_s.on bZ2
        replace x_ma := x_ma.on bZ2
        replace x_mb := x_mb.on bZ2
        have st_t_0 : (w2.alloc (.cells #[.int .i64 u2, .int .i64 v2] 23)).cell? ⟨w.heap.size, 0, none⟩ = some (.int .i64 a1) := by rw [← hZ2]; exact x_t.c0
        have st_t_1 : (w2.alloc (.cells #[.int .i64 u2, .int .i64 v2] 23)).cell? ⟨w.heap.size, 1, none⟩ = some (.int .i64 a2) := by rw [← hZ2]; exact x_t.c1
        have st_t_2 : (w2.alloc (.cells #[.int .i64 u2, .int .i64 v2] 23)).cell? ⟨w.heap.size, 2, none⟩ = some (.int .i64 b1) := by rw [← hZ2]; exact x_t.c2
        have st_t_3 : (w2.alloc (.cells #[.int .i64 u2, .int .i64 v2] 23)).cell? ⟨w.heap.size, 3, none⟩ = some (.int .i64 b2) := by rw [← hZ2]; exact x_t.c3
        have st_t_4 : (w2.alloc (.cells #[.int .i64 u2, .int .i64 v2] 23)).cell? ⟨w.heap.size, 4, none⟩ = some (.int .i64 c1) := by rw [← hZ2]; exact x_t.c4
        have st_t_5 : (w2.alloc (.cells #[.int .i64 u2, .int .i64 v2] 23)).cell? ⟨w.heap.size, 5, none⟩ = some (.int .i64 c2) := by rw [← hZ2]; exact x_t.c5
        have sf_t_0 : (w2.alloc (.cells #[.int .i64 u2, .int .i64 v2] 23)).frozen? ⟨w.heap.size, 0, none⟩ = false := by rw [← hZ2]; exact x_t.f0
        have sf_t_1 : (w2.alloc (.cells #[.int .i64 u2, .int .i64 v2] 23)).frozen? ⟨w.heap.size, 1, none⟩ = false := by rw [← hZ2]; exact x_t.f1
        have sf_t_2 : (w2.alloc (.cells #[.int .i64 u2, .int .i64 v2] 23)).frozen? ⟨w.heap.size, 2, none⟩ = false := by rw [← hZ2]; exact x_t.f2
        have sf_t_3 : (w2.alloc (.cells #[.int .i64 u2, .int .i64 v2] 23)).frozen? ⟨w.heap.size, 3, none⟩ = false := by rw [← hZ2]; exact x_t.f3
        have sf_t_4 : (w2.alloc (.cells #[.int .i64 u2, .int .i64 v2] 23)).frozen? ⟨w.heap.size, 4, none⟩ = false := by rw [← hZ2]; exact x_t.f4
        have sf_t_5 : (w2.alloc (.cells #[.int .i64 u2, .int .i64 v2] 23)).frozen? ⟨w.heap.size, 5, none⟩ = false := by rw [← hZ2]; exact x_t.f5
        have st_d_0 : (w2.alloc (.cells #[.int .i64 u2, .int .i64 v2] 23)).cell? ⟨w.heap.size + 1, 0, none⟩ = some (.int .i64 d1) := by rw [← hZ2]; exact x_d.c0
        have st_d_1 : (w2.alloc (.cells #[.int .i64 u2, .int .i64 v2] 23)).cell? ⟨w.heap.size + 1, 1, none⟩ = some (.int .i64 d2) := by rw [← hZ2]; exact x_d.c1
        have sf_d_0 : (w2.alloc (.cells #[.int .i64 u2, .int .i64 v2] 23)).frozen? ⟨w.heap.size + 1, 0, none⟩ = false := by rw [← hZ2]; exact x_d.f0
        have sf_d_1 : (w2.alloc (.cells #[.int .i64 u2, .int .i64 v2] 23)).frozen? ⟨w.heap.size + 1, 1, none⟩ = false := by rw [← hZ2]; exact x_d.f1
        have st_s_0 : (w2.alloc (.cells #[.int .i64 u2, .int .i64 v2] 23)).cell? ⟨w.heap.size + 1 + 1, 0, none⟩ = some (.int .i64 s1) := by rw [← hZ2]; exact x_s.c0
        have st_s_1 : (w2.alloc (.cells #[.int .i64 u2, .int .i64 v2] 23)).cell? ⟨w.heap.size + 1 + 1, 1, none⟩ = some (.int .i64 s2) := by rw [← hZ2]; exact x_s.c1
        have sf_s_0 : (w2.alloc (.cells #[.int .i64 u2, .int .i64 v2] 23)).frozen? ⟨w.heap.size + 1 + 1, 0, none⟩ = false := by rw [← hZ2]; exact x_s.f0
        have sf_s_1 : (w2.alloc (.cells #[.int .i64 u2, .int .i64 v2] 23)).frozen? ⟨w.heap.size + 1 + 1, 1, none⟩ = false := by rw [← hZ2]; exact x_s.f1
        go_wp2_with (go_at_call 22; fail)
        rw [← hZ2]
        clear hZ2 st_t_0 st_t_1 st_t_2 st_t_3 st_t_4 st_t_5 sf_t_0 sf_t_1 sf_t_2 sf_t_3 sf_t_4 sf_t_5 st_d_0 st_d_1 sf_d_0 sf_d_1 st_s_0 st_s_1 sf_s_0 sf_s_1
        refine (pMoved d1 d2 s1 s2 Z2 Rd1 Rd2 Rs1 Rs2 rfl).mono ?_
        rintro e w3 ⟨u3, v3, rfl, g3, bw3⟩
        have zbw3 := bw3.size
        replace BB := also BB bw3
        replace x_t := x_t.on bw3
        replace x_d := x_d.on bw3
        replace x_s := x_s.on bw3
        replace x_ma := x_ma.on bw3
        replace x_mb := x_mb.on bw3
        replace x_mc := x_mc.on bw3
        generalize mvC d1 d2 s1 s2 = z3 at *
        clear g3
        obtain ⟨Z3, hZ3, bZ3, x_md, sZ3⟩ := bs_2 w3 (.int .i64 u3) (.int .i64 v3) 23
        have zbZ3 := bZ3.size
        replace BB := also BB bZ3
        replace x_t := x_t.on bZ3
        replace x_d := x_d.on bZ3
        replace x_s := x_s.on bZ3
        replace x_ma := x_ma.on bZ3
        replace x_mb := x_mb.on bZ3
        replace x_mc := x_mc.on bZ3
        go_wp2_with (go_at_call 13; fail)
        rw [← hZ3]
        clear hZ3
        refine (lives7_any Z3).mono ?_
        rintro e v9 ⟨rfl, bv9⟩
        have zbv9 := bv9.size
        replace BB := also BB bv9
        replace x_t := x_t.on bv9
        replace x_d := x_d.on bv9
        replace x_s := x_s.on bv9
        replace x_ma := x_ma.on bv9
        replace x_mb := x_mb.on bv9
        replace x_mc := x_mc.on bv9
        replace x_md := x_md.on bv9
        go_wp2
        go_ret
        exact ⟨rfl, BB⟩
      · skip
        cases hd : mvC d1 d2 s1 s2
        · skip
          obtain ⟨W, hW, bW, x_t, x_d, x_s, sW⟩ := bs_622 w (.int .i64 a1) (.int .i64 a2) (.int .i64 b1) (.int .i64 b2) (.int .i64 c1) (.int .i64 c2) (.int .i64 d1) (.int .i64 d2) (.int .i64 s1) (.int .i64 s2) 41 23 23
          have zbW := bW.size
          have BB := bW
          go_enter Try.func7, Try.ntmps7
          go_wp2_with (go_at_call 22; fail)
          rw [← hW]
          clear hW
          refine (pMoved a1 a2 s1 s2 W Ra1 Ra2 Rs1 Rs2 ha.symm).mono ?_
          rintro e w0 ⟨u0, v0, rfl, g0, bw0⟩
          have zbw0 := bw0.size
          replace BB := also BB bw0
          replace x_t := x_t.on bw0
          replace x_d := x_d.on bw0
          replace x_s := x_s.on bw0
          clear g0
          obtain ⟨Z0, hZ0, bZ0, x_ma, sZ0⟩ := bs_2 w0 (.int .i64 u0) (.int .i64 v0) 23
          have zbZ0 := bZ0.size
          replace BB := also BB bZ0
          replace x_t := x_t.on bZ0
          replace x_d := x_d.on bZ0
          replace x_s := x_s.on bZ0
          have st_t_0 : (w0.alloc (.cells #[.int .i64 u0, .int .i64 v0] 23)).cell? ⟨w.heap.size, 0, none⟩ = some (.int .i64 a1) := by rw [← hZ0]; exact x_t.c0
          have st_t_1 : (w0.alloc (.cells #[.int .i64 u0, .int .i64 v0] 23)).cell? ⟨w.heap.size, 1, none⟩ = some (.int .i64 a2) := by rw [← hZ0]; exact x_t.c1
          have st_t_2 : (w0.alloc (.cells #[.int .i64 u0, .int .i64 v0] 23)).cell? ⟨w.heap.size, 2, none⟩ = some (.int .i64 b1) := by rw [← hZ0]; exact x_t.c2
          have st_t_3 : (w0.alloc (.cells #[.int .i64 u0, .int .i64 v0] 23)).cell? ⟨w.heap.size, 3, none⟩ = some (.int .i64 b2) := by rw [← hZ0]; exact x_t.c3
          have st_t_4 : (w0.alloc (.cells #[.int .i64 u0, .int .i64 v0] 23)).cell? ⟨w.heap.size, 4, none⟩ = some (.int .i64 c1) := by rw [← hZ0]; exact x_t.c4
          have st_t_5 : (w0.alloc (.cells #[.int .i64 u0, .int .i64 v0] 23)).cell? ⟨w.heap.size, 5, none⟩ = some (.int .i64 c2) := by rw [← hZ0]; exact x_t.c5
          have sf_t_0 : (w0.alloc (.cells #[.int .i64 u0, .int .i64 v0] 23)).frozen? ⟨w.heap.size, 0, none⟩ = false := by rw [← hZ0]; exact x_t.f0
          have sf_t_1 : (w0.alloc (.cells #[.int .i64 u0, .int .i64 v0] 23)).frozen? ⟨w.heap.size, 1, none⟩ = false := by rw [← hZ0]; exact x_t.f1
          have sf_t_2 : (w0.alloc (.cells #[.int .i64 u0, .int .i64 v0] 23)).frozen? ⟨w.heap.size, 2, none⟩ = false := by rw [← hZ0]; exact x_t.f2
          have sf_t_3 : (w0.alloc (.cells #[.int .i64 u0, .int .i64 v0] 23)).frozen? ⟨w.heap.size, 3, none⟩ = false := by rw [← hZ0]; exact x_t.f3
          have sf_t_4 : (w0.alloc (.cells #[.int .i64 u0, .int .i64 v0] 23)).frozen? ⟨w.heap.size, 4, none⟩ = false := by rw [← hZ0]; exact x_t.f4
          have sf_t_5 : (w0.alloc (.cells #[.int .i64 u0, .int .i64 v0] 23)).frozen? ⟨w.heap.size, 5, none⟩ = false := by rw [← hZ0]; exact x_t.f5
          have st_d_0 : (w0.alloc (.cells #[.int .i64 u0, .int .i64 v0] 23)).cell? ⟨w.heap.size + 1, 0, none⟩ = some (.int .i64 d1) := by rw [← hZ0]; exact x_d.c0
          have st_d_1 : (w0.alloc (.cells #[.int .i64 u0, .int .i64 v0] 23)).cell? ⟨w.heap.size + 1, 1, none⟩ = some (.int .i64 d2) := by rw [← hZ0]; exact x_d.c1
          have sf_d_0 : (w0.alloc (.cells #[.int .i64 u0, .int .i64 v0] 23)).frozen? ⟨w.heap.size + 1, 0, none⟩ = false := by rw [← hZ0]; exact x_d.f0
          have sf_d_1 : (w0.alloc (.cells #[.int .i64 u0, .int .i64 v0] 23)).frozen? ⟨w.heap.size + 1, 1, none⟩ = false := by rw [← hZ0]; exact x_d.f1
          have st_s_0 : (w0.alloc (.cells #[.int .i64 u0, .int .i64 v0] 23)).cell? ⟨w.heap.size + 1 + 1, 0, none⟩ = some (.int .i64 s1) := by rw [← hZ0]; exact x_s.c0
          have st_s_1 : (w0.alloc (.cells #[.int .i64 u0, .int .i64 v0] 23)).cell? ⟨w.heap.size + 1 + 1, 1, none⟩ = some (.int .i64 s2) := by rw [← hZ0]; exact x_s.c1
          have sf_s_0 : (w0.alloc (.cells #[.int .i64 u0, .int .i64 v0] 23)).frozen? ⟨w.heap.size + 1 + 1, 0, none⟩ = false := by rw [← hZ0]; exact x_s.f0
          have sf_s_1 : (w0.alloc (.cells #[.int .i64 u0, .int .i64 v0] 23)).frozen? ⟨w.heap.size + 1 + 1, 1, none⟩ = false := by rw [← hZ0]; exact x_s.f1
          go_wp2_with (go_at_call 22; fail)
          rw [← hZ0]
          clear hZ0 st_t_0 st_t_1 st_t_2 st_t_3 st_t_4 st_t_5 sf_t_0 sf_t_1 sf_t_2 sf_t_3 sf_t_4 sf_t_5 st_d_0 st_d_1 sf_d_0 sf_d_1 st_s_0 st_s_1 sf_s_0 sf_s_1
          refine (pMoved b1 b2 s1 s2 Z0 Rb1 Rb2 Rs1 Rs2 hb.symm).mono ?_
          rintro e w1 ⟨u1, v1, rfl, g1, bw1⟩
          have zbw1 := bw1.size
          replace BB := also BB bw1
          replace x_t := x_t.on bw1
          replace x_d := x_d.on bw1
          replace x_s := x_s.on bw1
          replace x_ma := x_ma.on bw1
          clear g1
          obtain ⟨Z1, hZ1, bZ1, x_mb, sZ1⟩ := bs_2 w1 (.int .i64 u1) (.int .i64 v1) 23
          have zbZ1 := bZ1.size
          replace BB := also BB bZ1
          replace x_t := x_t.on bZ1
          replace x_d := x_d.on bZ1
          replace x_s := x_s.on bZ1
          replace x_ma := x_ma.on bZ1
          have st_t_0 : (w1.alloc (.cells #[.int .i64 u1, .int .i64 v1] 23)).cell? ⟨w.heap.size, 0, none⟩ = some (.int .i64 a1) := by rw [← hZ1]; exact x_t.c0
          have st_t_1 : (w1.alloc (.cells #[.int .i64 u1, .int .i64 v1] 23)).cell? ⟨w.heap.size, 1, none⟩ = some (.int .i64 a2) := by rw [← hZ1]; exact x_t.c1
          have st_t_2 : (w1.alloc (.cells #[.int .i64 u1, .int .i64 v1] 23)).cell? ⟨w.heap.size, 2, none⟩ = some (.int .i64 b1) := by rw [← hZ1]; exact x_t.c2
          have st_t_3 : (w1.alloc (.cells #[.int .i64 u1, .int .i64 v1] 23)).cell? ⟨w.heap.size, 3, none⟩ = some (.int .i64 b2) := by rw [← hZ1]; exact x_t.c3
          have st_t_4 : (w1.alloc (.cells #[.int .i64 u1, .int .i64 v1] 23)).cell? ⟨w.heap.size, 4, none⟩ = some (.int .i64 c1) := by rw [← hZ1]; exact x_t.c4
          have st_t_5 : (w1.alloc (.cells #[.int .i64 u1, .int .i64 v1] 23)).cell? ⟨w.heap.size, 5, none⟩ = some (.int .i64 c2) := by rw [← hZ1]; exact x_t.c5
          have sf_t_0 : (w1.alloc (.cells #[.int .i64 u1, .int .i64 v1] 23)).frozen? ⟨w.heap.size, 0, none⟩ = false := by rw [← hZ1]; exact x_t.f0
          have sf_t_1 : (w1.alloc (.cells #[.int .i64 u1, .int .i64 v1] 23)).frozen? ⟨w.heap.size, 1, none⟩ = false := by rw [← hZ1]; exact x_t.f1
          have sf_t_2 : (w1.alloc (.cells #[.int .i64 u1, .int .i64 v1] 23)).frozen? ⟨w.heap.size, 2, none⟩ = false := by rw [← hZ1]; exact x_t.f2
          have sf_t_3 : (w1.alloc (.cells #[.int .i64 u1, .int .i64 v1] 23)).frozen? ⟨w.heap.size, 3, none⟩ = false := by rw [← hZ1]; exact x_t.f3
          have sf_t_4 : (w1.alloc (.cells #[.int .i64 u1, .int .i64 v1] 23)).frozen? ⟨w.heap.size, 4, none⟩ = false := by rw [← hZ1]; exact x_t.f4
          have sf_t_5 : (w1.alloc (.cells #[.int .i64 u1, .int .i64 v1] 23)).frozen? ⟨w.heap.size, 5, none⟩ = false := by rw [← hZ1]; exact x_t.f5
          have st_d_0 : (w1.alloc (.cells #[.int .i64 u1, .int .i64 v1] 23)).cell? ⟨w.heap.size + 1, 0, none⟩ = some (.int .i64 d1) := by rw [← hZ1]; exact x_d.c0
          have st_d_1 : (w1.alloc (.cells #[.int .i64 u1, .int .i64 v1] 23)).cell? ⟨w.heap.size + 1, 1, none⟩ = some (.int .i64 d2) := by rw [← hZ1]; exact x_d.c1
          have sf_d_0 : (w1.alloc (.cells #[.int .i64 u1, .int .i64 v1] 23)).frozen? ⟨w.heap.size + 1, 0, none⟩ = false := by rw [← hZ1]; exact x_d.f0
          have sf_d_1 : (w1.alloc (.cells #[.int .i64 u1, .int .i64 v1] 23)).frozen? ⟨w.heap.size + 1, 1, none⟩ = false := by rw [← hZ1]; exact x_d.f1
          have st_s_0 : (w1.alloc (.cells #[.int .i64 u1, .int .i64 v1] 23)).cell? ⟨w.heap.size + 1 + 1, 0, none⟩ = some (.int .i64 s1) := by rw [← hZ1]; exact x_s.c0
          have st_s_1 : (w1.alloc (.cells #[.int .i64 u1, .int .i64 v1] 23)).cell? ⟨w.heap.size + 1 + 1, 1, none⟩ = some (.int .i64 s2) := by rw [← hZ1]; exact x_s.c1
          have sf_s_0 : (w1.alloc (.cells #[.int .i64 u1, .int .i64 v1] 23)).frozen? ⟨w.heap.size + 1 + 1, 0, none⟩ = false := by rw [← hZ1]; exact x_s.f0
          have sf_s_1 : (w1.alloc (.cells #[.int .i64 u1, .int .i64 v1] 23)).frozen? ⟨w.heap.size + 1 + 1, 1, none⟩ = false := by rw [← hZ1]; exact x_s.f1
          go_wp2_with (go_at_call 22; fail)
          rw [← hZ1]
          clear hZ1 st_t_0 st_t_1 st_t_2 st_t_3 st_t_4 st_t_5 sf_t_0 sf_t_1 sf_t_2 sf_t_3 sf_t_4 sf_t_5 st_d_0 st_d_1 sf_d_0 sf_d_1 st_s_0 st_s_1 sf_s_0 sf_s_1
          refine (pMoved c1 c2 s1 s2 Z1 Rc1 Rc2 Rs1 Rs2 hc.symm).mono ?_
          rintro e w2 ⟨u2, v2, rfl, g2, bw2⟩
          have zbw2 := bw2.size
          replace BB := also BB bw2
          replace x_t := x_t.on bw2
          replace x_d := x_d.on bw2
          replace x_s := x_s.on bw2
          replace x_ma := x_ma.on bw2
          replace x_mb := x_mb.on bw2
          clear g2
          obtain ⟨Z2, hZ2, bZ2, x_mc, sZ2⟩ := bs_2 w2 (.int .i64 u2) (.int .i64 v2) 23
          have zbZ2 := bZ2.size
          replace BB := also BB bZ2
          replace x_t := x_t.on bZ2
          replace x_d := x_d.on bZ2
          replace x_s := x_s.on bZ2
          replace x_ma := x_ma.on bZ2
          replace x_mb := x_mb.on bZ2
          have st_t_0 : (w2.alloc (.cells #[.int .i64 u2, .int .i64 v2] 23)).cell? ⟨w.heap.size, 0, none⟩ = some (.int .i64 a1) := by rw [← hZ2]; exact x_t.c0
          have st_t_1 : (w2.alloc (.cells #[.int .i64 u2, .int .i64 v2] 23)).cell? ⟨w.heap.size, 1, none⟩ = some (.int .i64 a2) := by rw [← hZ2]; exact x_t.c1
          have st_t_2 : (w2.alloc (.cells #[.int .i64 u2, .int .i64 v2] 23)).cell? ⟨w.heap.size, 2, none⟩ = some (.int .i64 b1) := by rw [← hZ2]; exact x_t.c2
          have st_t_3 : (w2.alloc (.cells #[.int .i64 u2, .int .i64 v2] 23)).cell? ⟨w.heap.size, 3, none⟩ = some (.int .i64 b2) := by rw [← hZ2]; exact x_t.c3
          have st_t_4 : (w2.alloc (.cells #[.int .i64 u2, .int .i64 v2] 23)).cell? ⟨w.heap.size, 4, none⟩ = some (.int .i64 c1) := by rw [← hZ2]; exact x_t.c4
          have st_t_5 : (w2.alloc (.cells #[.int .i64 u2, .int .i64 v2] 23)).cell? ⟨w.heap.size, 5, none⟩ = some (.int .i64 c2) := by rw [← hZ2]; exact x_t.c5
          have sf_t_0 : (w2.alloc (.cells #[.int .i64 u2, .int .i64 v2] 23)).frozen? ⟨w.heap.size, 0, none⟩ = false := by rw [← hZ2]; exact x_t.f0
          have sf_t_1 : (w2.alloc (.cells #[.int .i64 u2, .int .i64 v2] 23)).frozen? ⟨w.heap.size, 1, none⟩ = false := by rw [← hZ2]; exact x_t.f1
          have sf_t_2 : (w2.alloc (.cells #[.int .i64 u2, .int .i64 v2] 23)).frozen? ⟨w.heap.size, 2, none⟩ = false := by rw [← hZ2]; exact x_t.f2
          have sf_t_3 : (w2.alloc (.cells #[.int .i64 u2, .int .i64 v2] 23)).frozen? ⟨w.heap.size, 3, none⟩ = false := by rw [← hZ2]; exact x_t.f3
          have sf_t_4 : (w2.alloc (.cells #[.int .i64 u2, .int .i64 v2] 23)).frozen? ⟨w.heap.size, 4, none⟩ = false := by rw [← hZ2]; exact x_t.f4
          have sf_t_5 : (w2.alloc (.cells #[.int .i64 u2, .int .i64 v2] 23)).frozen? ⟨w.heap.size, 5, none⟩ = false := by rw [← hZ2]; exact x_t.f5
          have st_d_0 : (w2.alloc (.cells #[.int .i64 u2, .int .i64 v2] 23)).cell? ⟨w.heap.size + 1, 0, none⟩ = some (.int .i64 d1) := by rw [← hZ2]; exact x_d.c0
          have st_d_1 : (w2.alloc (.cells #[.int .i64 u2, .int .i64 v2] 23)).cell? ⟨w.heap.size + 1, 1, none⟩ = some (.int .i64 d2) := by rw [← hZ2]; exact x_d.c1
          have sf_d_0 : (w2.alloc (.cells #[.int .i64 u2, .int .i64 v2] 23)).frozen? ⟨w.heap.size + 1, 0, none⟩ = false := by rw [← hZ2]; exact x_d.f0
          have sf_d_1 : (w2.alloc (.cells #[.int .i64 u2, .int .i64 v2] 23)).frozen? ⟨w.heap.size + 1, 1, none⟩ = false := by rw [← hZ2]; exact x_d.f1
          have st_s_0 : (w2.alloc (.cells #[.int .i64 u2, .int .i64 v2] 23)).cell? ⟨w.heap.size + 1 + 1, 0, none⟩ = some (.int .i64 s1) := by rw [← hZ2]; exact x_s.c0
          have st_s_1 : (w2.alloc (.cells #[.int .i64 u2, .int .i64 v2] 23)).cell? ⟨w.heap.size + 1 + 1, 1, none⟩ = some (.int .i64 s2) := by rw [← hZ2]; exact x_s.c1
          have sf_s_0 : (w2.alloc (.cells #[.int .i64 u2, .int .i64 v2] 23)).frozen? ⟨w.heap.size + 1 + 1, 0, none⟩ = false := by rw [← hZ2]; exact x_s.f0
          have sf_s_1 : (w2.alloc (.cells #[.int .i64 u2, .int .i64 v2] 23)).frozen? ⟨w.heap.size + 1 + 1, 1, none⟩ = false := by rw [← hZ2]; exact x_s.f1
          go_wp2_with (go_at_call 22; fail)
          rw [← hZ2]
          clear hZ2 st_t_0 st_t_1 st_t_2 st_t_3 st_t_4 st_t_5 sf_t_0 sf_t_1 sf_t_2 sf_t_3 sf_t_4 sf_t_5 st_d_0 st_d_1 sf_d_0 sf_d_1 st_s_0 st_s_1 sf_s_0 sf_s_1
          refine (pMoved d1 d2 s1 s2 Z2 Rd1 Rd2 Rs1 Rs2 hd.symm).mono ?_
          rintro e w3 ⟨u3, v3, rfl, g3, bw3⟩
          have zbw3 := bw3.size
          replace BB := also BB bw3
          replace x_t := x_t.on bw3
          replace x_d := x_d.on bw3
          replace x_s := x_s.on bw3
          replace x_ma := x_ma.on bw3
          replace x_mb := x_mb.on bw3
          replace x_mc := x_mc.on bw3
          clear g3
          obtain ⟨Z3, hZ3, bZ3, x_md, sZ3⟩ := bs_2 w3 (.int .i64 u3) (.int .i64 v3) 23
          have zbZ3 := bZ3.size
          replace BB := also BB bZ3
          replace x_t := x_t.on bZ3
          replace x_d := x_d.on bZ3
          replace x_s := x_s.on bZ3
          replace x_ma := x_ma.on bZ3
          replace x_mb := x_mb.on bZ3
          replace x_mc := x_mc.on bZ3
          go_wp2_with (go_at_call 13; fail)
          rw [← hZ3]
          clear hZ3
          refine (lives7_any Z3).mono ?_
          rintro e v9 ⟨rfl, bv9⟩
          have zbv9 := bv9.size
          replace BB := also BB bv9
          replace x_t := x_t.on bv9
          replace x_d := x_d.on bv9
          replace x_s := x_s.on bv9
          replace x_ma := x_ma.on bv9
          replace x_mb := x_mb.on bv9
          replace x_mc := x_mc.on bv9
          replace x_md := x_md.on bv9
          go_wp2
          go_ret
          exact ⟨rfl, BB⟩
        · skip
          obtain ⟨oa, ob, oc, od⟩ := mv_can ha hb hc hd
          obtain ⟨p, hp⟩ : ∃ p, p = lw.hi (arP a1 a2 b1 b2 c1 c2) := ⟨_, rfl⟩
          obtain ⟨q, hq⟩ : ∃ q, q = lw.lo (arP a1 a2 b1 b2 c1 c2) := ⟨_, rfl⟩
          obtain ⟨x, hx⟩ : ∃ x, x = lw.hi (diP a1 a2 d1 d2) := ⟨_, rfl⟩
          obtain ⟨y, hy⟩ : ∃ y, y = lw.lo (diP a1 a2 d1 d2) := ⟨_, rfl⟩
          obtain ⟨m, hm⟩ : ∃ m, m = ciP a1 a2 b1 b2 c1 c2 d1 d2 := ⟨_, rfl⟩
          obtain ⟨k, hk⟩ : ∃ k, k = whP a1 a2 b1 b2 c1 c2 d1 d2 := ⟨_, rfl⟩
          have Hp : Hid _ := hp
          have Hq : Hid _ := hq
          have Hx : Hid _ := hx
          have Hy : Hid _ := hy
          have Hm : Hid _ := hm
          have Hk : Hid _ := hk
          have E : Hid _ := mv_same oa ob oc od
          have Ep : Hid (p = lw.hi (arP (a1 + s1) (a2 + s2) (b1 + s1) (b2 + s2) (c1 + s1) (c2 + s2))) := by unfold Hid; rw [E.out.1]; exact hp
          have Eq : Hid (q = lw.lo (arP (a1 + s1) (a2 + s2) (b1 + s1) (b2 + s2) (c1 + s1) (c2 + s2))) := by unfold Hid; rw [E.out.1]; exact hq
          have Ex : Hid (x = lw.hi (diP (a1 + s1) (a2 + s2) (d1 + s1) (d2 + s2))) := by unfold Hid; rw [E.out.2.1]; exact hx
          have Ey : Hid (y = lw.lo (diP (a1 + s1) (a2 + s2) (d1 + s1) (d2 + s2))) := by unfold Hid; rw [E.out.2.1]; exact hy
          have Em : Hid (m = ciP (a1 + s1) (a2 + s2) (b1 + s1) (b2 + s2) (c1 + s1) (c2 + s2) (d1 + s1) (d2 + s2)) := by unfold Hid; rw [E.out.2.2.1]; exact hm
          have Ek : Hid (k = whP (a1 + s1) (a2 + s2) (b1 + s1) (b2 + s2) (c1 + s1) (c2 + s2) (d1 + s1) (d2 + s2)) := by unfold Hid; rw [E.out.2.2.2]; exact hk
          clear hp hq hx hy hm hk E oa ob oc od
          obtain ⟨W, hW, bW, x_t, x_d, x_s, sW⟩ := bs_622 w (.int .i64 a1) (.int .i64 a2) (.int .i64 b1) (.int .i64 b2) (.int .i64 c1) (.int .i64 c2) (.int .i64 d1) (.int .i64 d2) (.int .i64 s1) (.int .i64 s2) 41 23 23
          have zbW := bW.size
          have BB := bW
          go_enter Try.func7, Try.ntmps7
          go_wp2_with (go_at_call 22; fail)
          rw [← hW]
          clear hW
          refine (pMoved a1 a2 s1 s2 W Ra1 Ra2 Rs1 Rs2 ha.symm).mono ?_
          rintro e w0 ⟨u0, v0, rfl, g0, bw0⟩
          have zbw0 := bw0.size
          replace BB := also BB bw0
          replace x_t := x_t.on bw0
          replace x_d := x_d.on bw0
          replace x_s := x_s.on bw0
          obtain ⟨e0, i0⟩ := g0 rfl
          have U0 : Hid _ := e0
          have V0 : Hid _ := i0
          clear e0 i0 g0
          obtain ⟨Z0, hZ0, bZ0, x_ma, sZ0⟩ := bs_2 w0 (.int .i64 u0) (.int .i64 v0) 23
          have zbZ0 := bZ0.size
          replace BB := also BB bZ0
          replace x_t := x_t.on bZ0
          replace x_d := x_d.on bZ0
          replace x_s := x_s.on bZ0
          have st_t_0 : (w0.alloc (.cells #[.int .i64 u0, .int .i64 v0] 23)).cell? ⟨w.heap.size, 0, none⟩ = some (.int .i64 a1) := by rw [← hZ0]; exact x_t.c0
          have st_t_1 : (w0.alloc (.cells #[.int .i64 u0, .int .i64 v0] 23)).cell? ⟨w.heap.size, 1, none⟩ = some (.int .i64 a2) := by rw [← hZ0]; exact x_t.c1
          have st_t_2 : (w0.alloc (.cells #[.int .i64 u0, .int .i64 v0] 23)).cell? ⟨w.heap.size, 2, none⟩ = some (.int .i64 b1) := by rw [← hZ0]; exact x_t.c2
          have st_t_3 : (w0.alloc (.cells #[.int .i64 u0, .int .i64 v0] 23)).cell? ⟨w.heap.size, 3, none⟩ = some (.int .i64 b2) := by rw [← hZ0]; exact x_t.c3
          have st_t_4 : (w0.alloc (.cells #[.int .i64 u0, .int .i64 v0] 23)).cell? ⟨w.heap.size, 4, none⟩ = some (.int .i64 c1) := by rw [← hZ0]; exact x_t.c4
          have st_t_5 : (w0.alloc (.cells #[.int .i64 u0, .int .i64 v0] 23)).cell? ⟨w.heap.size, 5, none⟩ = some (.int .i64 c2) := by rw [← hZ0]; exact x_t.c5
          have sf_t_0 : (w0.alloc (.cells #[.int .i64 u0, .int .i64 v0] 23)).frozen? ⟨w.heap.size, 0, none⟩ = false := by rw [← hZ0]; exact x_t.f0
          have sf_t_1 : (w0.alloc (.cells #[.int .i64 u0, .int .i64 v0] 23)).frozen? ⟨w.heap.size, 1, none⟩ = false := by rw [← hZ0]; exact x_t.f1
          have sf_t_2 : (w0.alloc (.cells #[.int .i64 u0, .int .i64 v0] 23)).frozen? ⟨w.heap.size, 2, none⟩ = false := by rw [← hZ0]; exact x_t.f2
          have sf_t_3 : (w0.alloc (.cells #[.int .i64 u0, .int .i64 v0] 23)).frozen? ⟨w.heap.size, 3, none⟩ = false := by rw [← hZ0]; exact x_t.f3
          have sf_t_4 : (w0.alloc (.cells #[.int .i64 u0, .int .i64 v0] 23)).frozen? ⟨w.heap.size, 4, none⟩ = false := by rw [← hZ0]; exact x_t.f4
          have sf_t_5 : (w0.alloc (.cells #[.int .i64 u0, .int .i64 v0] 23)).frozen? ⟨w.heap.size, 5, none⟩ = false := by rw [← hZ0]; exact x_t.f5
          have st_d_0 : (w0.alloc (.cells #[.int .i64 u0, .int .i64 v0] 23)).cell? ⟨w.heap.size + 1, 0, none⟩ = some (.int .i64 d1) := by rw [← hZ0]; exact x_d.c0
          have st_d_1 : (w0.alloc (.cells #[.int .i64 u0, .int .i64 v0] 23)).cell? ⟨w.heap.size + 1, 1, none⟩ = some (.int .i64 d2) := by rw [← hZ0]; exact x_d.c1
          have sf_d_0 : (w0.alloc (.cells #[.int .i64 u0, .int .i64 v0] 23)).frozen? ⟨w.heap.size + 1, 0, none⟩ = false := by rw [← hZ0]; exact x_d.f0
          have sf_d_1 : (w0.alloc (.cells #[.int .i64 u0, .int .i64 v0] 23)).frozen? ⟨w.heap.size + 1, 1, none⟩ = false := by rw [← hZ0]; exact x_d.f1
          have st_s_0 : (w0.alloc (.cells #[.int .i64 u0, .int .i64 v0] 23)).cell? ⟨w.heap.size + 1 + 1, 0, none⟩ = some (.int .i64 s1) := by rw [← hZ0]; exact x_s.c0
          have st_s_1 : (w0.alloc (.cells #[.int .i64 u0, .int .i64 v0] 23)).cell? ⟨w.heap.size + 1 + 1, 1, none⟩ = some (.int .i64 s2) := by rw [← hZ0]; exact x_s.c1
          have sf_s_0 : (w0.alloc (.cells #[.int .i64 u0, .int .i64 v0] 23)).frozen? ⟨w.heap.size + 1 + 1, 0, none⟩ = false := by rw [← hZ0]; exact x_s.f0
          have sf_s_1 : (w0.alloc (.cells #[.int .i64 u0, .int .i64 v0] 23)).frozen? ⟨w.heap.size + 1 + 1, 1, none⟩ = false := by rw [← hZ0]; exact x_s.f1
          go_wp2_with (go_at_call 22; fail)
          rw [← hZ0]
          clear hZ0 st_t_0 st_t_1 st_t_2 st_t_3 st_t_4 st_t_5 sf_t_0 sf_t_1 sf_t_2 sf_t_3 sf_t_4 sf_t_5 st_d_0 st_d_1 sf_d_0 sf_d_1 st_s_0 st_s_1 sf_s_0 sf_s_1
          refine (pMoved b1 b2 s1 s2 Z0 Rb1 Rb2 Rs1 Rs2 hb.symm).mono ?_
          rintro e w1 ⟨u1, v1, rfl, g1, bw1⟩
          have zbw1 := bw1.size
          replace BB := also BB bw1
          replace x_t := x_t.on bw1
          replace x_d := x_d.on bw1
          replace x_s := x_s.on bw1
          replace x_ma := x_ma.on bw1
          obtain ⟨e1, i1⟩ := g1 rfl
          have U1 : Hid _ := e1
          have V1 : Hid _ := i1
          clear e1 i1 g1
          obtain ⟨Z1, hZ1, bZ1, x_mb, sZ1⟩ := bs_2 w1 (.int .i64 u1) (.int .i64 v1) 23
          have zbZ1 := bZ1.size
          replace BB := also BB bZ1
          replace x_t := x_t.on bZ1
          replace x_d := x_d.on bZ1
          replace x_s := x_s.on bZ1
          replace x_ma := x_ma.on bZ1
          have st_t_0 : (w1.alloc (.cells #[.int .i64 u1, .int .i64 v1] 23)).cell? ⟨w.heap.size, 0, none⟩ = some (.int .i64 a1) := by rw [← hZ1]; exact x_t.c0
          have st_t_1 : (w1.alloc (.cells #[.int .i64 u1, .int .i64 v1] 23)).cell? ⟨w.heap.size, 1, none⟩ = some (.int .i64 a2) := by rw [← hZ1]; exact x_t.c1
          have st_t_2 : (w1.alloc (.cells #[.int .i64 u1, .int .i64 v1] 23)).cell? ⟨w.heap.size, 2, none⟩ = some (.int .i64 b1) := by rw [← hZ1]; exact x_t.c2
          have st_t_3 : (w1.alloc (.cells #[.int .i64 u1, .int .i64 v1] 23)).cell? ⟨w.heap.size, 3, none⟩ = some (.int .i64 b2) := by rw [← hZ1]; exact x_t.c3
          have st_t_4 : (w1.alloc (.cells #[.int .i64 u1, .int .i64 v1] 23)).cell? ⟨w.heap.size, 4, none⟩ = some (.int .i64 c1) := by rw [← hZ1]; exact x_t.c4
          have st_t_5 : (w1.alloc (.cells #[.int .i64 u1, .int .i64 v1] 23)).cell? ⟨w.heap.size, 5, none⟩ = some (.int .i64 c2) := by rw [← hZ1]; exact x_t.c5
          have sf_t_0 : (w1.alloc (.cells #[.int .i64 u1, .int .i64 v1] 23)).frozen? ⟨w.heap.size, 0, none⟩ = false := by rw [← hZ1]; exact x_t.f0
          have sf_t_1 : (w1.alloc (.cells #[.int .i64 u1, .int .i64 v1] 23)).frozen? ⟨w.heap.size, 1, none⟩ = false := by rw [← hZ1]; exact x_t.f1
          have sf_t_2 : (w1.alloc (.cells #[.int .i64 u1, .int .i64 v1] 23)).frozen? ⟨w.heap.size, 2, none⟩ = false := by rw [← hZ1]; exact x_t.f2
          have sf_t_3 : (w1.alloc (.cells #[.int .i64 u1, .int .i64 v1] 23)).frozen? ⟨w.heap.size, 3, none⟩ = false := by rw [← hZ1]; exact x_t.f3
          have sf_t_4 : (w1.alloc (.cells #[.int .i64 u1, .int .i64 v1] 23)).frozen? ⟨w.heap.size, 4, none⟩ = false := by rw [← hZ1]; exact x_t.f4
          have sf_t_5 : (w1.alloc (.cells #[.int .i64 u1, .int .i64 v1] 23)).frozen? ⟨w.heap.size, 5, none⟩ = false := by rw [← hZ1]; exact x_t.f5
          have st_d_0 : (w1.alloc (.cells #[.int .i64 u1, .int .i64 v1] 23)).cell? ⟨w.heap.size + 1, 0, none⟩ = some (.int .i64 d1) := by rw [← hZ1]; exact x_d.c0
          have st_d_1 : (w1.alloc (.cells #[.int .i64 u1, .int .i64 v1] 23)).cell? ⟨w.heap.size + 1, 1, none⟩ = some (.int .i64 d2) := by rw [← hZ1]; exact x_d.c1
          have sf_d_0 : (w1.alloc (.cells #[.int .i64 u1, .int .i64 v1] 23)).frozen? ⟨w.heap.size + 1, 0, none⟩ = false := by rw [← hZ1]; exact x_d.f0
          have sf_d_1 : (w1.alloc (.cells #[.int .i64 u1, .int .i64 v1] 23)).frozen? ⟨w.heap.size + 1, 1, none⟩ = false := by rw [← hZ1]; exact x_d.f1
          have st_s_0 : (w1.alloc (.cells #[.int .i64 u1, .int .i64 v1] 23)).cell? ⟨w.heap.size + 1 + 1, 0, none⟩ = some (.int .i64 s1) := by rw [← hZ1]; exact x_s.c0
          have st_s_1 : (w1.alloc (.cells #[.int .i64 u1, .int .i64 v1] 23)).cell? ⟨w.heap.size + 1 + 1, 1, none⟩ = some (.int .i64 s2) := by rw [← hZ1]; exact x_s.c1
          have sf_s_0 : (w1.alloc (.cells #[.int .i64 u1, .int .i64 v1] 23)).frozen? ⟨w.heap.size + 1 + 1, 0, none⟩ = false := by rw [← hZ1]; exact x_s.f0
          have sf_s_1 : (w1.alloc (.cells #[.int .i64 u1, .int .i64 v1] 23)).frozen? ⟨w.heap.size + 1 + 1, 1, none⟩ = false := by rw [← hZ1]; exact x_s.f1
          go_wp2_with (go_at_call 22; fail)
          rw [← hZ1]
          clear hZ1 st_t_0 st_t_1 st_t_2 st_t_3 st_t_4 st_t_5 sf_t_0 sf_t_1 sf_t_2 sf_t_3 sf_t_4 sf_t_5 st_d_0 st_d_1 sf_d_0 sf_d_1 st_s_0 st_s_1 sf_s_0 sf_s_1
          refine (pMoved c1 c2 s1 s2 Z1 Rc1 Rc2 Rs1 Rs2 hc.symm).mono ?_
          rintro e w2 ⟨u2, v2, rfl, g2, bw2⟩
          have zbw2 := bw2.size
          replace BB := also BB bw2
          replace x_t := x_t.on bw2
          replace x_d := x_d.on bw2
          replace x_s := x_s.on bw2
          replace x_ma := x_ma.on bw2
          replace x_mb := x_mb.on bw2
          obtain ⟨e2, i2⟩ := g2 rfl
          have U2 : Hid _ := e2
          have V2 : Hid _ := i2
          clear e2 i2 g2
          obtain ⟨Z2, hZ2, bZ2, x_mc, sZ2⟩ := bs_2 w2 (.int .i64 u2) (.int .i64 v2) 23
          have zbZ2 := bZ2.size
          replace BB := also BB bZ2
          replace x_t := x_t.on bZ2
          replace x_d := x_d.on bZ2
          replace x_s := x_s.on bZ2
          replace x_ma := x_ma.on bZ2
          replace x_mb := x_mb.on bZ2
          have st_t_0 : (w2.alloc (.cells #[.int .i64 u2, .int .i64 v2] 23)).cell? ⟨w.heap.size, 0, none⟩ = some (.int .i64 a1) := by rw [← hZ2]; exact x_t.c0
          have st_t_1 : (w2.alloc (.cells #[.int .i64 u2, .int .i64 v2] 23)).cell? ⟨w.heap.size, 1, none⟩ = some (.int .i64 a2) := by rw [← hZ2]; exact x_t.c1
          have st_t_2 : (w2.alloc (.cells #[.int .i64 u2, .int .i64 v2] 23)).cell? ⟨w.heap.size, 2, none⟩ = some (.int .i64 b1) := by rw [← hZ2]; exact x_t.c2
          have st_t_3 : (w2.alloc (.cells #[.int .i64 u2, .int .i64 v2] 23)).cell? ⟨w.heap.size, 3, none⟩ = some (.int .i64 b2) := by rw [← hZ2]; exact x_t.c3
          have st_t_4 : (w2.alloc (.cells #[.int .i64 u2, .int .i64 v2] 23)).cell? ⟨w.heap.size, 4, none⟩ = some (.int .i64 c1) := by rw [← hZ2]; exact x_t.c4
          have st_t_5 : (w2.alloc (.cells #[.int .i64 u2, .int .i64 v2] 23)).cell? ⟨w.heap.size, 5, none⟩ = some (.int .i64 c2) := by rw [← hZ2]; exact x_t.c5
          have sf_t_0 : (w2.alloc (.cells #[.int .i64 u2, .int .i64 v2] 23)).frozen? ⟨w.heap.size, 0, none⟩ = false := by rw [← hZ2]; exact x_t.f0
          have sf_t_1 : (w2.alloc (.cells #[.int .i64 u2, .int .i64 v2] 23)).frozen? ⟨w.heap.size, 1, none⟩ = false := by rw [← hZ2]; exact x_t.f1
          have sf_t_2 : (w2.alloc (.cells #[.int .i64 u2, .int .i64 v2] 23)).frozen? ⟨w.heap.size, 2, none⟩ = false := by rw [← hZ2]; exact x_t.f2
          have sf_t_3 : (w2.alloc (.cells #[.int .i64 u2, .int .i64 v2] 23)).frozen? ⟨w.heap.size, 3, none⟩ = false := by rw [← hZ2]; exact x_t.f3
          have sf_t_4 : (w2.alloc (.cells #[.int .i64 u2, .int .i64 v2] 23)).frozen? ⟨w.heap.size, 4, none⟩ = false := by rw [← hZ2]; exact x_t.f4
          have sf_t_5 : (w2.alloc (.cells #[.int .i64 u2, .int .i64 v2] 23)).frozen? ⟨w.heap.size, 5, none⟩ = false := by rw [← hZ2]; exact x_t.f5
          have st_d_0 : (w2.alloc (.cells #[.int .i64 u2, .int .i64 v2] 23)).cell? ⟨w.heap.size + 1, 0, none⟩ = some (.int .i64 d1) := by rw [← hZ2]; exact x_d.c0
          have st_d_1 : (w2.alloc (.cells #[.int .i64 u2, .int .i64 v2] 23)).cell? ⟨w.heap.size + 1, 1, none⟩ = some (.int .i64 d2) := by rw [← hZ2]; exact x_d.c1
          have sf_d_0 : (w2.alloc (.cells #[.int .i64 u2, .int .i64 v2] 23)).frozen? ⟨w.heap.size + 1, 0, none⟩ = false := by rw [← hZ2]; exact x_d.f0
          have sf_d_1 : (w2.alloc (.cells #[.int .i64 u2, .int .i64 v2] 23)).frozen? ⟨w.heap.size + 1, 1, none⟩ = false := by rw [← hZ2]; exact x_d.f1
          have st_s_0 : (w2.alloc (.cells #[.int .i64 u2, .int .i64 v2] 23)).cell? ⟨w.heap.size + 1 + 1, 0, none⟩ = some (.int .i64 s1) := by rw [← hZ2]; exact x_s.c0
          have st_s_1 : (w2.alloc (.cells #[.int .i64 u2, .int .i64 v2] 23)).cell? ⟨w.heap.size + 1 + 1, 1, none⟩ = some (.int .i64 s2) := by rw [← hZ2]; exact x_s.c1
          have sf_s_0 : (w2.alloc (.cells #[.int .i64 u2, .int .i64 v2] 23)).frozen? ⟨w.heap.size + 1 + 1, 0, none⟩ = false := by rw [← hZ2]; exact x_s.f0
          have sf_s_1 : (w2.alloc (.cells #[.int .i64 u2, .int .i64 v2] 23)).frozen? ⟨w.heap.size + 1 + 1, 1, none⟩ = false := by rw [← hZ2]; exact x_s.f1
          go_wp2_with (go_at_call 22; fail)
          rw [← hZ2]
          clear hZ2 st_t_0 st_t_1 st_t_2 st_t_3 st_t_4 st_t_5 sf_t_0 sf_t_1 sf_t_2 sf_t_3 sf_t_4 sf_t_5 st_d_0 st_d_1 sf_d_0 sf_d_1 st_s_0 st_s_1 sf_s_0 sf_s_1
          refine (pMoved d1 d2 s1 s2 Z2 Rd1 Rd2 Rs1 Rs2 hd.symm).mono ?_
          rintro e w3 ⟨u3, v3, rfl, g3, bw3⟩
          have zbw3 := bw3.size
          replace BB := also BB bw3
          replace x_t := x_t.on bw3
          replace x_d := x_d.on bw3
          replace x_s := x_s.on bw3
          replace x_ma := x_ma.on bw3
          replace x_mb := x_mb.on bw3
          replace x_mc := x_mc.on bw3
          obtain ⟨e3, i3⟩ := g3 rfl
          have U3 : Hid _ := e3
          have V3 : Hid _ := i3
          clear e3 i3 g3
          obtain ⟨Z3, hZ3, bZ3, x_md, sZ3⟩ := bs_2 w3 (.int .i64 u3) (.int .i64 v3) 23
          have zbZ3 := bZ3.size
          replace BB := also BB bZ3
          replace x_t := x_t.on bZ3
          replace x_d := x_d.on bZ3
          replace x_s := x_s.on bZ3
          replace x_ma := x_ma.on bZ3
          replace x_mb := x_mb.on bZ3
          replace x_mc := x_mc.on bZ3
          go_wp2
          rw [← hZ3]
          clear hZ3
          have hU0 := U0.out
          have hV0 := V0.out
          have hU1 := U1.out
          have hV1 := V1.out
          have hU2 := U2.out
          have hV2 := V2.out
          have hU3 := U3.out
          have hV3 := V3.out
          rw [← hU0, ← hV0, ← hU1, ← hV1, ← hU2, ← hV2] at Ep
          rw [← hU0, ← hV0, ← hU1, ← hV1, ← hU2, ← hV2] at Eq
          rw [← hU0, ← hV0, ← hU3, ← hV3] at Ex
          rw [← hU0, ← hV0, ← hU3, ← hV3] at Ey
          rw [← hU0, ← hV0, ← hU1, ← hV1, ← hU2, ← hV2, ← hU3, ← hV3] at Em
          rw [← hU0, ← hV0, ← hU1, ← hV1, ← hU2, ← hV2, ← hU3, ← hV3] at Ek
          clear hU0 hV0 U0 V0 hU1 hV1 U1 V1 hU2 hV2 U2 V2 hU3 hV3 U3 V3
          have dd1 : Below Z3.heap.size Z3 Z3.drew := (Below.refl _ _).drew
          have zdd1 := dd1.size
          replace BB := also BB dd1
          replace x_t := x_t.on dd1
          replace x_d := x_d.on dd1
          replace x_s := x_s.on dd1
          replace x_ma := x_ma.on dd1
          replace x_mb := x_mb.on dd1
          replace x_mc := x_mc.on dd1
          replace x_md := x_md.on dd1
          refine wp_region_held_drew (S := (fun w' => w'.cell? ⟨w.heap.size, 0, none⟩ = some (.int .i64 a1) ∧ w'.cell? ⟨w.heap.size, 1, none⟩ = some (.int .i64 a2) ∧ w'.cell? ⟨w.heap.size, 2, none⟩ = some (.int .i64 b1) ∧ w'.cell? ⟨w.heap.size, 3, none⟩ = some (.int .i64 b2) ∧ w'.cell? ⟨w.heap.size, 4, none⟩ = some (.int .i64 c1) ∧ w'.cell? ⟨w.heap.size, 5, none⟩ = some (.int .i64 c2) ∧ w'.cell? ⟨w.heap.size + 1, 0, none⟩ = some (.int .i64 d1) ∧ w'.cell? ⟨w.heap.size + 1, 1, none⟩ = some (.int .i64 d2) ∧ w'.cell? ⟨w0.heap.size, 0, none⟩ = some (.int .i64 u0) ∧ w'.cell? ⟨w0.heap.size, 1, none⟩ = some (.int .i64 v0) ∧ w'.cell? ⟨w1.heap.size, 0, none⟩ = some (.int .i64 u1) ∧ w'.cell? ⟨w1.heap.size, 1, none⟩ = some (.int .i64 v1) ∧ w'.cell? ⟨w2.heap.size, 0, none⟩ = some (.int .i64 u2) ∧ w'.cell? ⟨w2.heap.size, 1, none⟩ = some (.int .i64 v2) ∧ w'.cell? ⟨w3.heap.size, 0, none⟩ = some (.int .i64 u3) ∧ w'.cell? ⟨w3.heap.size, 1, none⟩ = some (.int .i64 v3) ∧ Below w.heap.size w w')) (by kernel_rfl) ?_ (fun hHeld => ?_)
          · first | exact ⟨x_t.c0, x_t.c1, x_t.c2, x_t.c3, x_t.c4, x_t.c5, x_d.c0, x_d.c1, x_ma.c0, x_ma.c1, x_mb.c0, x_mb.c1, x_mc.c0, x_mc.c1, x_md.c0, x_md.c1, BB⟩ | exact ⟨cell_on bx9 hHeld.1, cell_on bx9 hHeld.2.1, cell_on bx9 hHeld.2.2.1, cell_on bx9 hHeld.2.2.2.1, cell_on bx9 hHeld.2.2.2.2.1, cell_on bx9 hHeld.2.2.2.2.2.1, cell_on bx9 hHeld.2.2.2.2.2.2.1, cell_on bx9 hHeld.2.2.2.2.2.2.2.1, cell_on bx9 hHeld.2.2.2.2.2.2.2.2.1, cell_on bx9 hHeld.2.2.2.2.2.2.2.2.2.1, cell_on bx9 hHeld.2.2.2.2.2.2.2.2.2.2.1, cell_on bx9 hHeld.2.2.2.2.2.2.2.2.2.2.2.1, cell_on bx9 hHeld.2.2.2.2.2.2.2.2.2.2.2.2.1, cell_on bx9 hHeld.2.2.2.2.2.2.2.2.2.2.2.2.2.1, cell_on bx9 hHeld.2.2.2.2.2.2.2.2.2.2.2.2.2.2.1, cell_on bx9 hHeld.2.2.2.2.2.2.2.2.2.2.2.2.2.2.2.1, also hHeld.2.2.2.2.2.2.2.2.2.2.2.2.2.2.2.2 bx9⟩ | exact ⟨cell_on bx8 hHeld.1, cell_on bx8 hHeld.2.1, cell_on bx8 hHeld.2.2.1, cell_on bx8 hHeld.2.2.2.1, cell_on bx8 hHeld.2.2.2.2.1, cell_on bx8 hHeld.2.2.2.2.2.1, cell_on bx8 hHeld.2.2.2.2.2.2.1, cell_on bx8 hHeld.2.2.2.2.2.2.2.1, cell_on bx8 hHeld.2.2.2.2.2.2.2.2.1, cell_on bx8 hHeld.2.2.2.2.2.2.2.2.2.1, cell_on bx8 hHeld.2.2.2.2.2.2.2.2.2.2.1, cell_on bx8 hHeld.2.2.2.2.2.2.2.2.2.2.2.1, cell_on bx8 hHeld.2.2.2.2.2.2.2.2.2.2.2.2.1, cell_on bx8 hHeld.2.2.2.2.2.2.2.2.2.2.2.2.2.1, cell_on bx8 hHeld.2.2.2.2.2.2.2.2.2.2.2.2.2.2.1, cell_on bx8 hHeld.2.2.2.2.2.2.2.2.2.2.2.2.2.2.2.1, also hHeld.2.2.2.2.2.2.2.2.2.2.2.2.2.2.2.2 bx8⟩ | exact ⟨cell_on bx7 hHeld.1, cell_on bx7 hHeld.2.1, cell_on bx7 hHeld.2.2.1, cell_on bx7 hHeld.2.2.2.1, cell_on bx7 hHeld.2.2.2.2.1, cell_on bx7 hHeld.2.2.2.2.2.1, cell_on bx7 hHeld.2.2.2.2.2.2.1, cell_on bx7 hHeld.2.2.2.2.2.2.2.1, cell_on bx7 hHeld.2.2.2.2.2.2.2.2.1, cell_on bx7 hHeld.2.2.2.2.2.2.2.2.2.1, cell_on bx7 hHeld.2.2.2.2.2.2.2.2.2.2.1, cell_on bx7 hHeld.2.2.2.2.2.2.2.2.2.2.2.1, cell_on bx7 hHeld.2.2.2.2.2.2.2.2.2.2.2.2.1, cell_on bx7 hHeld.2.2.2.2.2.2.2.2.2.2.2.2.2.1, cell_on bx7 hHeld.2.2.2.2.2.2.2.2.2.2.2.2.2.2.1, cell_on bx7 hHeld.2.2.2.2.2.2.2.2.2.2.2.2.2.2.2.1, also hHeld.2.2.2.2.2.2.2.2.2.2.2.2.2.2.2.2 bx7⟩ | exact ⟨cell_on bx6 hHeld.1, cell_on bx6 hHeld.2.1, cell_on bx6 hHeld.2.2.1, cell_on bx6 hHeld.2.2.2.1, cell_on bx6 hHeld.2.2.2.2.1, cell_on bx6 hHeld.2.2.2.2.2.1, cell_on bx6 hHeld.2.2.2.2.2.2.1, cell_on bx6 hHeld.2.2.2.2.2.2.2.1, cell_on bx6 hHeld.2.2.2.2.2.2.2.2.1, cell_on bx6 hHeld.2.2.2.2.2.2.2.2.2.1, cell_on bx6 hHeld.2.2.2.2.2.2.2.2.2.2.1, cell_on bx6 hHeld.2.2.2.2.2.2.2.2.2.2.2.1, cell_on bx6 hHeld.2.2.2.2.2.2.2.2.2.2.2.2.1, cell_on bx6 hHeld.2.2.2.2.2.2.2.2.2.2.2.2.2.1, cell_on bx6 hHeld.2.2.2.2.2.2.2.2.2.2.2.2.2.2.1, cell_on bx6 hHeld.2.2.2.2.2.2.2.2.2.2.2.2.2.2.2.1, also hHeld.2.2.2.2.2.2.2.2.2.2.2.2.2.2.2.2 bx6⟩ | exact ⟨cell_on bx5 hHeld.1, cell_on bx5 hHeld.2.1, cell_on bx5 hHeld.2.2.1, cell_on bx5 hHeld.2.2.2.1, cell_on bx5 hHeld.2.2.2.2.1, cell_on bx5 hHeld.2.2.2.2.2.1, cell_on bx5 hHeld.2.2.2.2.2.2.1, cell_on bx5 hHeld.2.2.2.2.2.2.2.1, cell_on bx5 hHeld.2.2.2.2.2.2.2.2.1, cell_on bx5 hHeld.2.2.2.2.2.2.2.2.2.1, cell_on bx5 hHeld.2.2.2.2.2.2.2.2.2.2.1, cell_on bx5 hHeld.2.2.2.2.2.2.2.2.2.2.2.1, cell_on bx5 hHeld.2.2.2.2.2.2.2.2.2.2.2.2.1, cell_on bx5 hHeld.2.2.2.2.2.2.2.2.2.2.2.2.2.1, cell_on bx5 hHeld.2.2.2.2.2.2.2.2.2.2.2.2.2.2.1, cell_on bx5 hHeld.2.2.2.2.2.2.2.2.2.2.2.2.2.2.2.1, also hHeld.2.2.2.2.2.2.2.2.2.2.2.2.2.2.2.2 bx5⟩ | exact ⟨cell_on bx4 hHeld.1, cell_on bx4 hHeld.2.1, cell_on bx4 hHeld.2.2.1, cell_on bx4 hHeld.2.2.2.1, cell_on bx4 hHeld.2.2.2.2.1, cell_on bx4 hHeld.2.2.2.2.2.1, cell_on bx4 hHeld.2.2.2.2.2.2.1, cell_on bx4 hHeld.2.2.2.2.2.2.2.1, cell_on bx4 hHeld.2.2.2.2.2.2.2.2.1, cell_on bx4 hHeld.2.2.2.2.2.2.2.2.2.1, cell_on bx4 hHeld.2.2.2.2.2.2.2.2.2.2.1, cell_on bx4 hHeld.2.2.2.2.2.2.2.2.2.2.2.1, cell_on bx4 hHeld.2.2.2.2.2.2.2.2.2.2.2.2.1, cell_on bx4 hHeld.2.2.2.2.2.2.2.2.2.2.2.2.2.1, cell_on bx4 hHeld.2.2.2.2.2.2.2.2.2.2.2.2.2.2.1, cell_on bx4 hHeld.2.2.2.2.2.2.2.2.2.2.2.2.2.2.2.1, also hHeld.2.2.2.2.2.2.2.2.2.2.2.2.2.2.2.2 bx4⟩ | exact ⟨cell_on bx3 hHeld.1, cell_on bx3 hHeld.2.1, cell_on bx3 hHeld.2.2.1, cell_on bx3 hHeld.2.2.2.1, cell_on bx3 hHeld.2.2.2.2.1, cell_on bx3 hHeld.2.2.2.2.2.1, cell_on bx3 hHeld.2.2.2.2.2.2.1, cell_on bx3 hHeld.2.2.2.2.2.2.2.1, cell_on bx3 hHeld.2.2.2.2.2.2.2.2.1, cell_on bx3 hHeld.2.2.2.2.2.2.2.2.2.1, cell_on bx3 hHeld.2.2.2.2.2.2.2.2.2.2.1, cell_on bx3 hHeld.2.2.2.2.2.2.2.2.2.2.2.1, cell_on bx3 hHeld.2.2.2.2.2.2.2.2.2.2.2.2.1, cell_on bx3 hHeld.2.2.2.2.2.2.2.2.2.2.2.2.2.1, cell_on bx3 hHeld.2.2.2.2.2.2.2.2.2.2.2.2.2.2.1, cell_on bx3 hHeld.2.2.2.2.2.2.2.2.2.2.2.2.2.2.2.1, also hHeld.2.2.2.2.2.2.2.2.2.2.2.2.2.2.2.2 bx3⟩ | exact ⟨cell_on bx2 hHeld.1, cell_on bx2 hHeld.2.1, cell_on bx2 hHeld.2.2.1, cell_on bx2 hHeld.2.2.2.1, cell_on bx2 hHeld.2.2.2.2.1, cell_on bx2 hHeld.2.2.2.2.2.1, cell_on bx2 hHeld.2.2.2.2.2.2.1, cell_on bx2 hHeld.2.2.2.2.2.2.2.1, cell_on bx2 hHeld.2.2.2.2.2.2.2.2.1, cell_on bx2 hHeld.2.2.2.2.2.2.2.2.2.1, cell_on bx2 hHeld.2.2.2.2.2.2.2.2.2.2.1, cell_on bx2 hHeld.2.2.2.2.2.2.2.2.2.2.2.1, cell_on bx2 hHeld.2.2.2.2.2.2.2.2.2.2.2.2.1, cell_on bx2 hHeld.2.2.2.2.2.2.2.2.2.2.2.2.2.1, cell_on bx2 hHeld.2.2.2.2.2.2.2.2.2.2.2.2.2.2.1, cell_on bx2 hHeld.2.2.2.2.2.2.2.2.2.2.2.2.2.2.2.1, also hHeld.2.2.2.2.2.2.2.2.2.2.2.2.2.2.2.2 bx2⟩ | exact ⟨cell_on bx1 hHeld.1, cell_on bx1 hHeld.2.1, cell_on bx1 hHeld.2.2.1, cell_on bx1 hHeld.2.2.2.1, cell_on bx1 hHeld.2.2.2.2.1, cell_on bx1 hHeld.2.2.2.2.2.1, cell_on bx1 hHeld.2.2.2.2.2.2.1, cell_on bx1 hHeld.2.2.2.2.2.2.2.1, cell_on bx1 hHeld.2.2.2.2.2.2.2.2.1, cell_on bx1 hHeld.2.2.2.2.2.2.2.2.2.1, cell_on bx1 hHeld.2.2.2.2.2.2.2.2.2.2.1, cell_on bx1 hHeld.2.2.2.2.2.2.2.2.2.2.2.1, cell_on bx1 hHeld.2.2.2.2.2.2.2.2.2.2.2.2.1, cell_on bx1 hHeld.2.2.2.2.2.2.2.2.2.2.2.2.2.1, cell_on bx1 hHeld.2.2.2.2.2.2.2.2.2.2.2.2.2.2.1, cell_on bx1 hHeld.2.2.2.2.2.2.2.2.2.2.2.2.2.2.2.1, also hHeld.2.2.2.2.2.2.2.2.2.2.2.2.2.2.2.2 bx1⟩
          refine take_yes (i := 0) (v := ?vs0) rfl (by kernel_rfl) (by kernel_rfl) (by kernel_rfl) (fun _ _ _ h => h) (by rfl) (by assumption) ?hys0 ?rests0
          case hys0 => (intro w hSw; (try dsimp only at hSw); first | (go_simp; done) | (go_simp; with_reducible rfl))
          simp only [Act.put, List.setIfInBounds_toArray, List.set_cons_zero, List.set_cons_succ]
          refine take_yes (i := 1) (v := ?vs1) rfl (by kernel_rfl) (by kernel_rfl) (by kernel_rfl) (fun _ _ _ h => h) (by rfl) (by assumption) ?hys1 ?rests1
          case hys1 => (intro w hSw; (try dsimp only at hSw); first | (go_simp; done) | (go_simp; with_reducible rfl))
          simp only [Act.put, List.setIfInBounds_toArray, List.set_cons_zero, List.set_cons_succ]
          refine take_yes (i := 2) (v := ?vs2) rfl (by kernel_rfl) (by kernel_rfl) (by kernel_rfl) (fun _ _ _ h => h) (by rfl) (by assumption) ?hys2 ?rests2
          case hys2 => (intro w hSw; (try dsimp only at hSw); first | (go_simp; done) | (go_simp; with_reducible rfl))
          simp only [Act.put, List.setIfInBounds_toArray, List.set_cons_zero, List.set_cons_succ]
          refine take_yes (i := 4) (v := ?vs4) rfl (by kernel_rfl) (by kernel_rfl) (by kernel_rfl) (fun _ _ _ h => h) (by rfl) (by assumption) ?hys4 ?rests4
          case hys4 => (intro w hSw; (try dsimp only at hSw); first | (go_simp; done) | (go_simp; with_reducible rfl))
          simp only [Act.put, List.setIfInBounds_toArray, List.set_cons_zero, List.set_cons_succ]
          refine take_yes (i := 5) (v := ?vs5) rfl (by kernel_rfl) (by kernel_rfl) (by kernel_rfl) (fun _ _ _ h => h) (by rfl) (by assumption) ?hys5 ?rests5
          case hys5 => (intro w hSw; (try dsimp only at hSw); first | (go_simp; done) | (go_simp; with_reducible rfl))
          simp only [Act.put, List.setIfInBounds_toArray, List.set_cons_zero, List.set_cons_succ]
          refine take_yes (i := 6) (v := ?vs6) rfl (by kernel_rfl) (by kernel_rfl) (by kernel_rfl) (fun _ _ _ h => h) (by rfl) (by assumption) ?hys6 ?rests6
          case hys6 => (intro w hSw; (try dsimp only at hSw); first | (go_simp; done) | (go_simp; with_reducible rfl))
          simp only [Act.put, List.setIfInBounds_toArray, List.set_cons_zero, List.set_cons_succ]
          refine take_yes (i := 7) (v := ?vs7) rfl (by kernel_rfl) (by kernel_rfl) (by kernel_rfl) (fun _ _ _ h => h) (by rfl) (by assumption) ?hys7 ?rests7
          case hys7 => (intro w hSw; (try dsimp only at hSw); first | (go_simp; done) | (go_simp; with_reducible rfl))
          simp only [Act.put, List.setIfInBounds_toArray, List.set_cons_zero, List.set_cons_succ]
          refine take_yes (i := 8) (v := ?vs8) rfl (by kernel_rfl) (by kernel_rfl) (by kernel_rfl) (fun _ _ _ h => h) (by rfl) (by assumption) ?hys8 ?rests8
          case hys8 => (intro w hSw; (try dsimp only at hSw); first | (go_simp; done) | (go_simp; with_reducible rfl))
          simp only [Act.put, List.setIfInBounds_toArray, List.set_cons_zero, List.set_cons_succ]
          refine take_yes (i := 9) (v := ?vs9) rfl (by kernel_rfl) (by kernel_rfl) (by kernel_rfl) (fun _ _ _ h => h) (by rfl) (by assumption) ?hys9 ?rests9
          case hys9 => (intro w hSw; (try dsimp only at hSw); first | (go_simp; done) | (go_simp; with_reducible rfl))
          simp only [Act.put, List.setIfInBounds_toArray, List.set_cons_zero, List.set_cons_succ]
          refine take_call (i := 3) rfl (by kernel_rfl) (fun Kc hK => ?_)
          go_simp
          (go_at_call 9; refine (pArea u0 v0 u1 v1 u2 v2 _ Ep.out Eq.out).mono ?_; rintro e x1 ⟨rfl, bx1⟩)
          refine hK.out _ _ ?_ (fun hHeld => ?_)
          · first | exact ⟨x_t.c0, x_t.c1, x_t.c2, x_t.c3, x_t.c4, x_t.c5, x_d.c0, x_d.c1, x_ma.c0, x_ma.c1, x_mb.c0, x_mb.c1, x_mc.c0, x_mc.c1, x_md.c0, x_md.c1, BB⟩ | exact ⟨cell_on bx9 hHeld.1, cell_on bx9 hHeld.2.1, cell_on bx9 hHeld.2.2.1, cell_on bx9 hHeld.2.2.2.1, cell_on bx9 hHeld.2.2.2.2.1, cell_on bx9 hHeld.2.2.2.2.2.1, cell_on bx9 hHeld.2.2.2.2.2.2.1, cell_on bx9 hHeld.2.2.2.2.2.2.2.1, cell_on bx9 hHeld.2.2.2.2.2.2.2.2.1, cell_on bx9 hHeld.2.2.2.2.2.2.2.2.2.1, cell_on bx9 hHeld.2.2.2.2.2.2.2.2.2.2.1, cell_on bx9 hHeld.2.2.2.2.2.2.2.2.2.2.2.1, cell_on bx9 hHeld.2.2.2.2.2.2.2.2.2.2.2.2.1, cell_on bx9 hHeld.2.2.2.2.2.2.2.2.2.2.2.2.2.1, cell_on bx9 hHeld.2.2.2.2.2.2.2.2.2.2.2.2.2.2.1, cell_on bx9 hHeld.2.2.2.2.2.2.2.2.2.2.2.2.2.2.2.1, also hHeld.2.2.2.2.2.2.2.2.2.2.2.2.2.2.2.2 bx9⟩ | exact ⟨cell_on bx8 hHeld.1, cell_on bx8 hHeld.2.1, cell_on bx8 hHeld.2.2.1, cell_on bx8 hHeld.2.2.2.1, cell_on bx8 hHeld.2.2.2.2.1, cell_on bx8 hHeld.2.2.2.2.2.1, cell_on bx8 hHeld.2.2.2.2.2.2.1, cell_on bx8 hHeld.2.2.2.2.2.2.2.1, cell_on bx8 hHeld.2.2.2.2.2.2.2.2.1, cell_on bx8 hHeld.2.2.2.2.2.2.2.2.2.1, cell_on bx8 hHeld.2.2.2.2.2.2.2.2.2.2.1, cell_on bx8 hHeld.2.2.2.2.2.2.2.2.2.2.2.1, cell_on bx8 hHeld.2.2.2.2.2.2.2.2.2.2.2.2.1, cell_on bx8 hHeld.2.2.2.2.2.2.2.2.2.2.2.2.2.1, cell_on bx8 hHeld.2.2.2.2.2.2.2.2.2.2.2.2.2.2.1, cell_on bx8 hHeld.2.2.2.2.2.2.2.2.2.2.2.2.2.2.2.1, also hHeld.2.2.2.2.2.2.2.2.2.2.2.2.2.2.2.2 bx8⟩ | exact ⟨cell_on bx7 hHeld.1, cell_on bx7 hHeld.2.1, cell_on bx7 hHeld.2.2.1, cell_on bx7 hHeld.2.2.2.1, cell_on bx7 hHeld.2.2.2.2.1, cell_on bx7 hHeld.2.2.2.2.2.1, cell_on bx7 hHeld.2.2.2.2.2.2.1, cell_on bx7 hHeld.2.2.2.2.2.2.2.1, cell_on bx7 hHeld.2.2.2.2.2.2.2.2.1, cell_on bx7 hHeld.2.2.2.2.2.2.2.2.2.1, cell_on bx7 hHeld.2.2.2.2.2.2.2.2.2.2.1, cell_on bx7 hHeld.2.2.2.2.2.2.2.2.2.2.2.1, cell_on bx7 hHeld.2.2.2.2.2.2.2.2.2.2.2.2.1, cell_on bx7 hHeld.2.2.2.2.2.2.2.2.2.2.2.2.2.1, cell_on bx7 hHeld.2.2.2.2.2.2.2.2.2.2.2.2.2.2.1, cell_on bx7 hHeld.2.2.2.2.2.2.2.2.2.2.2.2.2.2.2.1, also hHeld.2.2.2.2.2.2.2.2.2.2.2.2.2.2.2.2 bx7⟩ | exact ⟨cell_on bx6 hHeld.1, cell_on bx6 hHeld.2.1, cell_on bx6 hHeld.2.2.1, cell_on bx6 hHeld.2.2.2.1, cell_on bx6 hHeld.2.2.2.2.1, cell_on bx6 hHeld.2.2.2.2.2.1, cell_on bx6 hHeld.2.2.2.2.2.2.1, cell_on bx6 hHeld.2.2.2.2.2.2.2.1, cell_on bx6 hHeld.2.2.2.2.2.2.2.2.1, cell_on bx6 hHeld.2.2.2.2.2.2.2.2.2.1, cell_on bx6 hHeld.2.2.2.2.2.2.2.2.2.2.1, cell_on bx6 hHeld.2.2.2.2.2.2.2.2.2.2.2.1, cell_on bx6 hHeld.2.2.2.2.2.2.2.2.2.2.2.2.1, cell_on bx6 hHeld.2.2.2.2.2.2.2.2.2.2.2.2.2.1, cell_on bx6 hHeld.2.2.2.2.2.2.2.2.2.2.2.2.2.2.1, cell_on bx6 hHeld.2.2.2.2.2.2.2.2.2.2.2.2.2.2.2.1, also hHeld.2.2.2.2.2.2.2.2.2.2.2.2.2.2.2.2 bx6⟩ | exact ⟨cell_on bx5 hHeld.1, cell_on bx5 hHeld.2.1, cell_on bx5 hHeld.2.2.1, cell_on bx5 hHeld.2.2.2.1, cell_on bx5 hHeld.2.2.2.2.1, cell_on bx5 hHeld.2.2.2.2.2.1, cell_on bx5 hHeld.2.2.2.2.2.2.1, cell_on bx5 hHeld.2.2.2.2.2.2.2.1, cell_on bx5 hHeld.2.2.2.2.2.2.2.2.1, cell_on bx5 hHeld.2.2.2.2.2.2.2.2.2.1, cell_on bx5 hHeld.2.2.2.2.2.2.2.2.2.2.1, cell_on bx5 hHeld.2.2.2.2.2.2.2.2.2.2.2.1, cell_on bx5 hHeld.2.2.2.2.2.2.2.2.2.2.2.2.1, cell_on bx5 hHeld.2.2.2.2.2.2.2.2.2.2.2.2.2.1, cell_on bx5 hHeld.2.2.2.2.2.2.2.2.2.2.2.2.2.2.1, cell_on bx5 hHeld.2.2.2.2.2.2.2.2.2.2.2.2.2.2.2.1, also hHeld.2.2.2.2.2.2.2.2.2.2.2.2.2.2.2.2 bx5⟩ | exact ⟨cell_on bx4 hHeld.1, cell_on bx4 hHeld.2.1, cell_on bx4 hHeld.2.2.1, cell_on bx4 hHeld.2.2.2.1, cell_on bx4 hHeld.2.2.2.2.1, cell_on bx4 hHeld.2.2.2.2.2.1, cell_on bx4 hHeld.2.2.2.2.2.2.1, cell_on bx4 hHeld.2.2.2.2.2.2.2.1, cell_on bx4 hHeld.2.2.2.2.2.2.2.2.1, cell_on bx4 hHeld.2.2.2.2.2.2.2.2.2.1, cell_on bx4 hHeld.2.2.2.2.2.2.2.2.2.2.1, cell_on bx4 hHeld.2.2.2.2.2.2.2.2.2.2.2.1, cell_on bx4 hHeld.2.2.2.2.2.2.2.2.2.2.2.2.1, cell_on bx4 hHeld.2.2.2.2.2.2.2.2.2.2.2.2.2.1, cell_on bx4 hHeld.2.2.2.2.2.2.2.2.2.2.2.2.2.2.1, cell_on bx4 hHeld.2.2.2.2.2.2.2.2.2.2.2.2.2.2.2.1, also hHeld.2.2.2.2.2.2.2.2.2.2.2.2.2.2.2.2 bx4⟩ | exact ⟨cell_on bx3 hHeld.1, cell_on bx3 hHeld.2.1, cell_on bx3 hHeld.2.2.1, cell_on bx3 hHeld.2.2.2.1, cell_on bx3 hHeld.2.2.2.2.1, cell_on bx3 hHeld.2.2.2.2.2.1, cell_on bx3 hHeld.2.2.2.2.2.2.1, cell_on bx3 hHeld.2.2.2.2.2.2.2.1, cell_on bx3 hHeld.2.2.2.2.2.2.2.2.1, cell_on bx3 hHeld.2.2.2.2.2.2.2.2.2.1, cell_on bx3 hHeld.2.2.2.2.2.2.2.2.2.2.1, cell_on bx3 hHeld.2.2.2.2.2.2.2.2.2.2.2.1, cell_on bx3 hHeld.2.2.2.2.2.2.2.2.2.2.2.2.1, cell_on bx3 hHeld.2.2.2.2.2.2.2.2.2.2.2.2.2.1, cell_on bx3 hHeld.2.2.2.2.2.2.2.2.2.2.2.2.2.2.1, cell_on bx3 hHeld.2.2.2.2.2.2.2.2.2.2.2.2.2.2.2.1, also hHeld.2.2.2.2.2.2.2.2.2.2.2.2.2.2.2.2 bx3⟩ | exact ⟨cell_on bx2 hHeld.1, cell_on bx2 hHeld.2.1, cell_on bx2 hHeld.2.2.1, cell_on bx2 hHeld.2.2.2.1, cell_on bx2 hHeld.2.2.2.2.1, cell_on bx2 hHeld.2.2.2.2.2.1, cell_on bx2 hHeld.2.2.2.2.2.2.1, cell_on bx2 hHeld.2.2.2.2.2.2.2.1, cell_on bx2 hHeld.2.2.2.2.2.2.2.2.1, cell_on bx2 hHeld.2.2.2.2.2.2.2.2.2.1, cell_on bx2 hHeld.2.2.2.2.2.2.2.2.2.2.1, cell_on bx2 hHeld.2.2.2.2.2.2.2.2.2.2.2.1, cell_on bx2 hHeld.2.2.2.2.2.2.2.2.2.2.2.2.1, cell_on bx2 hHeld.2.2.2.2.2.2.2.2.2.2.2.2.2.1, cell_on bx2 hHeld.2.2.2.2.2.2.2.2.2.2.2.2.2.2.1, cell_on bx2 hHeld.2.2.2.2.2.2.2.2.2.2.2.2.2.2.2.1, also hHeld.2.2.2.2.2.2.2.2.2.2.2.2.2.2.2.2 bx2⟩ | exact ⟨cell_on bx1 hHeld.1, cell_on bx1 hHeld.2.1, cell_on bx1 hHeld.2.2.1, cell_on bx1 hHeld.2.2.2.1, cell_on bx1 hHeld.2.2.2.2.1, cell_on bx1 hHeld.2.2.2.2.2.1, cell_on bx1 hHeld.2.2.2.2.2.2.1, cell_on bx1 hHeld.2.2.2.2.2.2.2.1, cell_on bx1 hHeld.2.2.2.2.2.2.2.2.1, cell_on bx1 hHeld.2.2.2.2.2.2.2.2.2.1, cell_on bx1 hHeld.2.2.2.2.2.2.2.2.2.2.1, cell_on bx1 hHeld.2.2.2.2.2.2.2.2.2.2.2.1, cell_on bx1 hHeld.2.2.2.2.2.2.2.2.2.2.2.2.1, cell_on bx1 hHeld.2.2.2.2.2.2.2.2.2.2.2.2.2.1, cell_on bx1 hHeld.2.2.2.2.2.2.2.2.2.2.2.2.2.2.1, cell_on bx1 hHeld.2.2.2.2.2.2.2.2.2.2.2.2.2.2.2.1, also hHeld.2.2.2.2.2.2.2.2.2.2.2.2.2.2.2.2 bx1⟩
          clear hK Kc
          have zbx1 := bx1.size
          replace BB := also BB bx1
          replace x_t := x_t.on bx1
          replace x_d := x_d.on bx1
          replace x_s := x_s.on bx1
          replace x_ma := x_ma.on bx1
          replace x_mb := x_mb.on bx1
          replace x_mc := x_mc.on bx1
          replace x_md := x_md.on bx1
          refine take_call (i := 10) rfl (by kernel_rfl) (fun Kc hK => ?_)
          go_simp
          (go_at_call 9; refine (pArea a1 a2 b1 b2 c1 c2 _ Hp.out Hq.out).mono ?_; rintro e x2 ⟨rfl, bx2⟩)
          refine hK.out _ _ ?_ (fun hHeld => ?_)
          · first | exact ⟨x_t.c0, x_t.c1, x_t.c2, x_t.c3, x_t.c4, x_t.c5, x_d.c0, x_d.c1, x_ma.c0, x_ma.c1, x_mb.c0, x_mb.c1, x_mc.c0, x_mc.c1, x_md.c0, x_md.c1, BB⟩ | exact ⟨cell_on bx9 hHeld.1, cell_on bx9 hHeld.2.1, cell_on bx9 hHeld.2.2.1, cell_on bx9 hHeld.2.2.2.1, cell_on bx9 hHeld.2.2.2.2.1, cell_on bx9 hHeld.2.2.2.2.2.1, cell_on bx9 hHeld.2.2.2.2.2.2.1, cell_on bx9 hHeld.2.2.2.2.2.2.2.1, cell_on bx9 hHeld.2.2.2.2.2.2.2.2.1, cell_on bx9 hHeld.2.2.2.2.2.2.2.2.2.1, cell_on bx9 hHeld.2.2.2.2.2.2.2.2.2.2.1, cell_on bx9 hHeld.2.2.2.2.2.2.2.2.2.2.2.1, cell_on bx9 hHeld.2.2.2.2.2.2.2.2.2.2.2.2.1, cell_on bx9 hHeld.2.2.2.2.2.2.2.2.2.2.2.2.2.1, cell_on bx9 hHeld.2.2.2.2.2.2.2.2.2.2.2.2.2.2.1, cell_on bx9 hHeld.2.2.2.2.2.2.2.2.2.2.2.2.2.2.2.1, also hHeld.2.2.2.2.2.2.2.2.2.2.2.2.2.2.2.2 bx9⟩ | exact ⟨cell_on bx8 hHeld.1, cell_on bx8 hHeld.2.1, cell_on bx8 hHeld.2.2.1, cell_on bx8 hHeld.2.2.2.1, cell_on bx8 hHeld.2.2.2.2.1, cell_on bx8 hHeld.2.2.2.2.2.1, cell_on bx8 hHeld.2.2.2.2.2.2.1, cell_on bx8 hHeld.2.2.2.2.2.2.2.1, cell_on bx8 hHeld.2.2.2.2.2.2.2.2.1, cell_on bx8 hHeld.2.2.2.2.2.2.2.2.2.1, cell_on bx8 hHeld.2.2.2.2.2.2.2.2.2.2.1, cell_on bx8 hHeld.2.2.2.2.2.2.2.2.2.2.2.1, cell_on bx8 hHeld.2.2.2.2.2.2.2.2.2.2.2.2.1, cell_on bx8 hHeld.2.2.2.2.2.2.2.2.2.2.2.2.2.1, cell_on bx8 hHeld.2.2.2.2.2.2.2.2.2.2.2.2.2.2.1, cell_on bx8 hHeld.2.2.2.2.2.2.2.2.2.2.2.2.2.2.2.1, also hHeld.2.2.2.2.2.2.2.2.2.2.2.2.2.2.2.2 bx8⟩ | exact ⟨cell_on bx7 hHeld.1, cell_on bx7 hHeld.2.1, cell_on bx7 hHeld.2.2.1, cell_on bx7 hHeld.2.2.2.1, cell_on bx7 hHeld.2.2.2.2.1, cell_on bx7 hHeld.2.2.2.2.2.1, cell_on bx7 hHeld.2.2.2.2.2.2.1, cell_on bx7 hHeld.2.2.2.2.2.2.2.1, cell_on bx7 hHeld.2.2.2.2.2.2.2.2.1, cell_on bx7 hHeld.2.2.2.2.2.2.2.2.2.1, cell_on bx7 hHeld.2.2.2.2.2.2.2.2.2.2.1, cell_on bx7 hHeld.2.2.2.2.2.2.2.2.2.2.2.1, cell_on bx7 hHeld.2.2.2.2.2.2.2.2.2.2.2.2.1, cell_on bx7 hHeld.2.2.2.2.2.2.2.2.2.2.2.2.2.1, cell_on bx7 hHeld.2.2.2.2.2.2.2.2.2.2.2.2.2.2.1, cell_on bx7 hHeld.2.2.2.2.2.2.2.2.2.2.2.2.2.2.2.1, also hHeld.2.2.2.2.2.2.2.2.2.2.2.2.2.2.2.2 bx7⟩ | exact ⟨cell_on bx6 hHeld.1, cell_on bx6 hHeld.2.1, cell_on bx6 hHeld.2.2.1, cell_on bx6 hHeld.2.2.2.1, cell_on bx6 hHeld.2.2.2.2.1, cell_on bx6 hHeld.2.2.2.2.2.1, cell_on bx6 hHeld.2.2.2.2.2.2.1, cell_on bx6 hHeld.2.2.2.2.2.2.2.1, cell_on bx6 hHeld.2.2.2.2.2.2.2.2.1, cell_on bx6 hHeld.2.2.2.2.2.2.2.2.2.1, cell_on bx6 hHeld.2.2.2.2.2.2.2.2.2.2.1, cell_on bx6 hHeld.2.2.2.2.2.2.2.2.2.2.2.1, cell_on bx6 hHeld.2.2.2.2.2.2.2.2.2.2.2.2.1, cell_on bx6 hHeld.2.2.2.2.2.2.2.2.2.2.2.2.2.1, cell_on bx6 hHeld.2.2.2.2.2.2.2.2.2.2.2.2.2.2.1, cell_on bx6 hHeld.2.2.2.2.2.2.2.2.2.2.2.2.2.2.2.1, also hHeld.2.2.2.2.2.2.2.2.2.2.2.2.2.2.2.2 bx6⟩ | exact ⟨cell_on bx5 hHeld.1, cell_on bx5 hHeld.2.1, cell_on bx5 hHeld.2.2.1, cell_on bx5 hHeld.2.2.2.1, cell_on bx5 hHeld.2.2.2.2.1, cell_on bx5 hHeld.2.2.2.2.2.1, cell_on bx5 hHeld.2.2.2.2.2.2.1, cell_on bx5 hHeld.2.2.2.2.2.2.2.1, cell_on bx5 hHeld.2.2.2.2.2.2.2.2.1, cell_on bx5 hHeld.2.2.2.2.2.2.2.2.2.1, cell_on bx5 hHeld.2.2.2.2.2.2.2.2.2.2.1, cell_on bx5 hHeld.2.2.2.2.2.2.2.2.2.2.2.1, cell_on bx5 hHeld.2.2.2.2.2.2.2.2.2.2.2.2.1, cell_on bx5 hHeld.2.2.2.2.2.2.2.2.2.2.2.2.2.1, cell_on bx5 hHeld.2.2.2.2.2.2.2.2.2.2.2.2.2.2.1, cell_on bx5 hHeld.2.2.2.2.2.2.2.2.2.2.2.2.2.2.2.1, also hHeld.2.2.2.2.2.2.2.2.2.2.2.2.2.2.2.2 bx5⟩ | exact ⟨cell_on bx4 hHeld.1, cell_on bx4 hHeld.2.1, cell_on bx4 hHeld.2.2.1, cell_on bx4 hHeld.2.2.2.1, cell_on bx4 hHeld.2.2.2.2.1, cell_on bx4 hHeld.2.2.2.2.2.1, cell_on bx4 hHeld.2.2.2.2.2.2.1, cell_on bx4 hHeld.2.2.2.2.2.2.2.1, cell_on bx4 hHeld.2.2.2.2.2.2.2.2.1, cell_on bx4 hHeld.2.2.2.2.2.2.2.2.2.1, cell_on bx4 hHeld.2.2.2.2.2.2.2.2.2.2.1, cell_on bx4 hHeld.2.2.2.2.2.2.2.2.2.2.2.1, cell_on bx4 hHeld.2.2.2.2.2.2.2.2.2.2.2.2.1, cell_on bx4 hHeld.2.2.2.2.2.2.2.2.2.2.2.2.2.1, cell_on bx4 hHeld.2.2.2.2.2.2.2.2.2.2.2.2.2.2.1, cell_on bx4 hHeld.2.2.2.2.2.2.2.2.2.2.2.2.2.2.2.1, also hHeld.2.2.2.2.2.2.2.2.2.2.2.2.2.2.2.2 bx4⟩ | exact ⟨cell_on bx3 hHeld.1, cell_on bx3 hHeld.2.1, cell_on bx3 hHeld.2.2.1, cell_on bx3 hHeld.2.2.2.1, cell_on bx3 hHeld.2.2.2.2.1, cell_on bx3 hHeld.2.2.2.2.2.1, cell_on bx3 hHeld.2.2.2.2.2.2.1, cell_on bx3 hHeld.2.2.2.2.2.2.2.1, cell_on bx3 hHeld.2.2.2.2.2.2.2.2.1, cell_on bx3 hHeld.2.2.2.2.2.2.2.2.2.1, cell_on bx3 hHeld.2.2.2.2.2.2.2.2.2.2.1, cell_on bx3 hHeld.2.2.2.2.2.2.2.2.2.2.2.1, cell_on bx3 hHeld.2.2.2.2.2.2.2.2.2.2.2.2.1, cell_on bx3 hHeld.2.2.2.2.2.2.2.2.2.2.2.2.2.1, cell_on bx3 hHeld.2.2.2.2.2.2.2.2.2.2.2.2.2.2.1, cell_on bx3 hHeld.2.2.2.2.2.2.2.2.2.2.2.2.2.2.2.1, also hHeld.2.2.2.2.2.2.2.2.2.2.2.2.2.2.2.2 bx3⟩ | exact ⟨cell_on bx2 hHeld.1, cell_on bx2 hHeld.2.1, cell_on bx2 hHeld.2.2.1, cell_on bx2 hHeld.2.2.2.1, cell_on bx2 hHeld.2.2.2.2.1, cell_on bx2 hHeld.2.2.2.2.2.1, cell_on bx2 hHeld.2.2.2.2.2.2.1, cell_on bx2 hHeld.2.2.2.2.2.2.2.1, cell_on bx2 hHeld.2.2.2.2.2.2.2.2.1, cell_on bx2 hHeld.2.2.2.2.2.2.2.2.2.1, cell_on bx2 hHeld.2.2.2.2.2.2.2.2.2.2.1, cell_on bx2 hHeld.2.2.2.2.2.2.2.2.2.2.2.1, cell_on bx2 hHeld.2.2.2.2.2.2.2.2.2.2.2.2.1, cell_on bx2 hHeld.2.2.2.2.2.2.2.2.2.2.2.2.2.1, cell_on bx2 hHeld.2.2.2.2.2.2.2.2.2.2.2.2.2.2.1, cell_on bx2 hHeld.2.2.2.2.2.2.2.2.2.2.2.2.2.2.2.1, also hHeld.2.2.2.2.2.2.2.2.2.2.2.2.2.2.2.2 bx2⟩ | exact ⟨cell_on bx1 hHeld.1, cell_on bx1 hHeld.2.1, cell_on bx1 hHeld.2.2.1, cell_on bx1 hHeld.2.2.2.1, cell_on bx1 hHeld.2.2.2.2.1, cell_on bx1 hHeld.2.2.2.2.2.1, cell_on bx1 hHeld.2.2.2.2.2.2.1, cell_on bx1 hHeld.2.2.2.2.2.2.2.1, cell_on bx1 hHeld.2.2.2.2.2.2.2.2.1, cell_on bx1 hHeld.2.2.2.2.2.2.2.2.2.1, cell_on bx1 hHeld.2.2.2.2.2.2.2.2.2.2.1, cell_on bx1 hHeld.2.2.2.2.2.2.2.2.2.2.2.1, cell_on bx1 hHeld.2.2.2.2.2.2.2.2.2.2.2.2.1, cell_on bx1 hHeld.2.2.2.2.2.2.2.2.2.2.2.2.2.1, cell_on bx1 hHeld.2.2.2.2.2.2.2.2.2.2.2.2.2.2.1, cell_on bx1 hHeld.2.2.2.2.2.2.2.2.2.2.2.2.2.2.2.1, also hHeld.2.2.2.2.2.2.2.2.2.2.2.2.2.2.2.2 bx1⟩
          clear hK Kc
          have zbx2 := bx2.size
          replace BB := also BB bx2
          replace x_t := x_t.on bx2
          replace x_d := x_d.on bx2
          replace x_s := x_s.on bx2
          replace x_ma := x_ma.on bx2
          replace x_mb := x_mb.on bx2
          replace x_mc := x_mc.on bx2
          replace x_md := x_md.on bx2
          refine take_yes (i := 11) (v := ?vs11) rfl (by kernel_rfl) (by kernel_rfl) (by kernel_rfl) (fun _ _ _ h => h) (by rfl) (by assumption) ?hys11 ?rests11
          case hys11 => (intro w hSw; (try dsimp only at hSw); first | (go_simp; done) | (go_simp; with_reducible rfl))
          simp only [Act.put, List.setIfInBounds_toArray, List.set_cons_zero, List.set_cons_succ]
          refine take_yes (i := 12) (v := ?vs12) rfl (by kernel_rfl) (by kernel_rfl) (by kernel_rfl) (fun _ _ _ h => h) (by rfl) (by assumption) ?hys12 ?rests12
          case hys12 => (intro w hSw; (try dsimp only at hSw); first | (go_simp; done) | (go_simp; with_reducible rfl))
          simp only [Act.put, List.setIfInBounds_toArray, List.set_cons_zero, List.set_cons_succ]
          refine take_yes (i := 13) (v := ?vs13) rfl (by kernel_rfl) (by kernel_rfl) (by kernel_rfl) (fun _ _ _ h => h) (by rfl) (by assumption) ?hys13 ?rests13
          case hys13 => (intro w hSw; (try dsimp only at hSw); first | (go_simp; done) | (go_simp; with_reducible rfl))
          simp only [Act.put, List.setIfInBounds_toArray, List.set_cons_zero, List.set_cons_succ]
          refine take_yes (i := 14) (v := ?vs14) rfl (by kernel_rfl) (by kernel_rfl) (by kernel_rfl) (fun _ _ _ h => h) (by rfl) (by assumption) ?hys14 ?rests14
          case hys14 => (intro w hSw; (try dsimp only at hSw); first | (go_simp; done) | (go_simp; with_reducible rfl))
          simp only [Act.put, List.setIfInBounds_toArray, List.set_cons_zero, List.set_cons_succ]
          refine take_yes (i := 16) (v := ?vs16) rfl (by kernel_rfl) (by kernel_rfl) (by kernel_rfl) (fun _ _ _ h => h) (by rfl) (by assumption) ?hys16 ?rests16
          case hys16 => (intro w hSw; (try dsimp only at hSw); first | (go_simp; done) | (go_simp; with_reducible rfl))
          simp only [Act.put, List.setIfInBounds_toArray, List.set_cons_zero, List.set_cons_succ]
          refine take_yes (i := 17) (v := ?vs17) rfl (by kernel_rfl) (by kernel_rfl) (by kernel_rfl) (fun _ _ _ h => h) (by rfl) (by assumption) ?hys17 ?rests17
          case hys17 => (intro w hSw; (try dsimp only at hSw); first | (go_simp; done) | (go_simp; with_reducible rfl))
          simp only [Act.put, List.setIfInBounds_toArray, List.set_cons_zero, List.set_cons_succ]
          refine take_yes (i := 18) (v := ?vs18) rfl (by kernel_rfl) (by kernel_rfl) (by kernel_rfl) (fun _ _ _ h => h) (by rfl) (by assumption) ?hys18 ?rests18
          case hys18 => (intro w hSw; (try dsimp only at hSw); first | (go_simp; done) | (go_simp; with_reducible rfl))
          simp only [Act.put, List.setIfInBounds_toArray, List.set_cons_zero, List.set_cons_succ]
          refine take_call (i := 15) rfl (by kernel_rfl) (fun Kc hK => ?_)
          go_simp
          (go_at_call 11; refine (pDist u0 v0 u3 v3 _ Ex.out Ey.out).mono ?_; rintro e x3 ⟨rfl, bx3⟩)
          refine hK.out _ _ ?_ (fun hHeld => ?_)
          · first | exact ⟨x_t.c0, x_t.c1, x_t.c2, x_t.c3, x_t.c4, x_t.c5, x_d.c0, x_d.c1, x_ma.c0, x_ma.c1, x_mb.c0, x_mb.c1, x_mc.c0, x_mc.c1, x_md.c0, x_md.c1, BB⟩ | exact ⟨cell_on bx9 hHeld.1, cell_on bx9 hHeld.2.1, cell_on bx9 hHeld.2.2.1, cell_on bx9 hHeld.2.2.2.1, cell_on bx9 hHeld.2.2.2.2.1, cell_on bx9 hHeld.2.2.2.2.2.1, cell_on bx9 hHeld.2.2.2.2.2.2.1, cell_on bx9 hHeld.2.2.2.2.2.2.2.1, cell_on bx9 hHeld.2.2.2.2.2.2.2.2.1, cell_on bx9 hHeld.2.2.2.2.2.2.2.2.2.1, cell_on bx9 hHeld.2.2.2.2.2.2.2.2.2.2.1, cell_on bx9 hHeld.2.2.2.2.2.2.2.2.2.2.2.1, cell_on bx9 hHeld.2.2.2.2.2.2.2.2.2.2.2.2.1, cell_on bx9 hHeld.2.2.2.2.2.2.2.2.2.2.2.2.2.1, cell_on bx9 hHeld.2.2.2.2.2.2.2.2.2.2.2.2.2.2.1, cell_on bx9 hHeld.2.2.2.2.2.2.2.2.2.2.2.2.2.2.2.1, also hHeld.2.2.2.2.2.2.2.2.2.2.2.2.2.2.2.2 bx9⟩ | exact ⟨cell_on bx8 hHeld.1, cell_on bx8 hHeld.2.1, cell_on bx8 hHeld.2.2.1, cell_on bx8 hHeld.2.2.2.1, cell_on bx8 hHeld.2.2.2.2.1, cell_on bx8 hHeld.2.2.2.2.2.1, cell_on bx8 hHeld.2.2.2.2.2.2.1, cell_on bx8 hHeld.2.2.2.2.2.2.2.1, cell_on bx8 hHeld.2.2.2.2.2.2.2.2.1, cell_on bx8 hHeld.2.2.2.2.2.2.2.2.2.1, cell_on bx8 hHeld.2.2.2.2.2.2.2.2.2.2.1, cell_on bx8 hHeld.2.2.2.2.2.2.2.2.2.2.2.1, cell_on bx8 hHeld.2.2.2.2.2.2.2.2.2.2.2.2.1, cell_on bx8 hHeld.2.2.2.2.2.2.2.2.2.2.2.2.2.1, cell_on bx8 hHeld.2.2.2.2.2.2.2.2.2.2.2.2.2.2.1, cell_on bx8 hHeld.2.2.2.2.2.2.2.2.2.2.2.2.2.2.2.1, also hHeld.2.2.2.2.2.2.2.2.2.2.2.2.2.2.2.2 bx8⟩ | exact ⟨cell_on bx7 hHeld.1, cell_on bx7 hHeld.2.1, cell_on bx7 hHeld.2.2.1, cell_on bx7 hHeld.2.2.2.1, cell_on bx7 hHeld.2.2.2.2.1, cell_on bx7 hHeld.2.2.2.2.2.1, cell_on bx7 hHeld.2.2.2.2.2.2.1, cell_on bx7 hHeld.2.2.2.2.2.2.2.1, cell_on bx7 hHeld.2.2.2.2.2.2.2.2.1, cell_on bx7 hHeld.2.2.2.2.2.2.2.2.2.1, cell_on bx7 hHeld.2.2.2.2.2.2.2.2.2.2.1, cell_on bx7 hHeld.2.2.2.2.2.2.2.2.2.2.2.1, cell_on bx7 hHeld.2.2.2.2.2.2.2.2.2.2.2.2.1, cell_on bx7 hHeld.2.2.2.2.2.2.2.2.2.2.2.2.2.1, cell_on bx7 hHeld.2.2.2.2.2.2.2.2.2.2.2.2.2.2.1, cell_on bx7 hHeld.2.2.2.2.2.2.2.2.2.2.2.2.2.2.2.1, also hHeld.2.2.2.2.2.2.2.2.2.2.2.2.2.2.2.2 bx7⟩ | exact ⟨cell_on bx6 hHeld.1, cell_on bx6 hHeld.2.1, cell_on bx6 hHeld.2.2.1, cell_on bx6 hHeld.2.2.2.1, cell_on bx6 hHeld.2.2.2.2.1, cell_on bx6 hHeld.2.2.2.2.2.1, cell_on bx6 hHeld.2.2.2.2.2.2.1, cell_on bx6 hHeld.2.2.2.2.2.2.2.1, cell_on bx6 hHeld.2.2.2.2.2.2.2.2.1, cell_on bx6 hHeld.2.2.2.2.2.2.2.2.2.1, cell_on bx6 hHeld.2.2.2.2.2.2.2.2.2.2.1, cell_on bx6 hHeld.2.2.2.2.2.2.2.2.2.2.2.1, cell_on bx6 hHeld.2.2.2.2.2.2.2.2.2.2.2.2.1, cell_on bx6 hHeld.2.2.2.2.2.2.2.2.2.2.2.2.2.1, cell_on bx6 hHeld.2.2.2.2.2.2.2.2.2.2.2.2.2.2.1, cell_on bx6 hHeld.2.2.2.2.2.2.2.2.2.2.2.2.2.2.2.1, also hHeld.2.2.2.2.2.2.2.2.2.2.2.2.2.2.2.2 bx6⟩ | exact ⟨cell_on bx5 hHeld.1, cell_on bx5 hHeld.2.1, cell_on bx5 hHeld.2.2.1, cell_on bx5 hHeld.2.2.2.1, cell_on bx5 hHeld.2.2.2.2.1, cell_on bx5 hHeld.2.2.2.2.2.1, cell_on bx5 hHeld.2.2.2.2.2.2.1, cell_on bx5 hHeld.2.2.2.2.2.2.2.1, cell_on bx5 hHeld.2.2.2.2.2.2.2.2.1, cell_on bx5 hHeld.2.2.2.2.2.2.2.2.2.1, cell_on bx5 hHeld.2.2.2.2.2.2.2.2.2.2.1, cell_on bx5 hHeld.2.2.2.2.2.2.2.2.2.2.2.1, cell_on bx5 hHeld.2.2.2.2.2.2.2.2.2.2.2.2.1, cell_on bx5 hHeld.2.2.2.2.2.2.2.2.2.2.2.2.2.1, cell_on bx5 hHeld.2.2.2.2.2.2.2.2.2.2.2.2.2.2.1, cell_on bx5 hHeld.2.2.2.2.2.2.2.2.2.2.2.2.2.2.2.1, also hHeld.2.2.2.2.2.2.2.2.2.2.2.2.2.2.2.2 bx5⟩ | exact ⟨cell_on bx4 hHeld.1, cell_on bx4 hHeld.2.1, cell_on bx4 hHeld.2.2.1, cell_on bx4 hHeld.2.2.2.1, cell_on bx4 hHeld.2.2.2.2.1, cell_on bx4 hHeld.2.2.2.2.2.1, cell_on bx4 hHeld.2.2.2.2.2.2.1, cell_on bx4 hHeld.2.2.2.2.2.2.2.1, cell_on bx4 hHeld.2.2.2.2.2.2.2.2.1, cell_on bx4 hHeld.2.2.2.2.2.2.2.2.2.1, cell_on bx4 hHeld.2.2.2.2.2.2.2.2.2.2.1, cell_on bx4 hHeld.2.2.2.2.2.2.2.2.2.2.2.1, cell_on bx4 hHeld.2.2.2.2.2.2.2.2.2.2.2.2.1, cell_on bx4 hHeld.2.2.2.2.2.2.2.2.2.2.2.2.2.1, cell_on bx4 hHeld.2.2.2.2.2.2.2.2.2.2.2.2.2.2.1, cell_on bx4 hHeld.2.2.2.2.2.2.2.2.2.2.2.2.2.2.2.1, also hHeld.2.2.2.2.2.2.2.2.2.2.2.2.2.2.2.2 bx4⟩ | exact ⟨cell_on bx3 hHeld.1, cell_on bx3 hHeld.2.1, cell_on bx3 hHeld.2.2.1, cell_on bx3 hHeld.2.2.2.1, cell_on bx3 hHeld.2.2.2.2.1, cell_on bx3 hHeld.2.2.2.2.2.1, cell_on bx3 hHeld.2.2.2.2.2.2.1, cell_on bx3 hHeld.2.2.2.2.2.2.2.1, cell_on bx3 hHeld.2.2.2.2.2.2.2.2.1, cell_on bx3 hHeld.2.2.2.2.2.2.2.2.2.1, cell_on bx3 hHeld.2.2.2.2.2.2.2.2.2.2.1, cell_on bx3 hHeld.2.2.2.2.2.2.2.2.2.2.2.1, cell_on bx3 hHeld.2.2.2.2.2.2.2.2.2.2.2.2.1, cell_on bx3 hHeld.2.2.2.2.2.2.2.2.2.2.2.2.2.1, cell_on bx3 hHeld.2.2.2.2.2.2.2.2.2.2.2.2.2.2.1, cell_on bx3 hHeld.2.2.2.2.2.2.2.2.2.2.2.2.2.2.2.1, also hHeld.2.2.2.2.2.2.2.2.2.2.2.2.2.2.2.2 bx3⟩ | exact ⟨cell_on bx2 hHeld.1, cell_on bx2 hHeld.2.1, cell_on bx2 hHeld.2.2.1, cell_on bx2 hHeld.2.2.2.1, cell_on bx2 hHeld.2.2.2.2.1, cell_on bx2 hHeld.2.2.2.2.2.1, cell_on bx2 hHeld.2.2.2.2.2.2.1, cell_on bx2 hHeld.2.2.2.2.2.2.2.1, cell_on bx2 hHeld.2.2.2.2.2.2.2.2.1, cell_on bx2 hHeld.2.2.2.2.2.2.2.2.2.1, cell_on bx2 hHeld.2.2.2.2.2.2.2.2.2.2.1, cell_on bx2 hHeld.2.2.2.2.2.2.2.2.2.2.2.1, cell_on bx2 hHeld.2.2.2.2.2.2.2.2.2.2.2.2.1, cell_on bx2 hHeld.2.2.2.2.2.2.2.2.2.2.2.2.2.1, cell_on bx2 hHeld.2.2.2.2.2.2.2.2.2.2.2.2.2.2.1, cell_on bx2 hHeld.2.2.2.2.2.2.2.2.2.2.2.2.2.2.2.1, also hHeld.2.2.2.2.2.2.2.2.2.2.2.2.2.2.2.2 bx2⟩ | exact ⟨cell_on bx1 hHeld.1, cell_on bx1 hHeld.2.1, cell_on bx1 hHeld.2.2.1, cell_on bx1 hHeld.2.2.2.1, cell_on bx1 hHeld.2.2.2.2.1, cell_on bx1 hHeld.2.2.2.2.2.1, cell_on bx1 hHeld.2.2.2.2.2.2.1, cell_on bx1 hHeld.2.2.2.2.2.2.2.1, cell_on bx1 hHeld.2.2.2.2.2.2.2.2.1, cell_on bx1 hHeld.2.2.2.2.2.2.2.2.2.1, cell_on bx1 hHeld.2.2.2.2.2.2.2.2.2.2.1, cell_on bx1 hHeld.2.2.2.2.2.2.2.2.2.2.2.1, cell_on bx1 hHeld.2.2.2.2.2.2.2.2.2.2.2.2.1, cell_on bx1 hHeld.2.2.2.2.2.2.2.2.2.2.2.2.2.1, cell_on bx1 hHeld.2.2.2.2.2.2.2.2.2.2.2.2.2.2.1, cell_on bx1 hHeld.2.2.2.2.2.2.2.2.2.2.2.2.2.2.2.1, also hHeld.2.2.2.2.2.2.2.2.2.2.2.2.2.2.2.2 bx1⟩
          clear hK Kc
          have zbx3 := bx3.size
          replace BB := also BB bx3
          replace x_t := x_t.on bx3
          replace x_d := x_d.on bx3
          replace x_s := x_s.on bx3
          replace x_ma := x_ma.on bx3
          replace x_mb := x_mb.on bx3
          replace x_mc := x_mc.on bx3
          replace x_md := x_md.on bx3
          refine take_call (i := 19) rfl (by kernel_rfl) (fun Kc hK => ?_)
          go_simp
          (go_at_call 11; refine (pDist a1 a2 d1 d2 _ Hx.out Hy.out).mono ?_; rintro e x4 ⟨rfl, bx4⟩)
          refine hK.out _ _ ?_ (fun hHeld => ?_)
          · first | exact ⟨x_t.c0, x_t.c1, x_t.c2, x_t.c3, x_t.c4, x_t.c5, x_d.c0, x_d.c1, x_ma.c0, x_ma.c1, x_mb.c0, x_mb.c1, x_mc.c0, x_mc.c1, x_md.c0, x_md.c1, BB⟩ | exact ⟨cell_on bx9 hHeld.1, cell_on bx9 hHeld.2.1, cell_on bx9 hHeld.2.2.1, cell_on bx9 hHeld.2.2.2.1, cell_on bx9 hHeld.2.2.2.2.1, cell_on bx9 hHeld.2.2.2.2.2.1, cell_on bx9 hHeld.2.2.2.2.2.2.1, cell_on bx9 hHeld.2.2.2.2.2.2.2.1, cell_on bx9 hHeld.2.2.2.2.2.2.2.2.1, cell_on bx9 hHeld.2.2.2.2.2.2.2.2.2.1, cell_on bx9 hHeld.2.2.2.2.2.2.2.2.2.2.1, cell_on bx9 hHeld.2.2.2.2.2.2.2.2.2.2.2.1, cell_on bx9 hHeld.2.2.2.2.2.2.2.2.2.2.2.2.1, cell_on bx9 hHeld.2.2.2.2.2.2.2.2.2.2.2.2.2.1, cell_on bx9 hHeld.2.2.2.2.2.2.2.2.2.2.2.2.2.2.1, cell_on bx9 hHeld.2.2.2.2.2.2.2.2.2.2.2.2.2.2.2.1, also hHeld.2.2.2.2.2.2.2.2.2.2.2.2.2.2.2.2 bx9⟩ | exact ⟨cell_on bx8 hHeld.1, cell_on bx8 hHeld.2.1, cell_on bx8 hHeld.2.2.1, cell_on bx8 hHeld.2.2.2.1, cell_on bx8 hHeld.2.2.2.2.1, cell_on bx8 hHeld.2.2.2.2.2.1, cell_on bx8 hHeld.2.2.2.2.2.2.1, cell_on bx8 hHeld.2.2.2.2.2.2.2.1, cell_on bx8 hHeld.2.2.2.2.2.2.2.2.1, cell_on bx8 hHeld.2.2.2.2.2.2.2.2.2.1, cell_on bx8 hHeld.2.2.2.2.2.2.2.2.2.2.1, cell_on bx8 hHeld.2.2.2.2.2.2.2.2.2.2.2.1, cell_on bx8 hHeld.2.2.2.2.2.2.2.2.2.2.2.2.1, cell_on bx8 hHeld.2.2.2.2.2.2.2.2.2.2.2.2.2.1, cell_on bx8 hHeld.2.2.2.2.2.2.2.2.2.2.2.2.2.2.1, cell_on bx8 hHeld.2.2.2.2.2.2.2.2.2.2.2.2.2.2.2.1, also hHeld.2.2.2.2.2.2.2.2.2.2.2.2.2.2.2.2 bx8⟩ | exact ⟨cell_on bx7 hHeld.1, cell_on bx7 hHeld.2.1, cell_on bx7 hHeld.2.2.1, cell_on bx7 hHeld.2.2.2.1, cell_on bx7 hHeld.2.2.2.2.1, cell_on bx7 hHeld.2.2.2.2.2.1, cell_on bx7 hHeld.2.2.2.2.2.2.1, cell_on bx7 hHeld.2.2.2.2.2.2.2.1, cell_on bx7 hHeld.2.2.2.2.2.2.2.2.1, cell_on bx7 hHeld.2.2.2.2.2.2.2.2.2.1, cell_on bx7 hHeld.2.2.2.2.2.2.2.2.2.2.1, cell_on bx7 hHeld.2.2.2.2.2.2.2.2.2.2.2.1, cell_on bx7 hHeld.2.2.2.2.2.2.2.2.2.2.2.2.1, cell_on bx7 hHeld.2.2.2.2.2.2.2.2.2.2.2.2.2.1, cell_on bx7 hHeld.2.2.2.2.2.2.2.2.2.2.2.2.2.2.1, cell_on bx7 hHeld.2.2.2.2.2.2.2.2.2.2.2.2.2.2.2.1, also hHeld.2.2.2.2.2.2.2.2.2.2.2.2.2.2.2.2 bx7⟩ | exact ⟨cell_on bx6 hHeld.1, cell_on bx6 hHeld.2.1, cell_on bx6 hHeld.2.2.1, cell_on bx6 hHeld.2.2.2.1, cell_on bx6 hHeld.2.2.2.2.1, cell_on bx6 hHeld.2.2.2.2.2.1, cell_on bx6 hHeld.2.2.2.2.2.2.1, cell_on bx6 hHeld.2.2.2.2.2.2.2.1, cell_on bx6 hHeld.2.2.2.2.2.2.2.2.1, cell_on bx6 hHeld.2.2.2.2.2.2.2.2.2.1, cell_on bx6 hHeld.2.2.2.2.2.2.2.2.2.2.1, cell_on bx6 hHeld.2.2.2.2.2.2.2.2.2.2.2.1, cell_on bx6 hHeld.2.2.2.2.2.2.2.2.2.2.2.2.1, cell_on bx6 hHeld.2.2.2.2.2.2.2.2.2.2.2.2.2.1, cell_on bx6 hHeld.2.2.2.2.2.2.2.2.2.2.2.2.2.2.1, cell_on bx6 hHeld.2.2.2.2.2.2.2.2.2.2.2.2.2.2.2.1, also hHeld.2.2.2.2.2.2.2.2.2.2.2.2.2.2.2.2 bx6⟩ | exact ⟨cell_on bx5 hHeld.1, cell_on bx5 hHeld.2.1, cell_on bx5 hHeld.2.2.1, cell_on bx5 hHeld.2.2.2.1, cell_on bx5 hHeld.2.2.2.2.1, cell_on bx5 hHeld.2.2.2.2.2.1, cell_on bx5 hHeld.2.2.2.2.2.2.1, cell_on bx5 hHeld.2.2.2.2.2.2.2.1, cell_on bx5 hHeld.2.2.2.2.2.2.2.2.1, cell_on bx5 hHeld.2.2.2.2.2.2.2.2.2.1, cell_on bx5 hHeld.2.2.2.2.2.2.2.2.2.2.1, cell_on bx5 hHeld.2.2.2.2.2.2.2.2.2.2.2.1, cell_on bx5 hHeld.2.2.2.2.2.2.2.2.2.2.2.2.1, cell_on bx5 hHeld.2.2.2.2.2.2.2.2.2.2.2.2.2.1, cell_on bx5 hHeld.2.2.2.2.2.2.2.2.2.2.2.2.2.2.1, cell_on bx5 hHeld.2.2.2.2.2.2.2.2.2.2.2.2.2.2.2.1, also hHeld.2.2.2.2.2.2.2.2.2.2.2.2.2.2.2.2 bx5⟩ | exact ⟨cell_on bx4 hHeld.1, cell_on bx4 hHeld.2.1, cell_on bx4 hHeld.2.2.1, cell_on bx4 hHeld.2.2.2.1, cell_on bx4 hHeld.2.2.2.2.1, cell_on bx4 hHeld.2.2.2.2.2.1, cell_on bx4 hHeld.2.2.2.2.2.2.1, cell_on bx4 hHeld.2.2.2.2.2.2.2.1, cell_on bx4 hHeld.2.2.2.2.2.2.2.2.1, cell_on bx4 hHeld.2.2.2.2.2.2.2.2.2.1, cell_on bx4 hHeld.2.2.2.2.2.2.2.2.2.2.1, cell_on bx4 hHeld.2.2.2.2.2.2.2.2.2.2.2.1, cell_on bx4 hHeld.2.2.2.2.2.2.2.2.2.2.2.2.1, cell_on bx4 hHeld.2.2.2.2.2.2.2.2.2.2.2.2.2.1, cell_on bx4 hHeld.2.2.2.2.2.2.2.2.2.2.2.2.2.2.1, cell_on bx4 hHeld.2.2.2.2.2.2.2.2.2.2.2.2.2.2.2.1, also hHeld.2.2.2.2.2.2.2.2.2.2.2.2.2.2.2.2 bx4⟩ | exact ⟨cell_on bx3 hHeld.1, cell_on bx3 hHeld.2.1, cell_on bx3 hHeld.2.2.1, cell_on bx3 hHeld.2.2.2.1, cell_on bx3 hHeld.2.2.2.2.1, cell_on bx3 hHeld.2.2.2.2.2.1, cell_on bx3 hHeld.2.2.2.2.2.2.1, cell_on bx3 hHeld.2.2.2.2.2.2.2.1, cell_on bx3 hHeld.2.2.2.2.2.2.2.2.1, cell_on bx3 hHeld.2.2.2.2.2.2.2.2.2.1, cell_on bx3 hHeld.2.2.2.2.2.2.2.2.2.2.1, cell_on bx3 hHeld.2.2.2.2.2.2.2.2.2.2.2.1, cell_on bx3 hHeld.2.2.2.2.2.2.2.2.2.2.2.2.1, cell_on bx3 hHeld.2.2.2.2.2.2.2.2.2.2.2.2.2.1, cell_on bx3 hHeld.2.2.2.2.2.2.2.2.2.2.2.2.2.2.1, cell_on bx3 hHeld.2.2.2.2.2.2.2.2.2.2.2.2.2.2.2.1, also hHeld.2.2.2.2.2.2.2.2.2.2.2.2.2.2.2.2 bx3⟩ | exact ⟨cell_on bx2 hHeld.1, cell_on bx2 hHeld.2.1, cell_on bx2 hHeld.2.2.1, cell_on bx2 hHeld.2.2.2.1, cell_on bx2 hHeld.2.2.2.2.1, cell_on bx2 hHeld.2.2.2.2.2.1, cell_on bx2 hHeld.2.2.2.2.2.2.1, cell_on bx2 hHeld.2.2.2.2.2.2.2.1, cell_on bx2 hHeld.2.2.2.2.2.2.2.2.1, cell_on bx2 hHeld.2.2.2.2.2.2.2.2.2.1, cell_on bx2 hHeld.2.2.2.2.2.2.2.2.2.2.1, cell_on bx2 hHeld.2.2.2.2.2.2.2.2.2.2.2.1, cell_on bx2 hHeld.2.2.2.2.2.2.2.2.2.2.2.2.1, cell_on bx2 hHeld.2.2.2.2.2.2.2.2.2.2.2.2.2.1, cell_on bx2 hHeld.2.2.2.2.2.2.2.2.2.2.2.2.2.2.1, cell_on bx2 hHeld.2.2.2.2.2.2.2.2.2.2.2.2.2.2.2.1, also hHeld.2.2.2.2.2.2.2.2.2.2.2.2.2.2.2.2 bx2⟩ | exact ⟨cell_on bx1 hHeld.1, cell_on bx1 hHeld.2.1, cell_on bx1 hHeld.2.2.1, cell_on bx1 hHeld.2.2.2.1, cell_on bx1 hHeld.2.2.2.2.1, cell_on bx1 hHeld.2.2.2.2.2.1, cell_on bx1 hHeld.2.2.2.2.2.2.1, cell_on bx1 hHeld.2.2.2.2.2.2.2.1, cell_on bx1 hHeld.2.2.2.2.2.2.2.2.1, cell_on bx1 hHeld.2.2.2.2.2.2.2.2.2.1, cell_on bx1 hHeld.2.2.2.2.2.2.2.2.2.2.1, cell_on bx1 hHeld.2.2.2.2.2.2.2.2.2.2.2.1, cell_on bx1 hHeld.2.2.2.2.2.2.2.2.2.2.2.2.1, cell_on bx1 hHeld.2.2.2.2.2.2.2.2.2.2.2.2.2.1, cell_on bx1 hHeld.2.2.2.2.2.2.2.2.2.2.2.2.2.2.1, cell_on bx1 hHeld.2.2.2.2.2.2.2.2.2.2.2.2.2.2.2.1, also hHeld.2.2.2.2.2.2.2.2.2.2.2.2.2.2.2.2 bx1⟩
          clear hK Kc
          have zbx4 := bx4.size
          replace BB := also BB bx4
          replace x_t := x_t.on bx4
          replace x_d := x_d.on bx4
          replace x_s := x_s.on bx4
          replace x_ma := x_ma.on bx4
          replace x_mb := x_mb.on bx4
          replace x_mc := x_mc.on bx4
          replace x_md := x_md.on bx4
          refine take_yes (i := 20) (v := ?vs20) rfl (by kernel_rfl) (by kernel_rfl) (by kernel_rfl) (fun _ _ _ h => h) (by rfl) (by assumption) ?hys20 ?rests20
          case hys20 => (intro w hSw; (try dsimp only at hSw); first | (go_simp; done) | (go_simp; with_reducible rfl))
          simp only [Act.put, List.setIfInBounds_toArray, List.set_cons_zero, List.set_cons_succ]
          refine take_yes (i := 21) (v := ?vs21) rfl (by kernel_rfl) (by kernel_rfl) (by kernel_rfl) (fun _ _ _ h => h) (by rfl) (by assumption) ?hys21 ?rests21
          case hys21 => (intro w hSw; (try dsimp only at hSw); first | (go_simp; done) | (go_simp; with_reducible rfl))
          simp only [Act.put, List.setIfInBounds_toArray, List.set_cons_zero, List.set_cons_succ]
          refine take_yes (i := 22) (v := ?vs22) rfl (by kernel_rfl) (by kernel_rfl) (by kernel_rfl) (fun _ _ _ h => h) (by rfl) (by assumption) ?hys22 ?rests22
          case hys22 => (intro w hSw; (try dsimp only at hSw); first | (go_simp; done) | (go_simp; with_reducible rfl))
          simp only [Act.put, List.setIfInBounds_toArray, List.set_cons_zero, List.set_cons_succ]
          refine take_yes (i := 23) (v := ?vs23) rfl (by kernel_rfl) (by kernel_rfl) (by kernel_rfl) (fun _ _ _ h => h) (by rfl) (by assumption) ?hys23 ?rests23
          case hys23 => (intro w hSw; (try dsimp only at hSw); first | (go_simp; done) | (go_simp; with_reducible rfl))
          simp only [Act.put, List.setIfInBounds_toArray, List.set_cons_zero, List.set_cons_succ]
          refine take_yes (i := 24) (v := ?vs24) rfl (by kernel_rfl) (by kernel_rfl) (by kernel_rfl) (fun _ _ _ h => h) (by rfl) (by assumption) ?hys24 ?rests24
          case hys24 => (intro w hSw; (try dsimp only at hSw); first | (go_simp; done) | (go_simp; with_reducible rfl))
          simp only [Act.put, List.setIfInBounds_toArray, List.set_cons_zero, List.set_cons_succ]
          refine take_yes (i := 25) (v := ?vs25) rfl (by kernel_rfl) (by kernel_rfl) (by kernel_rfl) (fun _ _ _ h => h) (by rfl) (by assumption) ?hys25 ?rests25
          case hys25 => (intro w hSw; (try dsimp only at hSw); first | (go_simp; done) | (go_simp; with_reducible rfl))
          simp only [Act.put, List.setIfInBounds_toArray, List.set_cons_zero, List.set_cons_succ]
          refine take_yes (i := 26) (v := ?vs26) rfl (by kernel_rfl) (by kernel_rfl) (by kernel_rfl) (fun _ _ _ h => h) (by rfl) (by assumption) ?hys26 ?rests26
          case hys26 => (intro w hSw; (try dsimp only at hSw); first | (go_simp; done) | (go_simp; with_reducible rfl))
          simp only [Act.put, List.setIfInBounds_toArray, List.set_cons_zero, List.set_cons_succ]
          refine take_yes (i := 28) (v := ?vs28) rfl (by kernel_rfl) (by kernel_rfl) (by kernel_rfl) (fun _ _ _ h => h) (by rfl) (by assumption) ?hys28 ?rests28
          case hys28 => (intro w hSw; (try dsimp only at hSw); first | (go_simp; done) | (go_simp; with_reducible rfl))
          simp only [Act.put, List.setIfInBounds_toArray, List.set_cons_zero, List.set_cons_succ]
          refine take_yes (i := 29) (v := ?vs29) rfl (by kernel_rfl) (by kernel_rfl) (by kernel_rfl) (fun _ _ _ h => h) (by rfl) (by assumption) ?hys29 ?rests29
          case hys29 => (intro w hSw; (try dsimp only at hSw); first | (go_simp; done) | (go_simp; with_reducible rfl))
          simp only [Act.put, List.setIfInBounds_toArray, List.set_cons_zero, List.set_cons_succ]
          refine take_yes (i := 30) (v := ?vs30) rfl (by kernel_rfl) (by kernel_rfl) (by kernel_rfl) (fun _ _ _ h => h) (by rfl) (by assumption) ?hys30 ?rests30
          case hys30 => (intro w hSw; (try dsimp only at hSw); first | (go_simp; done) | (go_simp; with_reducible rfl))
          simp only [Act.put, List.setIfInBounds_toArray, List.set_cons_zero, List.set_cons_succ]
          refine take_yes (i := 31) (v := ?vs31) rfl (by kernel_rfl) (by kernel_rfl) (by kernel_rfl) (fun _ _ _ h => h) (by rfl) (by assumption) ?hys31 ?rests31
          case hys31 => (intro w hSw; (try dsimp only at hSw); first | (go_simp; done) | (go_simp; with_reducible rfl))
          simp only [Act.put, List.setIfInBounds_toArray, List.set_cons_zero, List.set_cons_succ]
          refine take_yes (i := 32) (v := ?vs32) rfl (by kernel_rfl) (by kernel_rfl) (by kernel_rfl) (fun _ _ _ h => h) (by rfl) (by assumption) ?hys32 ?rests32
          case hys32 => (intro w hSw; (try dsimp only at hSw); first | (go_simp; done) | (go_simp; with_reducible rfl))
          simp only [Act.put, List.setIfInBounds_toArray, List.set_cons_zero, List.set_cons_succ]
          refine take_yes (i := 33) (v := ?vs33) rfl (by kernel_rfl) (by kernel_rfl) (by kernel_rfl) (fun _ _ _ h => h) (by rfl) (by assumption) ?hys33 ?rests33
          case hys33 => (intro w hSw; (try dsimp only at hSw); first | (go_simp; done) | (go_simp; with_reducible rfl))
          simp only [Act.put, List.setIfInBounds_toArray, List.set_cons_zero, List.set_cons_succ]
          refine take_yes (i := 34) (v := ?vs34) rfl (by kernel_rfl) (by kernel_rfl) (by kernel_rfl) (fun _ _ _ h => h) (by rfl) (by assumption) ?hys34 ?rests34
          case hys34 => (intro w hSw; (try dsimp only at hSw); first | (go_simp; done) | (go_simp; with_reducible rfl))
          simp only [Act.put, List.setIfInBounds_toArray, List.set_cons_zero, List.set_cons_succ]
          refine take_call (i := 27) rfl (by kernel_rfl) (fun Kc hK => ?_)
          go_simp
          (go_at_call 18; refine (pCircle u0 v0 u1 v1 u2 v2 u3 v3 _ Em.out).mono ?_; rintro e x5 ⟨rfl, bx5⟩)
          refine hK.out _ _ ?_ (fun hHeld => ?_)
          · first | exact ⟨x_t.c0, x_t.c1, x_t.c2, x_t.c3, x_t.c4, x_t.c5, x_d.c0, x_d.c1, x_ma.c0, x_ma.c1, x_mb.c0, x_mb.c1, x_mc.c0, x_mc.c1, x_md.c0, x_md.c1, BB⟩ | exact ⟨cell_on bx9 hHeld.1, cell_on bx9 hHeld.2.1, cell_on bx9 hHeld.2.2.1, cell_on bx9 hHeld.2.2.2.1, cell_on bx9 hHeld.2.2.2.2.1, cell_on bx9 hHeld.2.2.2.2.2.1, cell_on bx9 hHeld.2.2.2.2.2.2.1, cell_on bx9 hHeld.2.2.2.2.2.2.2.1, cell_on bx9 hHeld.2.2.2.2.2.2.2.2.1, cell_on bx9 hHeld.2.2.2.2.2.2.2.2.2.1, cell_on bx9 hHeld.2.2.2.2.2.2.2.2.2.2.1, cell_on bx9 hHeld.2.2.2.2.2.2.2.2.2.2.2.1, cell_on bx9 hHeld.2.2.2.2.2.2.2.2.2.2.2.2.1, cell_on bx9 hHeld.2.2.2.2.2.2.2.2.2.2.2.2.2.1, cell_on bx9 hHeld.2.2.2.2.2.2.2.2.2.2.2.2.2.2.1, cell_on bx9 hHeld.2.2.2.2.2.2.2.2.2.2.2.2.2.2.2.1, also hHeld.2.2.2.2.2.2.2.2.2.2.2.2.2.2.2.2 bx9⟩ | exact ⟨cell_on bx8 hHeld.1, cell_on bx8 hHeld.2.1, cell_on bx8 hHeld.2.2.1, cell_on bx8 hHeld.2.2.2.1, cell_on bx8 hHeld.2.2.2.2.1, cell_on bx8 hHeld.2.2.2.2.2.1, cell_on bx8 hHeld.2.2.2.2.2.2.1, cell_on bx8 hHeld.2.2.2.2.2.2.2.1, cell_on bx8 hHeld.2.2.2.2.2.2.2.2.1, cell_on bx8 hHeld.2.2.2.2.2.2.2.2.2.1, cell_on bx8 hHeld.2.2.2.2.2.2.2.2.2.2.1, cell_on bx8 hHeld.2.2.2.2.2.2.2.2.2.2.2.1, cell_on bx8 hHeld.2.2.2.2.2.2.2.2.2.2.2.2.1, cell_on bx8 hHeld.2.2.2.2.2.2.2.2.2.2.2.2.2.1, cell_on bx8 hHeld.2.2.2.2.2.2.2.2.2.2.2.2.2.2.1, cell_on bx8 hHeld.2.2.2.2.2.2.2.2.2.2.2.2.2.2.2.1, also hHeld.2.2.2.2.2.2.2.2.2.2.2.2.2.2.2.2 bx8⟩ | exact ⟨cell_on bx7 hHeld.1, cell_on bx7 hHeld.2.1, cell_on bx7 hHeld.2.2.1, cell_on bx7 hHeld.2.2.2.1, cell_on bx7 hHeld.2.2.2.2.1, cell_on bx7 hHeld.2.2.2.2.2.1, cell_on bx7 hHeld.2.2.2.2.2.2.1, cell_on bx7 hHeld.2.2.2.2.2.2.2.1, cell_on bx7 hHeld.2.2.2.2.2.2.2.2.1, cell_on bx7 hHeld.2.2.2.2.2.2.2.2.2.1, cell_on bx7 hHeld.2.2.2.2.2.2.2.2.2.2.1, cell_on bx7 hHeld.2.2.2.2.2.2.2.2.2.2.2.1, cell_on bx7 hHeld.2.2.2.2.2.2.2.2.2.2.2.2.1, cell_on bx7 hHeld.2.2.2.2.2.2.2.2.2.2.2.2.2.1, cell_on bx7 hHeld.2.2.2.2.2.2.2.2.2.2.2.2.2.2.1, cell_on bx7 hHeld.2.2.2.2.2.2.2.2.2.2.2.2.2.2.2.1, also hHeld.2.2.2.2.2.2.2.2.2.2.2.2.2.2.2.2 bx7⟩ | exact ⟨cell_on bx6 hHeld.1, cell_on bx6 hHeld.2.1, cell_on bx6 hHeld.2.2.1, cell_on bx6 hHeld.2.2.2.1, cell_on bx6 hHeld.2.2.2.2.1, cell_on bx6 hHeld.2.2.2.2.2.1, cell_on bx6 hHeld.2.2.2.2.2.2.1, cell_on bx6 hHeld.2.2.2.2.2.2.2.1, cell_on bx6 hHeld.2.2.2.2.2.2.2.2.1, cell_on bx6 hHeld.2.2.2.2.2.2.2.2.2.1, cell_on bx6 hHeld.2.2.2.2.2.2.2.2.2.2.1, cell_on bx6 hHeld.2.2.2.2.2.2.2.2.2.2.2.1, cell_on bx6 hHeld.2.2.2.2.2.2.2.2.2.2.2.2.1, cell_on bx6 hHeld.2.2.2.2.2.2.2.2.2.2.2.2.2.1, cell_on bx6 hHeld.2.2.2.2.2.2.2.2.2.2.2.2.2.2.1, cell_on bx6 hHeld.2.2.2.2.2.2.2.2.2.2.2.2.2.2.2.1, also hHeld.2.2.2.2.2.2.2.2.2.2.2.2.2.2.2.2 bx6⟩ | exact ⟨cell_on bx5 hHeld.1, cell_on bx5 hHeld.2.1, cell_on bx5 hHeld.2.2.1, cell_on bx5 hHeld.2.2.2.1, cell_on bx5 hHeld.2.2.2.2.1, cell_on bx5 hHeld.2.2.2.2.2.1, cell_on bx5 hHeld.2.2.2.2.2.2.1, cell_on bx5 hHeld.2.2.2.2.2.2.2.1, cell_on bx5 hHeld.2.2.2.2.2.2.2.2.1, cell_on bx5 hHeld.2.2.2.2.2.2.2.2.2.1, cell_on bx5 hHeld.2.2.2.2.2.2.2.2.2.2.1, cell_on bx5 hHeld.2.2.2.2.2.2.2.2.2.2.2.1, cell_on bx5 hHeld.2.2.2.2.2.2.2.2.2.2.2.2.1, cell_on bx5 hHeld.2.2.2.2.2.2.2.2.2.2.2.2.2.1, cell_on bx5 hHeld.2.2.2.2.2.2.2.2.2.2.2.2.2.2.1, cell_on bx5 hHeld.2.2.2.2.2.2.2.2.2.2.2.2.2.2.2.1, also hHeld.2.2.2.2.2.2.2.2.2.2.2.2.2.2.2.2 bx5⟩ | exact ⟨cell_on bx4 hHeld.1, cell_on bx4 hHeld.2.1, cell_on bx4 hHeld.2.2.1, cell_on bx4 hHeld.2.2.2.1, cell_on bx4 hHeld.2.2.2.2.1, cell_on bx4 hHeld.2.2.2.2.2.1, cell_on bx4 hHeld.2.2.2.2.2.2.1, cell_on bx4 hHeld.2.2.2.2.2.2.2.1, cell_on bx4 hHeld.2.2.2.2.2.2.2.2.1, cell_on bx4 hHeld.2.2.2.2.2.2.2.2.2.1, cell_on bx4 hHeld.2.2.2.2.2.2.2.2.2.2.1, cell_on bx4 hHeld.2.2.2.2.2.2.2.2.2.2.2.1, cell_on bx4 hHeld.2.2.2.2.2.2.2.2.2.2.2.2.1, cell_on bx4 hHeld.2.2.2.2.2.2.2.2.2.2.2.2.2.1, cell_on bx4 hHeld.2.2.2.2.2.2.2.2.2.2.2.2.2.2.1, cell_on bx4 hHeld.2.2.2.2.2.2.2.2.2.2.2.2.2.2.2.1, also hHeld.2.2.2.2.2.2.2.2.2.2.2.2.2.2.2.2 bx4⟩ | exact ⟨cell_on bx3 hHeld.1, cell_on bx3 hHeld.2.1, cell_on bx3 hHeld.2.2.1, cell_on bx3 hHeld.2.2.2.1, cell_on bx3 hHeld.2.2.2.2.1, cell_on bx3 hHeld.2.2.2.2.2.1, cell_on bx3 hHeld.2.2.2.2.2.2.1, cell_on bx3 hHeld.2.2.2.2.2.2.2.1, cell_on bx3 hHeld.2.2.2.2.2.2.2.2.1, cell_on bx3 hHeld.2.2.2.2.2.2.2.2.2.1, cell_on bx3 hHeld.2.2.2.2.2.2.2.2.2.2.1, cell_on bx3 hHeld.2.2.2.2.2.2.2.2.2.2.2.1, cell_on bx3 hHeld.2.2.2.2.2.2.2.2.2.2.2.2.1, cell_on bx3 hHeld.2.2.2.2.2.2.2.2.2.2.2.2.2.1, cell_on bx3 hHeld.2.2.2.2.2.2.2.2.2.2.2.2.2.2.1, cell_on bx3 hHeld.2.2.2.2.2.2.2.2.2.2.2.2.2.2.2.1, also hHeld.2.2.2.2.2.2.2.2.2.2.2.2.2.2.2.2 bx3⟩ | exact ⟨cell_on bx2 hHeld.1, cell_on bx2 hHeld.2.1, cell_on bx2 hHeld.2.2.1, cell_on bx2 hHeld.2.2.2.1, cell_on bx2 hHeld.2.2.2.2.1, cell_on bx2 hHeld.2.2.2.2.2.1, cell_on bx2 hHeld.2.2.2.2.2.2.1, cell_on bx2 hHeld.2.2.2.2.2.2.2.1, cell_on bx2 hHeld.2.2.2.2.2.2.2.2.1, cell_on bx2 hHeld.2.2.2.2.2.2.2.2.2.1, cell_on bx2 hHeld.2.2.2.2.2.2.2.2.2.2.1, cell_on bx2 hHeld.2.2.2.2.2.2.2.2.2.2.2.1, cell_on bx2 hHeld.2.2.2.2.2.2.2.2.2.2.2.2.1, cell_on bx2 hHeld.2.2.2.2.2.2.2.2.2.2.2.2.2.1, cell_on bx2 hHeld.2.2.2.2.2.2.2.2.2.2.2.2.2.2.1, cell_on bx2 hHeld.2.2.2.2.2.2.2.2.2.2.2.2.2.2.2.1, also hHeld.2.2.2.2.2.2.2.2.2.2.2.2.2.2.2.2 bx2⟩ | exact ⟨cell_on bx1 hHeld.1, cell_on bx1 hHeld.2.1, cell_on bx1 hHeld.2.2.1, cell_on bx1 hHeld.2.2.2.1, cell_on bx1 hHeld.2.2.2.2.1, cell_on bx1 hHeld.2.2.2.2.2.1, cell_on bx1 hHeld.2.2.2.2.2.2.1, cell_on bx1 hHeld.2.2.2.2.2.2.2.1, cell_on bx1 hHeld.2.2.2.2.2.2.2.2.1, cell_on bx1 hHeld.2.2.2.2.2.2.2.2.2.1, cell_on bx1 hHeld.2.2.2.2.2.2.2.2.2.2.1, cell_on bx1 hHeld.2.2.2.2.2.2.2.2.2.2.2.1, cell_on bx1 hHeld.2.2.2.2.2.2.2.2.2.2.2.2.1, cell_on bx1 hHeld.2.2.2.2.2.2.2.2.2.2.2.2.2.1, cell_on bx1 hHeld.2.2.2.2.2.2.2.2.2.2.2.2.2.2.1, cell_on bx1 hHeld.2.2.2.2.2.2.2.2.2.2.2.2.2.2.2.1, also hHeld.2.2.2.2.2.2.2.2.2.2.2.2.2.2.2.2 bx1⟩
          clear hK Kc
          have zbx5 := bx5.size
          replace BB := also BB bx5
          replace x_t := x_t.on bx5
          replace x_d := x_d.on bx5
          replace x_s := x_s.on bx5
          replace x_ma := x_ma.on bx5
          replace x_mb := x_mb.on bx5
          replace x_mc := x_mc.on bx5
          replace x_md := x_md.on bx5
          refine take_call (i := 35) rfl (by kernel_rfl) (fun Kc hK => ?_)
          go_simp
          (go_at_call 18; refine (pCircle a1 a2 b1 b2 c1 c2 d1 d2 _ Hm.out).mono ?_; rintro e x6 ⟨rfl, bx6⟩)
          refine hK.out _ _ ?_ (fun hHeld => ?_)
          · first | exact ⟨x_t.c0, x_t.c1, x_t.c2, x_t.c3, x_t.c4, x_t.c5, x_d.c0, x_d.c1, x_ma.c0, x_ma.c1, x_mb.c0, x_mb.c1, x_mc.c0, x_mc.c1, x_md.c0, x_md.c1, BB⟩ | exact ⟨cell_on bx9 hHeld.1, cell_on bx9 hHeld.2.1, cell_on bx9 hHeld.2.2.1, cell_on bx9 hHeld.2.2.2.1, cell_on bx9 hHeld.2.2.2.2.1, cell_on bx9 hHeld.2.2.2.2.2.1, cell_on bx9 hHeld.2.2.2.2.2.2.1, cell_on bx9 hHeld.2.2.2.2.2.2.2.1, cell_on bx9 hHeld.2.2.2.2.2.2.2.2.1, cell_on bx9 hHeld.2.2.2.2.2.2.2.2.2.1, cell_on bx9 hHeld.2.2.2.2.2.2.2.2.2.2.1, cell_on bx9 hHeld.2.2.2.2.2.2.2.2.2.2.2.1, cell_on bx9 hHeld.2.2.2.2.2.2.2.2.2.2.2.2.1, cell_on bx9 hHeld.2.2.2.2.2.2.2.2.2.2.2.2.2.1, cell_on bx9 hHeld.2.2.2.2.2.2.2.2.2.2.2.2.2.2.1, cell_on bx9 hHeld.2.2.2.2.2.2.2.2.2.2.2.2.2.2.2.1, also hHeld.2.2.2.2.2.2.2.2.2.2.2.2.2.2.2.2 bx9⟩ | exact ⟨cell_on bx8 hHeld.1, cell_on bx8 hHeld.2.1, cell_on bx8 hHeld.2.2.1, cell_on bx8 hHeld.2.2.2.1, cell_on bx8 hHeld.2.2.2.2.1, cell_on bx8 hHeld.2.2.2.2.2.1, cell_on bx8 hHeld.2.2.2.2.2.2.1, cell_on bx8 hHeld.2.2.2.2.2.2.2.1, cell_on bx8 hHeld.2.2.2.2.2.2.2.2.1, cell_on bx8 hHeld.2.2.2.2.2.2.2.2.2.1, cell_on bx8 hHeld.2.2.2.2.2.2.2.2.2.2.1, cell_on bx8 hHeld.2.2.2.2.2.2.2.2.2.2.2.1, cell_on bx8 hHeld.2.2.2.2.2.2.2.2.2.2.2.2.1, cell_on bx8 hHeld.2.2.2.2.2.2.2.2.2.2.2.2.2.1, cell_on bx8 hHeld.2.2.2.2.2.2.2.2.2.2.2.2.2.2.1, cell_on bx8 hHeld.2.2.2.2.2.2.2.2.2.2.2.2.2.2.2.1, also hHeld.2.2.2.2.2.2.2.2.2.2.2.2.2.2.2.2 bx8⟩ | exact ⟨cell_on bx7 hHeld.1, cell_on bx7 hHeld.2.1, cell_on bx7 hHeld.2.2.1, cell_on bx7 hHeld.2.2.2.1, cell_on bx7 hHeld.2.2.2.2.1, cell_on bx7 hHeld.2.2.2.2.2.1, cell_on bx7 hHeld.2.2.2.2.2.2.1, cell_on bx7 hHeld.2.2.2.2.2.2.2.1, cell_on bx7 hHeld.2.2.2.2.2.2.2.2.1, cell_on bx7 hHeld.2.2.2.2.2.2.2.2.2.1, cell_on bx7 hHeld.2.2.2.2.2.2.2.2.2.2.1, cell_on bx7 hHeld.2.2.2.2.2.2.2.2.2.2.2.1, cell_on bx7 hHeld.2.2.2.2.2.2.2.2.2.2.2.2.1, cell_on bx7 hHeld.2.2.2.2.2.2.2.2.2.2.2.2.2.1, cell_on bx7 hHeld.2.2.2.2.2.2.2.2.2.2.2.2.2.2.1, cell_on bx7 hHeld.2.2.2.2.2.2.2.2.2.2.2.2.2.2.2.1, also hHeld.2.2.2.2.2.2.2.2.2.2.2.2.2.2.2.2 bx7⟩ | exact ⟨cell_on bx6 hHeld.1, cell_on bx6 hHeld.2.1, cell_on bx6 hHeld.2.2.1, cell_on bx6 hHeld.2.2.2.1, cell_on bx6 hHeld.2.2.2.2.1, cell_on bx6 hHeld.2.2.2.2.2.1, cell_on bx6 hHeld.2.2.2.2.2.2.1, cell_on bx6 hHeld.2.2.2.2.2.2.2.1, cell_on bx6 hHeld.2.2.2.2.2.2.2.2.1, cell_on bx6 hHeld.2.2.2.2.2.2.2.2.2.1, cell_on bx6 hHeld.2.2.2.2.2.2.2.2.2.2.1, cell_on bx6 hHeld.2.2.2.2.2.2.2.2.2.2.2.1, cell_on bx6 hHeld.2.2.2.2.2.2.2.2.2.2.2.2.1, cell_on bx6 hHeld.2.2.2.2.2.2.2.2.2.2.2.2.2.1, cell_on bx6 hHeld.2.2.2.2.2.2.2.2.2.2.2.2.2.2.1, cell_on bx6 hHeld.2.2.2.2.2.2.2.2.2.2.2.2.2.2.2.1, also hHeld.2.2.2.2.2.2.2.2.2.2.2.2.2.2.2.2 bx6⟩ | exact ⟨cell_on bx5 hHeld.1, cell_on bx5 hHeld.2.1, cell_on bx5 hHeld.2.2.1, cell_on bx5 hHeld.2.2.2.1, cell_on bx5 hHeld.2.2.2.2.1, cell_on bx5 hHeld.2.2.2.2.2.1, cell_on bx5 hHeld.2.2.2.2.2.2.1, cell_on bx5 hHeld.2.2.2.2.2.2.2.1, cell_on bx5 hHeld.2.2.2.2.2.2.2.2.1, cell_on bx5 hHeld.2.2.2.2.2.2.2.2.2.1, cell_on bx5 hHeld.2.2.2.2.2.2.2.2.2.2.1, cell_on bx5 hHeld.2.2.2.2.2.2.2.2.2.2.2.1, cell_on bx5 hHeld.2.2.2.2.2.2.2.2.2.2.2.2.1, cell_on bx5 hHeld.2.2.2.2.2.2.2.2.2.2.2.2.2.1, cell_on bx5 hHeld.2.2.2.2.2.2.2.2.2.2.2.2.2.2.1, cell_on bx5 hHeld.2.2.2.2.2.2.2.2.2.2.2.2.2.2.2.1, also hHeld.2.2.2.2.2.2.2.2.2.2.2.2.2.2.2.2 bx5⟩ | exact ⟨cell_on bx4 hHeld.1, cell_on bx4 hHeld.2.1, cell_on bx4 hHeld.2.2.1, cell_on bx4 hHeld.2.2.2.1, cell_on bx4 hHeld.2.2.2.2.1, cell_on bx4 hHeld.2.2.2.2.2.1, cell_on bx4 hHeld.2.2.2.2.2.2.1, cell_on bx4 hHeld.2.2.2.2.2.2.2.1, cell_on bx4 hHeld.2.2.2.2.2.2.2.2.1, cell_on bx4 hHeld.2.2.2.2.2.2.2.2.2.1, cell_on bx4 hHeld.2.2.2.2.2.2.2.2.2.2.1, cell_on bx4 hHeld.2.2.2.2.2.2.2.2.2.2.2.1, cell_on bx4 hHeld.2.2.2.2.2.2.2.2.2.2.2.2.1, cell_on bx4 hHeld.2.2.2.2.2.2.2.2.2.2.2.2.2.1, cell_on bx4 hHeld.2.2.2.2.2.2.2.2.2.2.2.2.2.2.1, cell_on bx4 hHeld.2.2.2.2.2.2.2.2.2.2.2.2.2.2.2.1, also hHeld.2.2.2.2.2.2.2.2.2.2.2.2.2.2.2.2 bx4⟩ | exact ⟨cell_on bx3 hHeld.1, cell_on bx3 hHeld.2.1, cell_on bx3 hHeld.2.2.1, cell_on bx3 hHeld.2.2.2.1, cell_on bx3 hHeld.2.2.2.2.1, cell_on bx3 hHeld.2.2.2.2.2.1, cell_on bx3 hHeld.2.2.2.2.2.2.1, cell_on bx3 hHeld.2.2.2.2.2.2.2.1, cell_on bx3 hHeld.2.2.2.2.2.2.2.2.1, cell_on bx3 hHeld.2.2.2.2.2.2.2.2.2.1, cell_on bx3 hHeld.2.2.2.2.2.2.2.2.2.2.1, cell_on bx3 hHeld.2.2.2.2.2.2.2.2.2.2.2.1, cell_on bx3 hHeld.2.2.2.2.2.2.2.2.2.2.2.2.1, cell_on bx3 hHeld.2.2.2.2.2.2.2.2.2.2.2.2.2.1, cell_on bx3 hHeld.2.2.2.2.2.2.2.2.2.2.2.2.2.2.1, cell_on bx3 hHeld.2.2.2.2.2.2.2.2.2.2.2.2.2.2.2.1, also hHeld.2.2.2.2.2.2.2.2.2.2.2.2.2.2.2.2 bx3⟩ | exact ⟨cell_on bx2 hHeld.1, cell_on bx2 hHeld.2.1, cell_on bx2 hHeld.2.2.1, cell_on bx2 hHeld.2.2.2.1, cell_on bx2 hHeld.2.2.2.2.1, cell_on bx2 hHeld.2.2.2.2.2.1, cell_on bx2 hHeld.2.2.2.2.2.2.1, cell_on bx2 hHeld.2.2.2.2.2.2.2.1, cell_on bx2 hHeld.2.2.2.2.2.2.2.2.1, cell_on bx2 hHeld.2.2.2.2.2.2.2.2.2.1, cell_on bx2 hHeld.2.2.2.2.2.2.2.2.2.2.1, cell_on bx2 hHeld.2.2.2.2.2.2.2.2.2.2.2.1, cell_on bx2 hHeld.2.2.2.2.2.2.2.2.2.2.2.2.1, cell_on bx2 hHeld.2.2.2.2.2.2.2.2.2.2.2.2.2.1, cell_on bx2 hHeld.2.2.2.2.2.2.2.2.2.2.2.2.2.2.1, cell_on bx2 hHeld.2.2.2.2.2.2.2.2.2.2.2.2.2.2.2.1, also hHeld.2.2.2.2.2.2.2.2.2.2.2.2.2.2.2.2 bx2⟩ | exact ⟨cell_on bx1 hHeld.1, cell_on bx1 hHeld.2.1, cell_on bx1 hHeld.2.2.1, cell_on bx1 hHeld.2.2.2.1, cell_on bx1 hHeld.2.2.2.2.1, cell_on bx1 hHeld.2.2.2.2.2.1, cell_on bx1 hHeld.2.2.2.2.2.2.1, cell_on bx1 hHeld.2.2.2.2.2.2.2.1, cell_on bx1 hHeld.2.2.2.2.2.2.2.2.1, cell_on bx1 hHeld.2.2.2.2.2.2.2.2.2.1, cell_on bx1 hHeld.2.2.2.2.2.2.2.2.2.2.1, cell_on bx1 hHeld.2.2.2.2.2.2.2.2.2.2.2.1, cell_on bx1 hHeld.2.2.2.2.2.2.2.2.2.2.2.2.1, cell_on bx1 hHeld.2.2.2.2.2.2.2.2.2.2.2.2.2.1, cell_on bx1 hHeld.2.2.2.2.2.2.2.2.2.2.2.2.2.2.1, cell_on bx1 hHeld.2.2.2.2.2.2.2.2.2.2.2.2.2.2.2.1, also hHeld.2.2.2.2.2.2.2.2.2.2.2.2.2.2.2.2 bx1⟩
          clear hK Kc
          have zbx6 := bx6.size
          replace BB := also BB bx6
          replace x_t := x_t.on bx6
          replace x_d := x_d.on bx6
          replace x_s := x_s.on bx6
          replace x_ma := x_ma.on bx6
          replace x_mb := x_mb.on bx6
          replace x_mc := x_mc.on bx6
          replace x_md := x_md.on bx6
          refine take_yes (i := 36) (v := ?vs36) rfl (by kernel_rfl) (by kernel_rfl) (by kernel_rfl) (fun _ _ _ h => h) (by rfl) (by assumption) ?hys36 ?rests36
          case hys36 => (intro w hSw; (try dsimp only at hSw); first | (go_simp; done) | (go_simp; with_reducible rfl))
          simp only [Act.put, List.setIfInBounds_toArray, List.set_cons_zero, List.set_cons_succ]
          refine take_yes (i := 37) (v := ?vs37) rfl (by kernel_rfl) (by kernel_rfl) (by kernel_rfl) (fun _ _ _ h => h) (by rfl) (by assumption) ?hys37 ?rests37
          case hys37 => (intro w hSw; (try dsimp only at hSw); first | (go_simp; done) | (go_simp; with_reducible rfl))
          simp only [Act.put, List.setIfInBounds_toArray, List.set_cons_zero, List.set_cons_succ]
          refine take_yes (i := 38) (v := ?vs38) rfl (by kernel_rfl) (by kernel_rfl) (by kernel_rfl) (fun _ _ _ h => h) (by rfl) (by assumption) ?hys38 ?rests38
          case hys38 => (intro w hSw; (try dsimp only at hSw); first | (go_simp; done) | (go_simp; with_reducible rfl))
          simp only [Act.put, List.setIfInBounds_toArray, List.set_cons_zero, List.set_cons_succ]
          refine take_yes (i := 39) (v := ?vs39) rfl (by kernel_rfl) (by kernel_rfl) (by kernel_rfl) (fun _ _ _ h => h) (by rfl) (by assumption) ?hys39 ?rests39
          case hys39 => (intro w hSw; (try dsimp only at hSw); first | (go_simp; done) | (go_simp; with_reducible rfl))
          simp only [Act.put, List.setIfInBounds_toArray, List.set_cons_zero, List.set_cons_succ]
          refine take_yes (i := 40) (v := ?vs40) rfl (by kernel_rfl) (by kernel_rfl) (by kernel_rfl) (fun _ _ _ h => h) (by rfl) (by assumption) ?hys40 ?rests40
          case hys40 => (intro w hSw; (try dsimp only at hSw); first | (go_simp; done) | (go_simp; with_reducible rfl))
          simp only [Act.put, List.setIfInBounds_toArray, List.set_cons_zero, List.set_cons_succ]
          refine take_yes (i := 41) (v := ?vs41) rfl (by kernel_rfl) (by kernel_rfl) (by kernel_rfl) (fun _ _ _ h => h) (by rfl) (by assumption) ?hys41 ?rests41
          case hys41 => (intro w hSw; (try dsimp only at hSw); first | (go_simp; done) | (go_simp; with_reducible rfl))
          simp only [Act.put, List.setIfInBounds_toArray, List.set_cons_zero, List.set_cons_succ]
          refine take_yes (i := 42) (v := ?vs42) rfl (by kernel_rfl) (by kernel_rfl) (by kernel_rfl) (fun _ _ _ h => h) (by rfl) (by assumption) ?hys42 ?rests42
          case hys42 => (intro w hSw; (try dsimp only at hSw); first | (go_simp; done) | (go_simp; with_reducible rfl))
          simp only [Act.put, List.setIfInBounds_toArray, List.set_cons_zero, List.set_cons_succ]
          refine take_yes (i := 44) (v := ?vs44) rfl (by kernel_rfl) (by kernel_rfl) (by kernel_rfl) (fun _ _ _ h => h) (by rfl) (by assumption) ?hys44 ?rests44
          case hys44 => (intro w hSw; (try dsimp only at hSw); first | (go_simp; done) | (go_simp; with_reducible rfl))
          simp only [Act.put, List.setIfInBounds_toArray, List.set_cons_zero, List.set_cons_succ]
          refine take_yes (i := 45) (v := ?vs45) rfl (by kernel_rfl) (by kernel_rfl) (by kernel_rfl) (fun _ _ _ h => h) (by rfl) (by assumption) ?hys45 ?rests45
          case hys45 => (intro w hSw; (try dsimp only at hSw); first | (go_simp; done) | (go_simp; with_reducible rfl))
          simp only [Act.put, List.setIfInBounds_toArray, List.set_cons_zero, List.set_cons_succ]
          refine take_yes (i := 46) (v := ?vs46) rfl (by kernel_rfl) (by kernel_rfl) (by kernel_rfl) (fun _ _ _ h => h) (by rfl) (by assumption) ?hys46 ?rests46
          case hys46 => (intro w hSw; (try dsimp only at hSw); first | (go_simp; done) | (go_simp; with_reducible rfl))
          simp only [Act.put, List.setIfInBounds_toArray, List.set_cons_zero, List.set_cons_succ]
          refine take_yes (i := 47) (v := ?vs47) rfl (by kernel_rfl) (by kernel_rfl) (by kernel_rfl) (fun _ _ _ h => h) (by rfl) (by assumption) ?hys47 ?rests47
          case hys47 => (intro w hSw; (try dsimp only at hSw); first | (go_simp; done) | (go_simp; with_reducible rfl))
          simp only [Act.put, List.setIfInBounds_toArray, List.set_cons_zero, List.set_cons_succ]
          refine take_yes (i := 48) (v := ?vs48) rfl (by kernel_rfl) (by kernel_rfl) (by kernel_rfl) (fun _ _ _ h => h) (by rfl) (by assumption) ?hys48 ?rests48
          case hys48 => (intro w hSw; (try dsimp only at hSw); first | (go_simp; done) | (go_simp; with_reducible rfl))
          simp only [Act.put, List.setIfInBounds_toArray, List.set_cons_zero, List.set_cons_succ]
          refine take_yes (i := 49) (v := ?vs49) rfl (by kernel_rfl) (by kernel_rfl) (by kernel_rfl) (fun _ _ _ h => h) (by rfl) (by assumption) ?hys49 ?rests49
          case hys49 => (intro w hSw; (try dsimp only at hSw); first | (go_simp; done) | (go_simp; with_reducible rfl))
          simp only [Act.put, List.setIfInBounds_toArray, List.set_cons_zero, List.set_cons_succ]
          refine take_yes (i := 50) (v := ?vs50) rfl (by kernel_rfl) (by kernel_rfl) (by kernel_rfl) (fun _ _ _ h => h) (by rfl) (by assumption) ?hys50 ?rests50
          case hys50 => (intro w hSw; (try dsimp only at hSw); first | (go_simp; done) | (go_simp; with_reducible rfl))
          simp only [Act.put, List.setIfInBounds_toArray, List.set_cons_zero, List.set_cons_succ]
          refine take_call (i := 43) rfl (by kernel_rfl) (fun Kc hK => ?_)
          go_simp
          (go_at_call 20; refine (pWhere u0 v0 u1 v1 u2 v2 u3 v3 _ Ek.out).mono ?_; rintro e x7 ⟨rfl, bx7⟩)
          refine hK.out _ _ ?_ (fun hHeld => ?_)
          · first | exact ⟨x_t.c0, x_t.c1, x_t.c2, x_t.c3, x_t.c4, x_t.c5, x_d.c0, x_d.c1, x_ma.c0, x_ma.c1, x_mb.c0, x_mb.c1, x_mc.c0, x_mc.c1, x_md.c0, x_md.c1, BB⟩ | exact ⟨cell_on bx9 hHeld.1, cell_on bx9 hHeld.2.1, cell_on bx9 hHeld.2.2.1, cell_on bx9 hHeld.2.2.2.1, cell_on bx9 hHeld.2.2.2.2.1, cell_on bx9 hHeld.2.2.2.2.2.1, cell_on bx9 hHeld.2.2.2.2.2.2.1, cell_on bx9 hHeld.2.2.2.2.2.2.2.1, cell_on bx9 hHeld.2.2.2.2.2.2.2.2.1, cell_on bx9 hHeld.2.2.2.2.2.2.2.2.2.1, cell_on bx9 hHeld.2.2.2.2.2.2.2.2.2.2.1, cell_on bx9 hHeld.2.2.2.2.2.2.2.2.2.2.2.1, cell_on bx9 hHeld.2.2.2.2.2.2.2.2.2.2.2.2.1, cell_on bx9 hHeld.2.2.2.2.2.2.2.2.2.2.2.2.2.1, cell_on bx9 hHeld.2.2.2.2.2.2.2.2.2.2.2.2.2.2.1, cell_on bx9 hHeld.2.2.2.2.2.2.2.2.2.2.2.2.2.2.2.1, also hHeld.2.2.2.2.2.2.2.2.2.2.2.2.2.2.2.2 bx9⟩ | exact ⟨cell_on bx8 hHeld.1, cell_on bx8 hHeld.2.1, cell_on bx8 hHeld.2.2.1, cell_on bx8 hHeld.2.2.2.1, cell_on bx8 hHeld.2.2.2.2.1, cell_on bx8 hHeld.2.2.2.2.2.1, cell_on bx8 hHeld.2.2.2.2.2.2.1, cell_on bx8 hHeld.2.2.2.2.2.2.2.1, cell_on bx8 hHeld.2.2.2.2.2.2.2.2.1, cell_on bx8 hHeld.2.2.2.2.2.2.2.2.2.1, cell_on bx8 hHeld.2.2.2.2.2.2.2.2.2.2.1, cell_on bx8 hHeld.2.2.2.2.2.2.2.2.2.2.2.1, cell_on bx8 hHeld.2.2.2.2.2.2.2.2.2.2.2.2.1, cell_on bx8 hHeld.2.2.2.2.2.2.2.2.2.2.2.2.2.1, cell_on bx8 hHeld.2.2.2.2.2.2.2.2.2.2.2.2.2.2.1, cell_on bx8 hHeld.2.2.2.2.2.2.2.2.2.2.2.2.2.2.2.1, also hHeld.2.2.2.2.2.2.2.2.2.2.2.2.2.2.2.2 bx8⟩ | exact ⟨cell_on bx7 hHeld.1, cell_on bx7 hHeld.2.1, cell_on bx7 hHeld.2.2.1, cell_on bx7 hHeld.2.2.2.1, cell_on bx7 hHeld.2.2.2.2.1, cell_on bx7 hHeld.2.2.2.2.2.1, cell_on bx7 hHeld.2.2.2.2.2.2.1, cell_on bx7 hHeld.2.2.2.2.2.2.2.1, cell_on bx7 hHeld.2.2.2.2.2.2.2.2.1, cell_on bx7 hHeld.2.2.2.2.2.2.2.2.2.1, cell_on bx7 hHeld.2.2.2.2.2.2.2.2.2.2.1, cell_on bx7 hHeld.2.2.2.2.2.2.2.2.2.2.2.1, cell_on bx7 hHeld.2.2.2.2.2.2.2.2.2.2.2.2.1, cell_on bx7 hHeld.2.2.2.2.2.2.2.2.2.2.2.2.2.1, cell_on bx7 hHeld.2.2.2.2.2.2.2.2.2.2.2.2.2.2.1, cell_on bx7 hHeld.2.2.2.2.2.2.2.2.2.2.2.2.2.2.2.1, also hHeld.2.2.2.2.2.2.2.2.2.2.2.2.2.2.2.2 bx7⟩ | exact ⟨cell_on bx6 hHeld.1, cell_on bx6 hHeld.2.1, cell_on bx6 hHeld.2.2.1, cell_on bx6 hHeld.2.2.2.1, cell_on bx6 hHeld.2.2.2.2.1, cell_on bx6 hHeld.2.2.2.2.2.1, cell_on bx6 hHeld.2.2.2.2.2.2.1, cell_on bx6 hHeld.2.2.2.2.2.2.2.1, cell_on bx6 hHeld.2.2.2.2.2.2.2.2.1, cell_on bx6 hHeld.2.2.2.2.2.2.2.2.2.1, cell_on bx6 hHeld.2.2.2.2.2.2.2.2.2.2.1, cell_on bx6 hHeld.2.2.2.2.2.2.2.2.2.2.2.1, cell_on bx6 hHeld.2.2.2.2.2.2.2.2.2.2.2.2.1, cell_on bx6 hHeld.2.2.2.2.2.2.2.2.2.2.2.2.2.1, cell_on bx6 hHeld.2.2.2.2.2.2.2.2.2.2.2.2.2.2.1, cell_on bx6 hHeld.2.2.2.2.2.2.2.2.2.2.2.2.2.2.2.1, also hHeld.2.2.2.2.2.2.2.2.2.2.2.2.2.2.2.2 bx6⟩ | exact ⟨cell_on bx5 hHeld.1, cell_on bx5 hHeld.2.1, cell_on bx5 hHeld.2.2.1, cell_on bx5 hHeld.2.2.2.1, cell_on bx5 hHeld.2.2.2.2.1, cell_on bx5 hHeld.2.2.2.2.2.1, cell_on bx5 hHeld.2.2.2.2.2.2.1, cell_on bx5 hHeld.2.2.2.2.2.2.2.1, cell_on bx5 hHeld.2.2.2.2.2.2.2.2.1, cell_on bx5 hHeld.2.2.2.2.2.2.2.2.2.1, cell_on bx5 hHeld.2.2.2.2.2.2.2.2.2.2.1, cell_on bx5 hHeld.2.2.2.2.2.2.2.2.2.2.2.1, cell_on bx5 hHeld.2.2.2.2.2.2.2.2.2.2.2.2.1, cell_on bx5 hHeld.2.2.2.2.2.2.2.2.2.2.2.2.2.1, cell_on bx5 hHeld.2.2.2.2.2.2.2.2.2.2.2.2.2.2.1, cell_on bx5 hHeld.2.2.2.2.2.2.2.2.2.2.2.2.2.2.2.1, also hHeld.2.2.2.2.2.2.2.2.2.2.2.2.2.2.2.2 bx5⟩ | exact ⟨cell_on bx4 hHeld.1, cell_on bx4 hHeld.2.1, cell_on bx4 hHeld.2.2.1, cell_on bx4 hHeld.2.2.2.1, cell_on bx4 hHeld.2.2.2.2.1, cell_on bx4 hHeld.2.2.2.2.2.1, cell_on bx4 hHeld.2.2.2.2.2.2.1, cell_on bx4 hHeld.2.2.2.2.2.2.2.1, cell_on bx4 hHeld.2.2.2.2.2.2.2.2.1, cell_on bx4 hHeld.2.2.2.2.2.2.2.2.2.1, cell_on bx4 hHeld.2.2.2.2.2.2.2.2.2.2.1, cell_on bx4 hHeld.2.2.2.2.2.2.2.2.2.2.2.1, cell_on bx4 hHeld.2.2.2.2.2.2.2.2.2.2.2.2.1, cell_on bx4 hHeld.2.2.2.2.2.2.2.2.2.2.2.2.2.1, cell_on bx4 hHeld.2.2.2.2.2.2.2.2.2.2.2.2.2.2.1, cell_on bx4 hHeld.2.2.2.2.2.2.2.2.2.2.2.2.2.2.2.1, also hHeld.2.2.2.2.2.2.2.2.2.2.2.2.2.2.2.2 bx4⟩ | exact ⟨cell_on bx3 hHeld.1, cell_on bx3 hHeld.2.1, cell_on bx3 hHeld.2.2.1, cell_on bx3 hHeld.2.2.2.1, cell_on bx3 hHeld.2.2.2.2.1, cell_on bx3 hHeld.2.2.2.2.2.1, cell_on bx3 hHeld.2.2.2.2.2.2.1, cell_on bx3 hHeld.2.2.2.2.2.2.2.1, cell_on bx3 hHeld.2.2.2.2.2.2.2.2.1, cell_on bx3 hHeld.2.2.2.2.2.2.2.2.2.1, cell_on bx3 hHeld.2.2.2.2.2.2.2.2.2.2.1, cell_on bx3 hHeld.2.2.2.2.2.2.2.2.2.2.2.1, cell_on bx3 hHeld.2.2.2.2.2.2.2.2.2.2.2.2.1, cell_on bx3 hHeld.2.2.2.2.2.2.2.2.2.2.2.2.2.1, cell_on bx3 hHeld.2.2.2.2.2.2.2.2.2.2.2.2.2.2.1, cell_on bx3 hHeld.2.2.2.2.2.2.2.2.2.2.2.2.2.2.2.1, also hHeld.2.2.2.2.2.2.2.2.2.2.2.2.2.2.2.2 bx3⟩ | exact ⟨cell_on bx2 hHeld.1, cell_on bx2 hHeld.2.1, cell_on bx2 hHeld.2.2.1, cell_on bx2 hHeld.2.2.2.1, cell_on bx2 hHeld.2.2.2.2.1, cell_on bx2 hHeld.2.2.2.2.2.1, cell_on bx2 hHeld.2.2.2.2.2.2.1, cell_on bx2 hHeld.2.2.2.2.2.2.2.1, cell_on bx2 hHeld.2.2.2.2.2.2.2.2.1, cell_on bx2 hHeld.2.2.2.2.2.2.2.2.2.1, cell_on bx2 hHeld.2.2.2.2.2.2.2.2.2.2.1, cell_on bx2 hHeld.2.2.2.2.2.2.2.2.2.2.2.1, cell_on bx2 hHeld.2.2.2.2.2.2.2.2.2.2.2.2.1, cell_on bx2 hHeld.2.2.2.2.2.2.2.2.2.2.2.2.2.1, cell_on bx2 hHeld.2.2.2.2.2.2.2.2.2.2.2.2.2.2.1, cell_on bx2 hHeld.2.2.2.2.2.2.2.2.2.2.2.2.2.2.2.1, also hHeld.2.2.2.2.2.2.2.2.2.2.2.2.2.2.2.2 bx2⟩ | exact ⟨cell_on bx1 hHeld.1, cell_on bx1 hHeld.2.1, cell_on bx1 hHeld.2.2.1, cell_on bx1 hHeld.2.2.2.1, cell_on bx1 hHeld.2.2.2.2.1, cell_on bx1 hHeld.2.2.2.2.2.1, cell_on bx1 hHeld.2.2.2.2.2.2.1, cell_on bx1 hHeld.2.2.2.2.2.2.2.1, cell_on bx1 hHeld.2.2.2.2.2.2.2.2.1, cell_on bx1 hHeld.2.2.2.2.2.2.2.2.2.1, cell_on bx1 hHeld.2.2.2.2.2.2.2.2.2.2.1, cell_on bx1 hHeld.2.2.2.2.2.2.2.2.2.2.2.1, cell_on bx1 hHeld.2.2.2.2.2.2.2.2.2.2.2.2.1, cell_on bx1 hHeld.2.2.2.2.2.2.2.2.2.2.2.2.2.1, cell_on bx1 hHeld.2.2.2.2.2.2.2.2.2.2.2.2.2.2.1, cell_on bx1 hHeld.2.2.2.2.2.2.2.2.2.2.2.2.2.2.2.1, also hHeld.2.2.2.2.2.2.2.2.2.2.2.2.2.2.2.2 bx1⟩
          clear hK Kc
          have zbx7 := bx7.size
          replace BB := also BB bx7
          replace x_t := x_t.on bx7
          replace x_d := x_d.on bx7
          replace x_s := x_s.on bx7
          replace x_ma := x_ma.on bx7
          replace x_mb := x_mb.on bx7
          replace x_mc := x_mc.on bx7
          replace x_md := x_md.on bx7
          refine take_call (i := 51) rfl (by kernel_rfl) (fun Kc hK => ?_)
          go_simp
          (go_at_call 20; refine (pWhere a1 a2 b1 b2 c1 c2 d1 d2 _ Hk.out).mono ?_; rintro e x8 ⟨rfl, bx8⟩)
          refine hK.out _ _ ?_ (fun hHeld => ?_)
          · first | exact ⟨x_t.c0, x_t.c1, x_t.c2, x_t.c3, x_t.c4, x_t.c5, x_d.c0, x_d.c1, x_ma.c0, x_ma.c1, x_mb.c0, x_mb.c1, x_mc.c0, x_mc.c1, x_md.c0, x_md.c1, BB⟩ | exact ⟨cell_on bx9 hHeld.1, cell_on bx9 hHeld.2.1, cell_on bx9 hHeld.2.2.1, cell_on bx9 hHeld.2.2.2.1, cell_on bx9 hHeld.2.2.2.2.1, cell_on bx9 hHeld.2.2.2.2.2.1, cell_on bx9 hHeld.2.2.2.2.2.2.1, cell_on bx9 hHeld.2.2.2.2.2.2.2.1, cell_on bx9 hHeld.2.2.2.2.2.2.2.2.1, cell_on bx9 hHeld.2.2.2.2.2.2.2.2.2.1, cell_on bx9 hHeld.2.2.2.2.2.2.2.2.2.2.1, cell_on bx9 hHeld.2.2.2.2.2.2.2.2.2.2.2.1, cell_on bx9 hHeld.2.2.2.2.2.2.2.2.2.2.2.2.1, cell_on bx9 hHeld.2.2.2.2.2.2.2.2.2.2.2.2.2.1, cell_on bx9 hHeld.2.2.2.2.2.2.2.2.2.2.2.2.2.2.1, cell_on bx9 hHeld.2.2.2.2.2.2.2.2.2.2.2.2.2.2.2.1, also hHeld.2.2.2.2.2.2.2.2.2.2.2.2.2.2.2.2 bx9⟩ | exact ⟨cell_on bx8 hHeld.1, cell_on bx8 hHeld.2.1, cell_on bx8 hHeld.2.2.1, cell_on bx8 hHeld.2.2.2.1, cell_on bx8 hHeld.2.2.2.2.1, cell_on bx8 hHeld.2.2.2.2.2.1, cell_on bx8 hHeld.2.2.2.2.2.2.1, cell_on bx8 hHeld.2.2.2.2.2.2.2.1, cell_on bx8 hHeld.2.2.2.2.2.2.2.2.1, cell_on bx8 hHeld.2.2.2.2.2.2.2.2.2.1, cell_on bx8 hHeld.2.2.2.2.2.2.2.2.2.2.1, cell_on bx8 hHeld.2.2.2.2.2.2.2.2.2.2.2.1, cell_on bx8 hHeld.2.2.2.2.2.2.2.2.2.2.2.2.1, cell_on bx8 hHeld.2.2.2.2.2.2.2.2.2.2.2.2.2.1, cell_on bx8 hHeld.2.2.2.2.2.2.2.2.2.2.2.2.2.2.1, cell_on bx8 hHeld.2.2.2.2.2.2.2.2.2.2.2.2.2.2.2.1, also hHeld.2.2.2.2.2.2.2.2.2.2.2.2.2.2.2.2 bx8⟩ | exact ⟨cell_on bx7 hHeld.1, cell_on bx7 hHeld.2.1, cell_on bx7 hHeld.2.2.1, cell_on bx7 hHeld.2.2.2.1, cell_on bx7 hHeld.2.2.2.2.1, cell_on bx7 hHeld.2.2.2.2.2.1, cell_on bx7 hHeld.2.2.2.2.2.2.1, cell_on bx7 hHeld.2.2.2.2.2.2.2.1, cell_on bx7 hHeld.2.2.2.2.2.2.2.2.1, cell_on bx7 hHeld.2.2.2.2.2.2.2.2.2.1, cell_on bx7 hHeld.2.2.2.2.2.2.2.2.2.2.1, cell_on bx7 hHeld.2.2.2.2.2.2.2.2.2.2.2.1, cell_on bx7 hHeld.2.2.2.2.2.2.2.2.2.2.2.2.1, cell_on bx7 hHeld.2.2.2.2.2.2.2.2.2.2.2.2.2.1, cell_on bx7 hHeld.2.2.2.2.2.2.2.2.2.2.2.2.2.2.1, cell_on bx7 hHeld.2.2.2.2.2.2.2.2.2.2.2.2.2.2.2.1, also hHeld.2.2.2.2.2.2.2.2.2.2.2.2.2.2.2.2 bx7⟩ | exact ⟨cell_on bx6 hHeld.1, cell_on bx6 hHeld.2.1, cell_on bx6 hHeld.2.2.1, cell_on bx6 hHeld.2.2.2.1, cell_on bx6 hHeld.2.2.2.2.1, cell_on bx6 hHeld.2.2.2.2.2.1, cell_on bx6 hHeld.2.2.2.2.2.2.1, cell_on bx6 hHeld.2.2.2.2.2.2.2.1, cell_on bx6 hHeld.2.2.2.2.2.2.2.2.1, cell_on bx6 hHeld.2.2.2.2.2.2.2.2.2.1, cell_on bx6 hHeld.2.2.2.2.2.2.2.2.2.2.1, cell_on bx6 hHeld.2.2.2.2.2.2.2.2.2.2.2.1, cell_on bx6 hHeld.2.2.2.2.2.2.2.2.2.2.2.2.1, cell_on bx6 hHeld.2.2.2.2.2.2.2.2.2.2.2.2.2.1, cell_on bx6 hHeld.2.2.2.2.2.2.2.2.2.2.2.2.2.2.1, cell_on bx6 hHeld.2.2.2.2.2.2.2.2.2.2.2.2.2.2.2.1, also hHeld.2.2.2.2.2.2.2.2.2.2.2.2.2.2.2.2 bx6⟩ | exact ⟨cell_on bx5 hHeld.1, cell_on bx5 hHeld.2.1, cell_on bx5 hHeld.2.2.1, cell_on bx5 hHeld.2.2.2.1, cell_on bx5 hHeld.2.2.2.2.1, cell_on bx5 hHeld.2.2.2.2.2.1, cell_on bx5 hHeld.2.2.2.2.2.2.1, cell_on bx5 hHeld.2.2.2.2.2.2.2.1, cell_on bx5 hHeld.2.2.2.2.2.2.2.2.1, cell_on bx5 hHeld.2.2.2.2.2.2.2.2.2.1, cell_on bx5 hHeld.2.2.2.2.2.2.2.2.2.2.1, cell_on bx5 hHeld.2.2.2.2.2.2.2.2.2.2.2.1, cell_on bx5 hHeld.2.2.2.2.2.2.2.2.2.2.2.2.1, cell_on bx5 hHeld.2.2.2.2.2.2.2.2.2.2.2.2.2.1, cell_on bx5 hHeld.2.2.2.2.2.2.2.2.2.2.2.2.2.2.1, cell_on bx5 hHeld.2.2.2.2.2.2.2.2.2.2.2.2.2.2.2.1, also hHeld.2.2.2.2.2.2.2.2.2.2.2.2.2.2.2.2 bx5⟩ | exact ⟨cell_on bx4 hHeld.1, cell_on bx4 hHeld.2.1, cell_on bx4 hHeld.2.2.1, cell_on bx4 hHeld.2.2.2.1, cell_on bx4 hHeld.2.2.2.2.1, cell_on bx4 hHeld.2.2.2.2.2.1, cell_on bx4 hHeld.2.2.2.2.2.2.1, cell_on bx4 hHeld.2.2.2.2.2.2.2.1, cell_on bx4 hHeld.2.2.2.2.2.2.2.2.1, cell_on bx4 hHeld.2.2.2.2.2.2.2.2.2.1, cell_on bx4 hHeld.2.2.2.2.2.2.2.2.2.2.1, cell_on bx4 hHeld.2.2.2.2.2.2.2.2.2.2.2.1, cell_on bx4 hHeld.2.2.2.2.2.2.2.2.2.2.2.2.1, cell_on bx4 hHeld.2.2.2.2.2.2.2.2.2.2.2.2.2.1, cell_on bx4 hHeld.2.2.2.2.2.2.2.2.2.2.2.2.2.2.1, cell_on bx4 hHeld.2.2.2.2.2.2.2.2.2.2.2.2.2.2.2.1, also hHeld.2.2.2.2.2.2.2.2.2.2.2.2.2.2.2.2 bx4⟩ | exact ⟨cell_on bx3 hHeld.1, cell_on bx3 hHeld.2.1, cell_on bx3 hHeld.2.2.1, cell_on bx3 hHeld.2.2.2.1, cell_on bx3 hHeld.2.2.2.2.1, cell_on bx3 hHeld.2.2.2.2.2.1, cell_on bx3 hHeld.2.2.2.2.2.2.1, cell_on bx3 hHeld.2.2.2.2.2.2.2.1, cell_on bx3 hHeld.2.2.2.2.2.2.2.2.1, cell_on bx3 hHeld.2.2.2.2.2.2.2.2.2.1, cell_on bx3 hHeld.2.2.2.2.2.2.2.2.2.2.1, cell_on bx3 hHeld.2.2.2.2.2.2.2.2.2.2.2.1, cell_on bx3 hHeld.2.2.2.2.2.2.2.2.2.2.2.2.1, cell_on bx3 hHeld.2.2.2.2.2.2.2.2.2.2.2.2.2.1, cell_on bx3 hHeld.2.2.2.2.2.2.2.2.2.2.2.2.2.2.1, cell_on bx3 hHeld.2.2.2.2.2.2.2.2.2.2.2.2.2.2.2.1, also hHeld.2.2.2.2.2.2.2.2.2.2.2.2.2.2.2.2 bx3⟩ | exact ⟨cell_on bx2 hHeld.1, cell_on bx2 hHeld.2.1, cell_on bx2 hHeld.2.2.1, cell_on bx2 hHeld.2.2.2.1, cell_on bx2 hHeld.2.2.2.2.1, cell_on bx2 hHeld.2.2.2.2.2.1, cell_on bx2 hHeld.2.2.2.2.2.2.1, cell_on bx2 hHeld.2.2.2.2.2.2.2.1, cell_on bx2 hHeld.2.2.2.2.2.2.2.2.1, cell_on bx2 hHeld.2.2.2.2.2.2.2.2.2.1, cell_on bx2 hHeld.2.2.2.2.2.2.2.2.2.2.1, cell_on bx2 hHeld.2.2.2.2.2.2.2.2.2.2.2.1, cell_on bx2 hHeld.2.2.2.2.2.2.2.2.2.2.2.2.1, cell_on bx2 hHeld.2.2.2.2.2.2.2.2.2.2.2.2.2.1, cell_on bx2 hHeld.2.2.2.2.2.2.2.2.2.2.2.2.2.2.1, cell_on bx2 hHeld.2.2.2.2.2.2.2.2.2.2.2.2.2.2.2.1, also hHeld.2.2.2.2.2.2.2.2.2.2.2.2.2.2.2.2 bx2⟩ | exact ⟨cell_on bx1 hHeld.1, cell_on bx1 hHeld.2.1, cell_on bx1 hHeld.2.2.1, cell_on bx1 hHeld.2.2.2.1, cell_on bx1 hHeld.2.2.2.2.1, cell_on bx1 hHeld.2.2.2.2.2.1, cell_on bx1 hHeld.2.2.2.2.2.2.1, cell_on bx1 hHeld.2.2.2.2.2.2.2.1, cell_on bx1 hHeld.2.2.2.2.2.2.2.2.1, cell_on bx1 hHeld.2.2.2.2.2.2.2.2.2.1, cell_on bx1 hHeld.2.2.2.2.2.2.2.2.2.2.1, cell_on bx1 hHeld.2.2.2.2.2.2.2.2.2.2.2.1, cell_on bx1 hHeld.2.2.2.2.2.2.2.2.2.2.2.2.1, cell_on bx1 hHeld.2.2.2.2.2.2.2.2.2.2.2.2.2.1, cell_on bx1 hHeld.2.2.2.2.2.2.2.2.2.2.2.2.2.2.1, cell_on bx1 hHeld.2.2.2.2.2.2.2.2.2.2.2.2.2.2.2.1, also hHeld.2.2.2.2.2.2.2.2.2.2.2.2.2.2.2.2 bx1⟩
          clear hK Kc
          have zbx8 := bx8.size
          replace BB := also BB bx8
          replace x_t := x_t.on bx8
          replace x_d := x_d.on bx8
          replace x_s := x_s.on bx8
          replace x_ma := x_ma.on bx8
          replace x_mb := x_mb.on bx8
          replace x_mc := x_mc.on bx8
          replace x_md := x_md.on bx8
          refine take_yes (i := 52) (v := ?vs52) rfl (by kernel_rfl) (by kernel_rfl) (by kernel_rfl) (fun _ _ _ h => h) (by rfl) (by assumption) ?hys52 ?rests52
          case hys52 => (intro w hSw; (try dsimp only at hSw); first | (go_simp; done) | (go_simp; with_reducible rfl))
          simp only [Act.put, List.setIfInBounds_toArray, List.set_cons_zero, List.set_cons_succ]
          refine take_yes (i := 53) (v := ?vs53) rfl (by kernel_rfl) (by kernel_rfl) (by kernel_rfl) (fun _ _ _ h => h) (by rfl) (by assumption) ?hys53 ?rests53
          case hys53 => (intro w hSw; (try dsimp only at hSw); first | (go_simp; done) | (go_simp; with_reducible rfl))
          simp only [Act.put, List.setIfInBounds_toArray, List.set_cons_zero, List.set_cons_succ]
          refine take_yes (i := 54) (v := ?vs54) rfl (by kernel_rfl) (by kernel_rfl) (by kernel_rfl) (fun _ _ _ h => h) (by rfl) (by assumption) ?hys54 ?rests54
          case hys54 => (intro w hSw; (try dsimp only at hSw); first | (go_simp; done) | (go_simp; with_reducible rfl))
          simp only [Act.put, List.setIfInBounds_toArray, List.set_cons_zero, List.set_cons_succ]
          refine take_call (i := 55) rfl (by kernel_rfl) (fun Kc hK => ?_)
          go_simp
          (go_at_call 13; refine (lives7_any _).mono ?_; rintro e x9 ⟨rfl, bx9⟩)
          refine hK.out _ _ ?_ (fun hHeld => ?_)
          · first | exact ⟨x_t.c0, x_t.c1, x_t.c2, x_t.c3, x_t.c4, x_t.c5, x_d.c0, x_d.c1, x_ma.c0, x_ma.c1, x_mb.c0, x_mb.c1, x_mc.c0, x_mc.c1, x_md.c0, x_md.c1, BB⟩ | exact ⟨cell_on bx9 hHeld.1, cell_on bx9 hHeld.2.1, cell_on bx9 hHeld.2.2.1, cell_on bx9 hHeld.2.2.2.1, cell_on bx9 hHeld.2.2.2.2.1, cell_on bx9 hHeld.2.2.2.2.2.1, cell_on bx9 hHeld.2.2.2.2.2.2.1, cell_on bx9 hHeld.2.2.2.2.2.2.2.1, cell_on bx9 hHeld.2.2.2.2.2.2.2.2.1, cell_on bx9 hHeld.2.2.2.2.2.2.2.2.2.1, cell_on bx9 hHeld.2.2.2.2.2.2.2.2.2.2.1, cell_on bx9 hHeld.2.2.2.2.2.2.2.2.2.2.2.1, cell_on bx9 hHeld.2.2.2.2.2.2.2.2.2.2.2.2.1, cell_on bx9 hHeld.2.2.2.2.2.2.2.2.2.2.2.2.2.1, cell_on bx9 hHeld.2.2.2.2.2.2.2.2.2.2.2.2.2.2.1, cell_on bx9 hHeld.2.2.2.2.2.2.2.2.2.2.2.2.2.2.2.1, also hHeld.2.2.2.2.2.2.2.2.2.2.2.2.2.2.2.2 bx9⟩ | exact ⟨cell_on bx8 hHeld.1, cell_on bx8 hHeld.2.1, cell_on bx8 hHeld.2.2.1, cell_on bx8 hHeld.2.2.2.1, cell_on bx8 hHeld.2.2.2.2.1, cell_on bx8 hHeld.2.2.2.2.2.1, cell_on bx8 hHeld.2.2.2.2.2.2.1, cell_on bx8 hHeld.2.2.2.2.2.2.2.1, cell_on bx8 hHeld.2.2.2.2.2.2.2.2.1, cell_on bx8 hHeld.2.2.2.2.2.2.2.2.2.1, cell_on bx8 hHeld.2.2.2.2.2.2.2.2.2.2.1, cell_on bx8 hHeld.2.2.2.2.2.2.2.2.2.2.2.1, cell_on bx8 hHeld.2.2.2.2.2.2.2.2.2.2.2.2.1, cell_on bx8 hHeld.2.2.2.2.2.2.2.2.2.2.2.2.2.1, cell_on bx8 hHeld.2.2.2.2.2.2.2.2.2.2.2.2.2.2.1, cell_on bx8 hHeld.2.2.2.2.2.2.2.2.2.2.2.2.2.2.2.1, also hHeld.2.2.2.2.2.2.2.2.2.2.2.2.2.2.2.2 bx8⟩ | exact ⟨cell_on bx7 hHeld.1, cell_on bx7 hHeld.2.1, cell_on bx7 hHeld.2.2.1, cell_on bx7 hHeld.2.2.2.1, cell_on bx7 hHeld.2.2.2.2.1, cell_on bx7 hHeld.2.2.2.2.2.1, cell_on bx7 hHeld.2.2.2.2.2.2.1, cell_on bx7 hHeld.2.2.2.2.2.2.2.1, cell_on bx7 hHeld.2.2.2.2.2.2.2.2.1, cell_on bx7 hHeld.2.2.2.2.2.2.2.2.2.1, cell_on bx7 hHeld.2.2.2.2.2.2.2.2.2.2.1, cell_on bx7 hHeld.2.2.2.2.2.2.2.2.2.2.2.1, cell_on bx7 hHeld.2.2.2.2.2.2.2.2.2.2.2.2.1, cell_on bx7 hHeld.2.2.2.2.2.2.2.2.2.2.2.2.2.1, cell_on bx7 hHeld.2.2.2.2.2.2.2.2.2.2.2.2.2.2.1, cell_on bx7 hHeld.2.2.2.2.2.2.2.2.2.2.2.2.2.2.2.1, also hHeld.2.2.2.2.2.2.2.2.2.2.2.2.2.2.2.2 bx7⟩ | exact ⟨cell_on bx6 hHeld.1, cell_on bx6 hHeld.2.1, cell_on bx6 hHeld.2.2.1, cell_on bx6 hHeld.2.2.2.1, cell_on bx6 hHeld.2.2.2.2.1, cell_on bx6 hHeld.2.2.2.2.2.1, cell_on bx6 hHeld.2.2.2.2.2.2.1, cell_on bx6 hHeld.2.2.2.2.2.2.2.1, cell_on bx6 hHeld.2.2.2.2.2.2.2.2.1, cell_on bx6 hHeld.2.2.2.2.2.2.2.2.2.1, cell_on bx6 hHeld.2.2.2.2.2.2.2.2.2.2.1, cell_on bx6 hHeld.2.2.2.2.2.2.2.2.2.2.2.1, cell_on bx6 hHeld.2.2.2.2.2.2.2.2.2.2.2.2.1, cell_on bx6 hHeld.2.2.2.2.2.2.2.2.2.2.2.2.2.1, cell_on bx6 hHeld.2.2.2.2.2.2.2.2.2.2.2.2.2.2.1, cell_on bx6 hHeld.2.2.2.2.2.2.2.2.2.2.2.2.2.2.2.1, also hHeld.2.2.2.2.2.2.2.2.2.2.2.2.2.2.2.2 bx6⟩ | exact ⟨cell_on bx5 hHeld.1, cell_on bx5 hHeld.2.1, cell_on bx5 hHeld.2.2.1, cell_on bx5 hHeld.2.2.2.1, cell_on bx5 hHeld.2.2.2.2.1, cell_on bx5 hHeld.2.2.2.2.2.1, cell_on bx5 hHeld.2.2.2.2.2.2.1, cell_on bx5 hHeld.2.2.2.2.2.2.2.1, cell_on bx5 hHeld.2.2.2.2.2.2.2.2.1, cell_on bx5 hHeld.2.2.2.2.2.2.2.2.2.1, cell_on bx5 hHeld.2.2.2.2.2.2.2.2.2.2.1, cell_on bx5 hHeld.2.2.2.2.2.2.2.2.2.2.2.1, cell_on bx5 hHeld.2.2.2.2.2.2.2.2.2.2.2.2.1, cell_on bx5 hHeld.2.2.2.2.2.2.2.2.2.2.2.2.2.1, cell_on bx5 hHeld.2.2.2.2.2.2.2.2.2.2.2.2.2.2.1, cell_on bx5 hHeld.2.2.2.2.2.2.2.2.2.2.2.2.2.2.2.1, also hHeld.2.2.2.2.2.2.2.2.2.2.2.2.2.2.2.2 bx5⟩ | exact ⟨cell_on bx4 hHeld.1, cell_on bx4 hHeld.2.1, cell_on bx4 hHeld.2.2.1, cell_on bx4 hHeld.2.2.2.1, cell_on bx4 hHeld.2.2.2.2.1, cell_on bx4 hHeld.2.2.2.2.2.1, cell_on bx4 hHeld.2.2.2.2.2.2.1, cell_on bx4 hHeld.2.2.2.2.2.2.2.1, cell_on bx4 hHeld.2.2.2.2.2.2.2.2.1, cell_on bx4 hHeld.2.2.2.2.2.2.2.2.2.1, cell_on bx4 hHeld.2.2.2.2.2.2.2.2.2.2.1, cell_on bx4 hHeld.2.2.2.2.2.2.2.2.2.2.2.1, cell_on bx4 hHeld.2.2.2.2.2.2.2.2.2.2.2.2.1, cell_on bx4 hHeld.2.2.2.2.2.2.2.2.2.2.2.2.2.1, cell_on bx4 hHeld.2.2.2.2.2.2.2.2.2.2.2.2.2.2.1, cell_on bx4 hHeld.2.2.2.2.2.2.2.2.2.2.2.2.2.2.2.1, also hHeld.2.2.2.2.2.2.2.2.2.2.2.2.2.2.2.2 bx4⟩ | exact ⟨cell_on bx3 hHeld.1, cell_on bx3 hHeld.2.1, cell_on bx3 hHeld.2.2.1, cell_on bx3 hHeld.2.2.2.1, cell_on bx3 hHeld.2.2.2.2.1, cell_on bx3 hHeld.2.2.2.2.2.1, cell_on bx3 hHeld.2.2.2.2.2.2.1, cell_on bx3 hHeld.2.2.2.2.2.2.2.1, cell_on bx3 hHeld.2.2.2.2.2.2.2.2.1, cell_on bx3 hHeld.2.2.2.2.2.2.2.2.2.1, cell_on bx3 hHeld.2.2.2.2.2.2.2.2.2.2.1, cell_on bx3 hHeld.2.2.2.2.2.2.2.2.2.2.2.1, cell_on bx3 hHeld.2.2.2.2.2.2.2.2.2.2.2.2.1, cell_on bx3 hHeld.2.2.2.2.2.2.2.2.2.2.2.2.2.1, cell_on bx3 hHeld.2.2.2.2.2.2.2.2.2.2.2.2.2.2.1, cell_on bx3 hHeld.2.2.2.2.2.2.2.2.2.2.2.2.2.2.2.1, also hHeld.2.2.2.2.2.2.2.2.2.2.2.2.2.2.2.2 bx3⟩ | exact ⟨cell_on bx2 hHeld.1, cell_on bx2 hHeld.2.1, cell_on bx2 hHeld.2.2.1, cell_on bx2 hHeld.2.2.2.1, cell_on bx2 hHeld.2.2.2.2.1, cell_on bx2 hHeld.2.2.2.2.2.1, cell_on bx2 hHeld.2.2.2.2.2.2.1, cell_on bx2 hHeld.2.2.2.2.2.2.2.1, cell_on bx2 hHeld.2.2.2.2.2.2.2.2.1, cell_on bx2 hHeld.2.2.2.2.2.2.2.2.2.1, cell_on bx2 hHeld.2.2.2.2.2.2.2.2.2.2.1, cell_on bx2 hHeld.2.2.2.2.2.2.2.2.2.2.2.1, cell_on bx2 hHeld.2.2.2.2.2.2.2.2.2.2.2.2.1, cell_on bx2 hHeld.2.2.2.2.2.2.2.2.2.2.2.2.2.1, cell_on bx2 hHeld.2.2.2.2.2.2.2.2.2.2.2.2.2.2.1, cell_on bx2 hHeld.2.2.2.2.2.2.2.2.2.2.2.2.2.2.2.1, also hHeld.2.2.2.2.2.2.2.2.2.2.2.2.2.2.2.2 bx2⟩ | exact ⟨cell_on bx1 hHeld.1, cell_on bx1 hHeld.2.1, cell_on bx1 hHeld.2.2.1, cell_on bx1 hHeld.2.2.2.1, cell_on bx1 hHeld.2.2.2.2.1, cell_on bx1 hHeld.2.2.2.2.2.1, cell_on bx1 hHeld.2.2.2.2.2.2.1, cell_on bx1 hHeld.2.2.2.2.2.2.2.1, cell_on bx1 hHeld.2.2.2.2.2.2.2.2.1, cell_on bx1 hHeld.2.2.2.2.2.2.2.2.2.1, cell_on bx1 hHeld.2.2.2.2.2.2.2.2.2.2.1, cell_on bx1 hHeld.2.2.2.2.2.2.2.2.2.2.2.1, cell_on bx1 hHeld.2.2.2.2.2.2.2.2.2.2.2.2.1, cell_on bx1 hHeld.2.2.2.2.2.2.2.2.2.2.2.2.2.1, cell_on bx1 hHeld.2.2.2.2.2.2.2.2.2.2.2.2.2.2.1, cell_on bx1 hHeld.2.2.2.2.2.2.2.2.2.2.2.2.2.2.2.1, also hHeld.2.2.2.2.2.2.2.2.2.2.2.2.2.2.2.2 bx1⟩
          clear hK Kc
          have zbx9 := bx9.size
          replace BB := also BB bx9
          replace x_t := x_t.on bx9
          replace x_d := x_d.on bx9
          replace x_s := x_s.on bx9
          replace x_ma := x_ma.on bx9
          replace x_mb := x_mb.on bx9
          replace x_mc := x_mc.on bx9
          replace x_md := x_md.on bx9
          refine take_yes (i := 56) (v := ?vs56) rfl (by kernel_rfl) (by kernel_rfl) (by kernel_rfl) (fun _ _ _ h => h) (by rfl) (by assumption) ?hys56 ?rests56
          case hys56 => (intro w hSw; (try dsimp only at hSw); first | (go_simp; done) | (go_simp; with_reducible rfl))
          simp only [Act.put, List.setIfInBounds_toArray, List.set_cons_zero, List.set_cons_succ]
          refine take_yes (i := 57) (v := ?vs57) rfl (by kernel_rfl) (by kernel_rfl) (by kernel_rfl) (fun _ _ _ h => h) (by rfl) (by assumption) ?hys57 ?rests57
          case hys57 => (intro w hSw; (try dsimp only at hSw); first | (go_simp; done) | (go_simp; with_reducible rfl))
          simp only [Act.put, List.setIfInBounds_toArray, List.set_cons_zero, List.set_cons_succ]
          refine wpAnyH_done (by kernel_rfl) ?_ _
          go_wp2
          go_ret
          exact ⟨rfl, BB⟩
theorem own : ownKnob Try.prog.godebug = none := by kernel_rfl
theorem cells_pt : Try.prog.cellsOf 23 = 2 := by kernel_rfl
theorem reads_pt {H : Type} (enc : TypeId × Value → H) (W : World) (bs : Nat) (sp : Nat → Bool) (hd : Bool) {a b : Int} (wa : (Lit.int .i64 a).wf = true) (wb : (Lit.int .i64 b).wf = true) : DataW.Trod enc Try.prog W bs sp hd 23 (.agg #[.int .i64 a, .int .i64 b]) (.agg [.lit (.int .i64 a), .lit (.int .i64 b)]) [] :=
  shut_agg2 (y0 := (.lit (.int .i64 a), [])) (y1 := (.lit (.int .i64 b), [])) Try.underlying23 (by kernel_rfl) cells_pt ⟨1, by simp [DataW.trod, Try.underlying2, wa]⟩ ⟨1, by simp [DataW.trod, Try.underlying2, wb]⟩
set_option maxRecDepth 100000 in
theorem lifted (os : Os) (started : os.Started) (H : Type) (enc : TypeId × Value → H) :
    ReturnsInHanded {} Try.checked os 7 .any (Rows.predMovesSpec.pre6 enc Try.prog Try.f7 Rows.predMovesRow.domain false) (Rows.predMovesSpec.post enc Try.prog Try.f7 false true false false) := by
  refine returnsInHanded_of_change (C := Try.checked) own started (by kernel_rfl) Try.func7
    (ChangeSpec.witness6 (enc := enc) (C := Try.checked) false ⟨#[], #[.agg #[.int .i64 0, .int .i64 0, .int .i64 0, .int .i64 0, .int .i64 0, .int .i64 0], .agg #[.int .i64 0, .int .i64 0], .agg #[.int .i64 0, .int .i64 0]], []⟩ 8 (by kernel_rfl) (by kernel_rfl) (by kernel_rfl) (by kernel_rfl)) ?_
  intro W base args ds gs before hval0 hW hcnd _
  have hval : ∀ (j : Nat) t v, Try.f7.params[j]? = some t → args[j]? = some v → Value.okWide Try.prog W .any base t v := hval0
  have hW' := hW
  obtain ⟨p, q, hA0, hV, rfl, hfz, hnd⟩ := hW
  have hA : DataW.TrodAll enc Try.prog W 0 (fun _ => true) true Try.f7.params.toList args.toList ds p := hA0
  rw [Try.params7] at hA hval
  obtain ⟨v0, vs0, d0, ds0, p0, q0, hargs, rfl, rfl, h0, r0⟩ := trodAll_cons hA
  obtain ⟨v1, vs1, d1, ds1, p1, q1, rfl, rfl, rfl, h1, r1⟩ := trodAll_cons r0
  obtain ⟨v2, vs2, d2, ds2, p2, q2, rfl, rfl, rfl, h2, r2⟩ := trodAll_cons r1
  obtain ⟨rfl, rfl, rfl⟩ := trodAll_nil r2
  obtain rfl : args = #[v0, v1, v2] := by cases args; simp_all
  obtain ⟨rfl, rfl⟩ := trodVars_none hV
  obtain ⟨a0_0, a0_1, a0_2, a0_3, a0_4, a0_5, rfl, rfl, rfl, w0_0, w0_1, w0_2, w0_3, w0_4, w0_5⟩ := open_pt3 (hval 0 41 v0 rfl rfl) h0
  obtain ⟨x1, y1, g1, k1, m1, rfl, rfl, rfl, hx1, hy1⟩ := open_agg2 Try.underlying23 (by kernel_rfl) cells_pt (hval 1 23 v1 rfl rfl) h1
  obtain ⟨a1, ex1, rfl, wa1⟩ := DataW.trod_int Try.underlying2 hx1
  obtain ⟨b1, ey1, rfl, wb1⟩ := DataW.trod_int Try.underlying2 hy1
  simp at ex1 ey1
  subst ex1 ey1
  obtain ⟨x2, y2, g2, k2, m2, rfl, rfl, rfl, hx2, hy2⟩ := open_agg2 Try.underlying23 (by kernel_rfl) cells_pt (hval 2 23 v2 rfl rfl) h2
  obtain ⟨a2, ex2, rfl, wa2⟩ := DataW.trod_int Try.underlying2 hx2
  obtain ⟨b2, ey2, rfl, wb2⟩ := DataW.trod_int Try.underlying2 hy2
  simp at ex2 ey2
  subst ex2 ey2
  clear hA0 hval0
  have hwalk := walk a0_0 a0_1 (bd_i64 w0_0).1 (bd_i64 w0_0).2 (bd_i64 w0_1).1 (bd_i64 w0_1).2 a0_2 a0_3 (bd_i64 w0_2).1 (bd_i64 w0_2).2 (bd_i64 w0_3).1 (bd_i64 w0_3).2 a0_4 a0_5 (bd_i64 w0_4).1 (bd_i64 w0_4).2 (bd_i64 w0_5).1 (bd_i64 w0_5).2 a1 b1 (bd_i64 wa1).1 (bd_i64 wa1).2 (bd_i64 wb1).1 (bd_i64 wb1).2 a2 b2 (bd_i64 wa2).1 (bd_i64 wa2).2 (bd_i64 wb2).1 (bd_i64 wb2).2 W
  refine hwalk.mono fun e W' ⟨he, bel⟩ => ?_
  subst he
  exact ⟨_, rfl, _, _, _, [], _, [], hW', trodAll_mk1 (shut_bool Try.underlying4 _), (trodAll_cons_mk (shut_pt3 w0_0 w0_1 w0_2 w0_3 w0_4 w0_5) (trodAll_cons_mk (reads_pt enc _ _ _ _ wa1 wb1) (trodAll_cons_mk (reads_pt enc _ _ _ _ wa2 wb2) trodAll_mk0))), rfl, bel.frame _, fun h => by cases h⟩

/-- The statement. -/
theorem proved : Rows.PredMovesSaid :=
  OpenClaim.holds_of_wide 7 Try.f7 rfl rfl rfl rfl rfl rfl rfl ⟨rfl, rfl, rfl, rfl, rfl⟩ rfl rfl rfl rfl rfl (by kernel_rfl) Try.func7 (by kernel_rfl)
    (of_decide_eq_true (by kernel_rfl)) (by unfold Func.isWrapper; first | (rw [if_pos (by decide +kernel)]; kernel_rfl) | (rw [if_neg (by decide +kernel)]; exact ⟨rfl, rfl⟩))
    (fun os started H enc _ => lifted os started H enc)
#print axioms proved
end pmoves
end Go.Proofs.Ytlelbhiebmdnoaa
