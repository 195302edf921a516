/-
  LiftHomes: where any point is in the first square, and that it comes back from there.
-/
import Derived.Test.YtnhoaopmnoilbaaChecked
import Derived.Test.YtnhoaopmnoilbaaRows
import Derived.Test.YtnhoaopmnoilbaaP3
import Derived.Test.YtnhoaopmnoilbaaP6
import Derived.Deep.RegionHeld3
import Derived.ProofKit
import Derived.OpenShut
import Derived.Lib.SmallJoins
namespace Go.Proofs.Ytnhoaopmnoilbaa
open Go.RowKit
set_option linter.unusedVariables false

namespace lhomes
open Go.ChangeShapes Go.WideShapes Go.ChangeAt Go.Joins
theorem home_back {x y s : Int} (h : homeC x y s = true) : atC (x % s) (y % s) (x / s) (y / s) s = true ∧ x % s + x / s * s = x ∧ y % s + y / s * s = y ∧ (0 ≤ x % s ∧ x % s < s) ∧ (0 ≤ y % s ∧ y % s < s) := by
  have h' := h
  unfold homeC at h'
  rw [Bool.and_eq_true_iff] at h'
  obtain ⟨hs, hc⟩ := h'
  obtain ⟨c1, c2⟩ := canC_true.1 hc
  obtain ⟨a1, a2, a3, a4, a5⟩ := fold_bound hs c1
  obtain ⟨b1, b2, b3, b4, _⟩ := fold_bound hs c2
  have e1 : x % s + x / s * s = x := by have := Int.mul_ediv_add_emod x s; rw [Int.mul_comm] at this; omega
  have e2 : y % s + y / s * s = y := by have := Int.mul_ediv_add_emod y s; rw [Int.mul_comm] at this; omega
  refine ⟨atC_true.2 ⟨hs, canC_true.2 ⟨inC_true.2 (by omega), inC_true.2 (by omega)⟩, ?_, ?_⟩, e1, e2, ⟨a3, a4⟩, ⟨b3, b4⟩⟩
  · rw [e1]; exact c1
  · rw [e2]; exact c2
set_option maxRecDepth 100000 in
set_option maxHeartbeats 8000000 in
theorem walk (x y : Int) (hx1 : -9223372036854775808 ≤ x) (hx2 : x ≤ 9223372036854775807) (hy1 : -9223372036854775808 ≤ y) (hy2 : y ≤ 9223372036854775807) (s : Int) (hs1 : -9223372036854775808 ≤ s) (hs2 : s ≤ 9223372036854775807) (w : World) :
    Calls Try.prog 4 #[.agg #[.int .i64 x, .int .i64 y], .int .i64 s] w fun e w' => e = .returned (.bool true) ∧ Below w.heap.size w w' := by
  have Bx : Hid (-9223372036854775808 ≤ x ∧ x ≤ 9223372036854775807) := ⟨hx1, hx2⟩
  have By : Hid (-9223372036854775808 ≤ y ∧ y ≤ 9223372036854775807) := ⟨hy1, hy2⟩
  have Bs : Hid (-9223372036854775808 ≤ s ∧ s ≤ 9223372036854775807) := ⟨hs1, hs2⟩
  clear hx1 hx2 hy1 hy2 hs1 hs2
  cases hh : homeC x y s
  · skip
    obtain ⟨W, hW, bW, x_p, sW⟩ := bs_2 w (.int .i64 x) (.int .i64 y) 23
    have zbW := bW.size
    have BB := bW
    go_enter Try.func4, Try.ntmps4
    go_wp2_with (go_at_call 13; fail)
    rw [← hW]
    clear hW
    refine (lHome x y s W hh.symm rfl rfl rfl rfl).mono ?_
    rintro e w1 ⟨rfl, bw1⟩
    have zbw1 := bw1.size
    replace BB := also BB bw1
    replace x_p := x_p.on bw1
    obtain ⟨V1, hV1, bV1, x_q, x_o, sV1⟩ := bs_22 w1 (.int .i64 0) (.int .i64 0) (.int .i64 0) (.int .i64 0) 23 25
    have zbV1 := bV1.size
    replace BB := also BB bV1
    replace x_p := x_p.on bV1
    have st_p_0 : ((w1.alloc (.cells #[.int .i64 0, .int .i64 0] 23)).alloc (.cells #[.int .i64 0, .int .i64 0] 25)).cell? ⟨w.heap.size, 0, none⟩ = some (.int .i64 x) := by rw [← hV1]; exact x_p.c0
    have st_p_1 : ((w1.alloc (.cells #[.int .i64 0, .int .i64 0] 23)).alloc (.cells #[.int .i64 0, .int .i64 0] 25)).cell? ⟨w.heap.size, 1, none⟩ = some (.int .i64 y) := by rw [← hV1]; exact x_p.c1
    have sf_p_0 : ((w1.alloc (.cells #[.int .i64 0, .int .i64 0] 23)).alloc (.cells #[.int .i64 0, .int .i64 0] 25)).frozen? ⟨w.heap.size, 0, none⟩ = false := by rw [← hV1]; exact x_p.f0
    have sf_p_1 : ((w1.alloc (.cells #[.int .i64 0, .int .i64 0] 23)).alloc (.cells #[.int .i64 0, .int .i64 0] 25)).frozen? ⟨w.heap.size, 1, none⟩ = false := by rw [← hV1]; exact x_p.f1
    go_wp2_with (go_at_call 14; fail)
    rw [← hV1]
    clear hV1 st_p_0 st_p_1 sf_p_0 sf_p_1
    refine (rlHome x y s V1 Bx By Bs hh.symm rfl rfl rfl rfl).mono ?_
    rintro e w2 ⟨rfl, bw2⟩
    have zbw2 := bw2.size
    replace BB := also BB bw2
    replace x_p := x_p.on bw2
    replace x_q := x_q.on bw2
    replace x_o := x_o.on bw2
    obtain ⟨V2, hV2, bV2, x_r, x_t, sV2⟩ := bs_22 w2 (.int .i64 0) (.int .i64 0) (.int .i64 0) (.int .i64 0) 23 25
    have zbV2 := bV2.size
    replace BB := also BB bV2
    replace x_p := x_p.on bV2
    replace x_q := x_q.on bV2
    replace x_o := x_o.on bV2
    have st_q_0 : ((w2.alloc (.cells #[.int .i64 0, .int .i64 0] 23)).alloc (.cells #[.int .i64 0, .int .i64 0] 25)).cell? ⟨w1.heap.size, 0, none⟩ = some (.int .i64 0) := by rw [← hV2]; exact x_q.c0
    have st_q_1 : ((w2.alloc (.cells #[.int .i64 0, .int .i64 0] 23)).alloc (.cells #[.int .i64 0, .int .i64 0] 25)).cell? ⟨w1.heap.size, 1, none⟩ = some (.int .i64 0) := by rw [← hV2]; exact x_q.c1
    have sf_q_0 : ((w2.alloc (.cells #[.int .i64 0, .int .i64 0] 23)).alloc (.cells #[.int .i64 0, .int .i64 0] 25)).frozen? ⟨w1.heap.size, 0, none⟩ = false := by rw [← hV2]; exact x_q.f0
    have sf_q_1 : ((w2.alloc (.cells #[.int .i64 0, .int .i64 0] 23)).alloc (.cells #[.int .i64 0, .int .i64 0] 25)).frozen? ⟨w1.heap.size, 1, none⟩ = false := by rw [← hV2]; exact x_q.f1
    have st_o_0 : ((w2.alloc (.cells #[.int .i64 0, .int .i64 0] 23)).alloc (.cells #[.int .i64 0, .int .i64 0] 25)).cell? ⟨w1.heap.size + 1, 0, none⟩ = some (.int .i64 0) := by rw [← hV2]; exact x_o.c0
    have st_o_1 : ((w2.alloc (.cells #[.int .i64 0, .int .i64 0] 23)).alloc (.cells #[.int .i64 0, .int .i64 0] 25)).cell? ⟨w1.heap.size + 1, 1, none⟩ = some (.int .i64 0) := by rw [← hV2]; exact x_o.c1
    have sf_o_0 : ((w2.alloc (.cells #[.int .i64 0, .int .i64 0] 23)).alloc (.cells #[.int .i64 0, .int .i64 0] 25)).frozen? ⟨w1.heap.size + 1, 0, none⟩ = false := by rw [← hV2]; exact x_o.f0
    have sf_o_1 : ((w2.alloc (.cells #[.int .i64 0, .int .i64 0] 23)).alloc (.cells #[.int .i64 0, .int .i64 0] 25)).frozen? ⟨w1.heap.size + 1, 1, none⟩ = false := by rw [← hV2]; exact x_o.f1
    go_wp2_with (go_at_call 12; fail)
    rw [← hV2]
    clear hV2 st_q_0 st_q_1 sf_q_0 sf_q_1 st_o_0 st_o_1 sf_o_0 sf_o_1
    refine (lives6_any V2).mono ?_
    rintro e w4 ⟨rfl, bw4⟩
    have zbw4 := bw4.size
    replace BB := also BB bw4
    replace x_p := x_p.on bw4
    replace x_q := x_q.on bw4
    replace x_o := x_o.on bw4
    replace x_r := x_r.on bw4
    replace x_t := x_t.on bw4
    go_wp2
    go_ret
    exact ⟨rfl, BB⟩
  · skip
    obtain ⟨e1, e2, e3, e4, e5⟩ := home_back hh
    obtain ⟨a, ha⟩ : ∃ a : Int, a = x % s := ⟨_, rfl⟩
    rw [← ha] at e1 e2 e4
    have Ha : Hid (a = if true then x % s else 0) := ha
    clear ha
    obtain ⟨c, hc⟩ : ∃ c : Int, c = y % s := ⟨_, rfl⟩
    rw [← hc] at e1 e3 e5
    have Hc : Hid (c = if true then y % s else 0) := hc
    clear hc
    obtain ⟨p, hp⟩ : ∃ p : Int, p = x / s := ⟨_, rfl⟩
    rw [← hp] at e1 e2
    have Hp : Hid (p = if true then x / s else 0) := hp
    clear hp
    obtain ⟨q, hq⟩ : ∃ q : Int, q = y / s := ⟨_, rfl⟩
    rw [← hq] at e1 e3
    have Hq : Hid (q = if true then y / s else 0) := hq
    clear hq
    have E1 : Hid _ := e1
    have E2 : Hid (x = if true then a + p * s else 0) := e2.symm
    have E3 : Hid (y = if true then c + q * s else 0) := e3.symm
    obtain ⟨a1, a2⟩ := e4
    obtain ⟨c1, c2⟩ := e5
    clear e1 e2 e3
    obtain ⟨W, hW, bW, x_p, sW⟩ := bs_2 w (.int .i64 x) (.int .i64 y) 23
    have zbW := bW.size
    have BB := bW
    go_enter Try.func4, Try.ntmps4
    go_wp2_with (go_at_call 13; fail)
    rw [← hW]
    clear hW
    refine (lHome x y s W hh.symm Ha.out Hc.out Hp.out Hq.out).mono ?_
    rintro e w1 ⟨rfl, bw1⟩
    have zbw1 := bw1.size
    replace BB := also BB bw1
    replace x_p := x_p.on bw1
    obtain ⟨V1, hV1, bV1, x_q, x_o, sV1⟩ := bs_22 w1 (.int .i64 a) (.int .i64 c) (.int .i64 p) (.int .i64 q) 23 25
    have zbV1 := bV1.size
    replace BB := also BB bV1
    replace x_p := x_p.on bV1
    have st_p_0 : ((w1.alloc (.cells #[.int .i64 a, .int .i64 c] 23)).alloc (.cells #[.int .i64 p, .int .i64 q] 25)).cell? ⟨w.heap.size, 0, none⟩ = some (.int .i64 x) := by rw [← hV1]; exact x_p.c0
    have st_p_1 : ((w1.alloc (.cells #[.int .i64 a, .int .i64 c] 23)).alloc (.cells #[.int .i64 p, .int .i64 q] 25)).cell? ⟨w.heap.size, 1, none⟩ = some (.int .i64 y) := by rw [← hV1]; exact x_p.c1
    have sf_p_0 : ((w1.alloc (.cells #[.int .i64 a, .int .i64 c] 23)).alloc (.cells #[.int .i64 p, .int .i64 q] 25)).frozen? ⟨w.heap.size, 0, none⟩ = false := by rw [← hV1]; exact x_p.f0
    have sf_p_1 : ((w1.alloc (.cells #[.int .i64 a, .int .i64 c] 23)).alloc (.cells #[.int .i64 p, .int .i64 q] 25)).frozen? ⟨w.heap.size, 1, none⟩ = false := by rw [← hV1]; exact x_p.f1
    go_wp2_with (go_at_call 14; fail)
    rw [← hV1]
    clear hV1 st_p_0 st_p_1 sf_p_0 sf_p_1
    refine (rlHome x y s V1 Bx By Bs hh.symm Ha.out Hc.out Hp.out Hq.out).mono ?_
    rintro e w2 ⟨rfl, bw2⟩
    have zbw2 := bw2.size
    replace BB := also BB bw2
    replace x_p := x_p.on bw2
    replace x_q := x_q.on bw2
    replace x_o := x_o.on bw2
    obtain ⟨V2, hV2, bV2, x_r, x_t, sV2⟩ := bs_22 w2 (.int .i64 a) (.int .i64 c) (.int .i64 p) (.int .i64 q) 23 25
    have zbV2 := bV2.size
    replace BB := also BB bV2
    replace x_p := x_p.on bV2
    replace x_q := x_q.on bV2
    replace x_o := x_o.on bV2
    have st_q_0 : ((w2.alloc (.cells #[.int .i64 a, .int .i64 c] 23)).alloc (.cells #[.int .i64 p, .int .i64 q] 25)).cell? ⟨w1.heap.size, 0, none⟩ = some (.int .i64 a) := by rw [← hV2]; exact x_q.c0
    have st_q_1 : ((w2.alloc (.cells #[.int .i64 a, .int .i64 c] 23)).alloc (.cells #[.int .i64 p, .int .i64 q] 25)).cell? ⟨w1.heap.size, 1, none⟩ = some (.int .i64 c) := by rw [← hV2]; exact x_q.c1
    have sf_q_0 : ((w2.alloc (.cells #[.int .i64 a, .int .i64 c] 23)).alloc (.cells #[.int .i64 p, .int .i64 q] 25)).frozen? ⟨w1.heap.size, 0, none⟩ = false := by rw [← hV2]; exact x_q.f0
    have sf_q_1 : ((w2.alloc (.cells #[.int .i64 a, .int .i64 c] 23)).alloc (.cells #[.int .i64 p, .int .i64 q] 25)).frozen? ⟨w1.heap.size, 1, none⟩ = false := by rw [← hV2]; exact x_q.f1
    have st_o_0 : ((w2.alloc (.cells #[.int .i64 a, .int .i64 c] 23)).alloc (.cells #[.int .i64 p, .int .i64 q] 25)).cell? ⟨w1.heap.size + 1, 0, none⟩ = some (.int .i64 p) := by rw [← hV2]; exact x_o.c0
    have st_o_1 : ((w2.alloc (.cells #[.int .i64 a, .int .i64 c] 23)).alloc (.cells #[.int .i64 p, .int .i64 q] 25)).cell? ⟨w1.heap.size + 1, 1, none⟩ = some (.int .i64 q) := by rw [← hV2]; exact x_o.c1
    have sf_o_0 : ((w2.alloc (.cells #[.int .i64 a, .int .i64 c] 23)).alloc (.cells #[.int .i64 p, .int .i64 q] 25)).frozen? ⟨w1.heap.size + 1, 0, none⟩ = false := by rw [← hV2]; exact x_o.f0
    have sf_o_1 : ((w2.alloc (.cells #[.int .i64 a, .int .i64 c] 23)).alloc (.cells #[.int .i64 p, .int .i64 q] 25)).frozen? ⟨w1.heap.size + 1, 1, none⟩ = false := by rw [← hV2]; exact x_o.f1
    go_wp2_with (go_at_call 8; fail)
    rw [← hV2]
    clear hV2 st_q_0 st_q_1 sf_q_0 sf_q_1 st_o_0 st_o_1 sf_o_0 sf_o_1
    refine (lAt a c p q s V2 E1.out.symm E2.out E3.out).mono ?_
    rintro e w3 ⟨rfl, bw3⟩
    have zbw3 := bw3.size
    replace BB := also BB bw3
    replace x_p := x_p.on bw3
    replace x_q := x_q.on bw3
    replace x_o := x_o.on bw3
    replace x_r := x_r.on bw3
    replace x_t := x_t.on bw3
    obtain ⟨V3, hV3, bV3, x_b, sV3⟩ := bs_2 w3 (.int .i64 x) (.int .i64 y) 23
    have zbV3 := bV3.size
    replace BB := also BB bV3
    replace x_p := x_p.on bV3
    replace x_q := x_q.on bV3
    replace x_o := x_o.on bV3
    replace x_r := x_r.on bV3
    replace x_t := x_t.on bV3
    have st_p_0 : (w3.alloc (.cells #[.int .i64 x, .int .i64 y] 23)).cell? ⟨w.heap.size, 0, none⟩ = some (.int .i64 x) := by rw [← hV3]; exact x_p.c0
    have st_p_1 : (w3.alloc (.cells #[.int .i64 x, .int .i64 y] 23)).cell? ⟨w.heap.size, 1, none⟩ = some (.int .i64 y) := by rw [← hV3]; exact x_p.c1
    have sf_p_0 : (w3.alloc (.cells #[.int .i64 x, .int .i64 y] 23)).frozen? ⟨w.heap.size, 0, none⟩ = false := by rw [← hV3]; exact x_p.f0
    have sf_p_1 : (w3.alloc (.cells #[.int .i64 x, .int .i64 y] 23)).frozen? ⟨w.heap.size, 1, none⟩ = false := by rw [← hV3]; exact x_p.f1
    have st_q_0 : (w3.alloc (.cells #[.int .i64 x, .int .i64 y] 23)).cell? ⟨w1.heap.size, 0, none⟩ = some (.int .i64 a) := by rw [← hV3]; exact x_q.c0
    have st_q_1 : (w3.alloc (.cells #[.int .i64 x, .int .i64 y] 23)).cell? ⟨w1.heap.size, 1, none⟩ = some (.int .i64 c) := by rw [← hV3]; exact x_q.c1
    have sf_q_0 : (w3.alloc (.cells #[.int .i64 x, .int .i64 y] 23)).frozen? ⟨w1.heap.size, 0, none⟩ = false := by rw [← hV3]; exact x_q.f0
    have sf_q_1 : (w3.alloc (.cells #[.int .i64 x, .int .i64 y] 23)).frozen? ⟨w1.heap.size, 1, none⟩ = false := by rw [← hV3]; exact x_q.f1
    go_wp2_with (go_at_call 12; fail)
    rw [← hV3]
    clear hV3 st_p_0 st_p_1 sf_p_0 sf_p_1 st_q_0 st_q_1 sf_q_0 sf_q_1
    refine (lives6_any V3).mono ?_
    rintro e w4 ⟨rfl, bw4⟩
    have zbw4 := bw4.size
    replace BB := also BB bw4
    replace x_p := x_p.on bw4
    replace x_q := x_q.on bw4
    replace x_o := x_o.on bw4
    replace x_r := x_r.on bw4
    replace x_t := x_t.on bw4
    replace x_b := x_b.on bw4
    go_wp2
    go_ret
    exact ⟨rfl, BB⟩
theorem own : ownKnob Try.prog.godebug = none := by kernel_rfl
theorem cells_pt : Try.prog.cellsOf 23 = 2 := by kernel_rfl
theorem reads_pt {H : Type} (enc : TypeId × Value → H) (W : World) (bs : Nat) (sp : Nat → Bool) (hd : Bool) {a b : Int} (wa : (Lit.int .i64 a).wf = true) (wb : (Lit.int .i64 b).wf = true) : DataW.Trod enc Try.prog W bs sp hd 23 (.agg #[.int .i64 a, .int .i64 b]) (.agg [.lit (.int .i64 a), .lit (.int .i64 b)]) [] :=
  shut_agg2 (y0 := (.lit (.int .i64 a), [])) (y1 := (.lit (.int .i64 b), [])) Try.underlying23 (by kernel_rfl) cells_pt ⟨1, by simp [DataW.trod, Try.underlying2, wa]⟩ ⟨1, by simp [DataW.trod, Try.underlying2, wb]⟩
set_option maxRecDepth 100000 in
theorem lifted (os : Os) (started : os.Started) (H : Type) (enc : TypeId × Value → H) :
    ReturnsInHanded {} Try.checked os 4 .any (Rows.liftHomesSpec.pre6 enc Try.prog Try.f4 Rows.liftHomesRow.domain false) (Rows.liftHomesSpec.post enc Try.prog Try.f4 false true false false) := by
  refine returnsInHanded_of_change (C := Try.checked) own started (by kernel_rfl) Try.func4
    (ChangeSpec.witness6 (enc := enc) (C := Try.checked) false ⟨#[], #[.agg #[.int .i64 0, .int .i64 0], .int .i64 0], []⟩ 8 (by kernel_rfl) (by kernel_rfl) (by kernel_rfl) (by kernel_rfl)) ?_
  intro W base args ds gs before hval0 hW hcnd _
  have hval : ∀ (j : Nat) t v, Try.f4.params[j]? = some t → args[j]? = some v → Value.okWide Try.prog W .any base t v := hval0
  have hW' := hW
  obtain ⟨p, q, hA0, hV, rfl, hfz, hnd⟩ := hW
  have hA : DataW.TrodAll enc Try.prog W 0 (fun _ => true) true Try.f4.params.toList args.toList ds p := hA0
  rw [Try.params4] at hA hval
  obtain ⟨v0, vs0, d0, ds0, p0, q0, hargs, rfl, rfl, h0, r0⟩ := trodAll_cons hA
  obtain ⟨v1, vs1, d1, ds1, p1, q1, rfl, rfl, rfl, h1, r1⟩ := trodAll_cons r0
  obtain ⟨rfl, rfl, rfl⟩ := trodAll_nil r1
  obtain rfl : args = #[v0, v1] := by cases args; simp_all
  obtain ⟨rfl, rfl⟩ := trodVars_none hV
  obtain ⟨x0, y0, g0, k0, m0, rfl, rfl, rfl, hx0, hy0⟩ := open_agg2 Try.underlying23 (by kernel_rfl) cells_pt (hval 0 23 v0 rfl rfl) h0
  obtain ⟨a0, ex0, rfl, wa0⟩ := DataW.trod_int Try.underlying2 hx0
  obtain ⟨b0, ey0, rfl, wb0⟩ := DataW.trod_int Try.underlying2 hy0
  simp at ex0 ey0
  subst ex0 ey0
  obtain ⟨a1, rfl, rfl, rfl, w1⟩ := open_int Try.underlying2 (hval 1 2 v1 rfl rfl) h1
  clear hA0 hval0
  have hwalk := walk a0 b0 (bd_i64 wa0).1 (bd_i64 wa0).2 (bd_i64 wb0).1 (bd_i64 wb0).2 a1 (bd_i64 w1).1 (bd_i64 w1).2 W
  refine hwalk.mono fun e W' ⟨he, bel⟩ => ?_
  subst he
  exact ⟨_, rfl, _, _, _, [], _, [], hW', trodAll_mk1 (shut_bool Try.underlying4 _), (trodAll_cons_mk (reads_pt enc _ _ _ _ wa0 wb0) (trodAll_cons_mk (shut_int Try.underlying2 w1) trodAll_mk0)), rfl, bel.frame _, fun h => by cases h⟩

/-- The statement. -/
theorem proved : Rows.LiftHomesSaid :=
  OpenClaim.holds_of_wide 4 Try.f4 rfl rfl rfl rfl rfl rfl rfl ⟨rfl, rfl, rfl, rfl, rfl⟩ rfl rfl rfl rfl rfl (by kernel_rfl) Try.func4 (by kernel_rfl)
    (of_decide_eq_true (by kernel_rfl)) (by unfold Func.isWrapper; first | (rw [if_pos (by decide +kernel)]; kernel_rfl) | (rw [if_neg (by decide +kernel)]; exact ⟨rfl, rfl⟩))
    (fun os started H enc _ => lifted os started H enc)
#print axioms proved
end lhomes
end Go.Proofs.Ytnhoaopmnoilbaa
