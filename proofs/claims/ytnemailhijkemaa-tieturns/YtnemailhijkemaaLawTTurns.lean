/-
  TieTurns: it does not hang on which corner is told first.
-/
import Derived.Test.YtnemailhijkemaaChecked
import Derived.Test.YtnemailhijkemaaRows
import Derived.Test.YtnemailhijkemaaP15
import Derived.Test.YtnemailhijkemaaP7
import Derived.Deep.RegionHeld3
import Derived.ProofKit
import Derived.OpenShut
import Derived.Lib.SmallJoins
namespace Go.Proofs.Ytnemailhijkemaa
open Go.RowKit
set_option linter.unusedVariables false

namespace tturns
open Go.ChangeShapes Go.WideShapes Go.ChangeAt Go.Joins
set_option maxRecDepth 100000 in
set_option maxHeartbeats 20000000 in
theorem walk (a1 a2 : Int) (ha1_1 : -9223372036854775808 ≤ a1) (ha1_2 : a1 ≤ 9223372036854775807) (ha2_1 : -9223372036854775808 ≤ a2) (ha2_2 : a2 ≤ 9223372036854775807) (b1 b2 : Int) (hb1_1 : -9223372036854775808 ≤ b1) (hb1_2 : b1 ≤ 9223372036854775807) (hb2_1 : -9223372036854775808 ≤ b2) (hb2_2 : b2 ≤ 9223372036854775807) (c1 c2 : Int) (hc1_1 : -9223372036854775808 ≤ c1) (hc1_2 : c1 ≤ 9223372036854775807) (hc2_1 : -9223372036854775808 ≤ c2) (hc2_2 : c2 ≤ 9223372036854775807) (d1 d2 : Int) (hd1_1 : -9223372036854775808 ≤ d1) (hd1_2 : d1 ≤ 9223372036854775807) (hd2_1 : -9223372036854775808 ≤ d2) (hd2_2 : d2 ≤ 9223372036854775807) (w : World) :
    Calls Try.prog 4 #[.agg #[.int .i64 a1, .int .i64 a2, .int .i64 b1, .int .i64 b2, .int .i64 c1, .int .i64 c2], .agg #[.int .i64 d1, .int .i64 d2]] w fun e w' => e = .returned (.bool true) ∧ Below w.heap.size w w' := by
  clear ha1_1 ha1_2 ha2_1 ha2_2 hb1_1 hb1_2 hb2_1 hb2_2 hc1_1 hc1_2 hc2_1 hc2_2 hd1_1 hd1_2 hd2_1 hd2_2
  obtain ⟨n, hn⟩ : ∃ n, n = cfQ (a1, a2) (b1, b2) (c1, c2) (d1, d2) := ⟨_, rfl⟩
  have N1 : Hid (n = cfQ (b1, b2) (c1, c2) (a1, a2) (d1, d2)) := by unfold Hid; rw [cf_turn]; exact hn
  have N2 : Hid (n = cfQ (c1, c2) (a1, a2) (b1, b2) (d1, d2)) := by unfold Hid; rw [cf_turn, cf_turn]; exact hn
  have N0 : Hid _ := hn
  clear hn
  obtain ⟨W, hW, bW, x_t, x_d, sW⟩ := bs_62 w (.int .i64 a1) (.int .i64 a2) (.int .i64 b1) (.int .i64 b2) (.int .i64 c1) (.int .i64 c2) (.int .i64 d1) (.int .i64 d2) 24 23
  have zbW := bW.size
  have BB := bW
  go_enter Try.func4, Try.ntmps4
  go_wp2_with (go_at_call 8; fail)
  rw [← hW]
  clear hW
  refine (tConflict a1 a2 b1 b2 c1 c2 d1 d2 W N0.out).mono ?_
  rintro e w0 ⟨rfl, bw0⟩
  have zbw0 := bw0.size
  replace BB := also BB bw0
  replace x_t := x_t.on bw0
  replace x_d := x_d.on bw0
  have ⟨x_t_0, x_t_1, x_t_2, x_t_3, x_t_4, x_t_5, x_t_6, x_t_7, x_t_8, x_t_9, x_t_10, x_t_11⟩ := x_t
  have ⟨x_d_0, x_d_1, x_d_2, x_d_3⟩ := x_d
  go_wp2_with (go_at_call 8; fail)
  refine (tConflict b1 b2 c1 c2 a1 a2 d1 d2 w0 N1.out).mono ?_
  rintro e w1 ⟨rfl, bw1⟩
  clear x_t_0 x_t_1 x_t_2 x_t_3 x_t_4 x_t_5 x_t_6 x_t_7 x_t_8 x_t_9 x_t_10 x_t_11 x_d_0 x_d_1 x_d_2 x_d_3
  have zbw1 := bw1.size
  replace BB := also BB bw1
  replace x_t := x_t.on bw1
  replace x_d := x_d.on bw1
  have ⟨x_t_0, x_t_1, x_t_2, x_t_3, x_t_4, x_t_5, x_t_6, x_t_7, x_t_8, x_t_9, x_t_10, x_t_11⟩ := x_t
  have ⟨x_d_0, x_d_1, x_d_2, x_d_3⟩ := x_d
  go_wp2_with (go_at_call 8; fail)
  refine (tConflict c1 c2 a1 a2 b1 b2 d1 d2 w1 N2.out).mono ?_
  rintro e w2 ⟨rfl, bw2⟩
  clear x_t_0 x_t_1 x_t_2 x_t_3 x_t_4 x_t_5 x_t_6 x_t_7 x_t_8 x_t_9 x_t_10 x_t_11 x_d_0 x_d_1 x_d_2 x_d_3
  have zbw2 := bw2.size
  replace BB := also BB bw2
  replace x_t := x_t.on bw2
  replace x_d := x_d.on bw2
  have ⟨x_t_0, x_t_1, x_t_2, x_t_3, x_t_4, x_t_5, x_t_6, x_t_7, x_t_8, x_t_9, x_t_10, x_t_11⟩ := x_t
  have ⟨x_d_0, x_d_1, x_d_2, x_d_3⟩ := x_d
  go_wp2_with (go_at_call 10; fail)
  refine (lives8_any w2).mono ?_
  rintro e w9 ⟨rfl, bw9⟩
  clear x_t_0 x_t_1 x_t_2 x_t_3 x_t_4 x_t_5 x_t_6 x_t_7 x_t_8 x_t_9 x_t_10 x_t_11 x_d_0 x_d_1 x_d_2 x_d_3
  have zbw9 := bw9.size
  replace BB := also BB bw9
  replace x_t := x_t.on bw9
  replace x_d := x_d.on bw9
  go_wp2
  go_ret
  exact ⟨rfl, BB⟩
theorem own : ownKnob Try.prog.godebug = none := by kernel_rfl
theorem cells_pt : Try.prog.cellsOf 23 = 2 := by kernel_rfl
theorem reads_pt {H : Type} (enc : TypeId × Value → H) (W : World) (bs : Nat) (sp : Nat → Bool) (hd : Bool) {a b : Int} (wa : (Lit.int .i64 a).wf = true) (wb : (Lit.int .i64 b).wf = true) : DataW.Trod enc Try.prog W bs sp hd 23 (.agg #[.int .i64 a, .int .i64 b]) (.agg [.lit (.int .i64 a), .lit (.int .i64 b)]) [] :=
  shut_agg2 (y0 := (.lit (.int .i64 a), [])) (y1 := (.lit (.int .i64 b), [])) Try.underlying23 (by kernel_rfl) cells_pt ⟨1, by simp [DataW.trod, Try.underlying2, wa]⟩ ⟨1, by simp [DataW.trod, Try.underlying2, wb]⟩
set_option maxRecDepth 100000 in
theorem lifted (os : Os) (started : os.Started) (H : Type) (enc : TypeId × Value → H) :
    ReturnsInHanded {} Try.checked os 4 .any (Rows.tieTurnsSpec.pre6 enc Try.prog Try.f4 Rows.tieTurnsRow.domain false) (Rows.tieTurnsSpec.post enc Try.prog Try.f4 false true false false) := by
  refine returnsInHanded_of_change (C := Try.checked) own started (by kernel_rfl) Try.func4
    (ChangeSpec.witness6 (enc := enc) (C := Try.checked) false ⟨#[], #[.agg #[.int .i64 0, .int .i64 0, .int .i64 0, .int .i64 0, .int .i64 0, .int .i64 0], .agg #[.int .i64 0, .int .i64 0]], []⟩ 8 (by kernel_rfl) (by kernel_rfl) (by kernel_rfl) (by kernel_rfl)) ?_
  intro W base args ds gs before hval0 hW hcnd _
  have hval : ∀ (j : Nat) t v, Try.f4.params[j]? = some t → args[j]? = some v → Value.okWide Try.prog W .any base t v := hval0
  have hW' := hW
  obtain ⟨p, q, hA0, hV, rfl, hfz, hnd⟩ := hW
  have hA : DataW.TrodAll enc Try.prog W 0 (fun _ => true) true Try.f4.params.toList args.toList ds p := hA0
  rw [Try.params4] at hA hval
  obtain ⟨v0, vs0, d0, ds0, p0, q0, hargs, rfl, rfl, h0, r0⟩ := trodAll_cons hA
  obtain ⟨v1, vs1, d1, ds1, p1, q1, rfl, rfl, rfl, h1, r1⟩ := trodAll_cons r0
  obtain ⟨rfl, rfl, rfl⟩ := trodAll_nil r1
  obtain rfl : args = #[v0, v1] := by cases args; simp_all
  obtain ⟨rfl, rfl⟩ := trodVars_none hV
  obtain ⟨a0_0, a0_1, a0_2, a0_3, a0_4, a0_5, rfl, rfl, rfl, w0_0, w0_1, w0_2, w0_3, w0_4, w0_5⟩ := open_pt3 (hval 0 24 v0 rfl rfl) h0
  obtain ⟨x1, y1, g1, k1, m1, rfl, rfl, rfl, hx1, hy1⟩ := open_agg2 Try.underlying23 (by kernel_rfl) cells_pt (hval 1 23 v1 rfl rfl) h1
  obtain ⟨a1, ex1, rfl, wa1⟩ := DataW.trod_int Try.underlying2 hx1
  obtain ⟨b1, ey1, rfl, wb1⟩ := DataW.trod_int Try.underlying2 hy1
  simp at ex1 ey1
  subst ex1 ey1
  clear hA0 hval0
  have hwalk := walk a0_0 a0_1 (bd_i64 w0_0).1 (bd_i64 w0_0).2 (bd_i64 w0_1).1 (bd_i64 w0_1).2 a0_2 a0_3 (bd_i64 w0_2).1 (bd_i64 w0_2).2 (bd_i64 w0_3).1 (bd_i64 w0_3).2 a0_4 a0_5 (bd_i64 w0_4).1 (bd_i64 w0_4).2 (bd_i64 w0_5).1 (bd_i64 w0_5).2 a1 b1 (bd_i64 wa1).1 (bd_i64 wa1).2 (bd_i64 wb1).1 (bd_i64 wb1).2 W
  refine hwalk.mono fun e W' ⟨he, bel⟩ => ?_
  subst he
  exact ⟨_, rfl, _, _, _, [], _, [], hW', trodAll_mk1 (shut_bool Try.underlying4 _), (trodAll_cons_mk (shut_pt3 w0_0 w0_1 w0_2 w0_3 w0_4 w0_5) (trodAll_cons_mk (reads_pt enc _ _ _ _ wa1 wb1) trodAll_mk0)), rfl, bel.frame _, fun h => by cases h⟩

/-- The statement. -/
theorem proved : Rows.TieTurnsSaid :=
  OpenClaim.holds_of_wide 4 Try.f4 rfl rfl rfl rfl rfl rfl rfl ⟨rfl, rfl, rfl, rfl, rfl⟩ rfl rfl rfl rfl rfl (by kernel_rfl) Try.func4 (by kernel_rfl)
    (of_decide_eq_true (by kernel_rfl)) (by unfold Func.isWrapper; first | (rw [if_pos (by decide +kernel)]; kernel_rfl) | (rw [if_neg (by decide +kernel)]; exact ⟨rfl, rfl⟩))
    (fun os started H enc _ => lifted os started H enc)
#print axioms proved
end tturns
end Go.Proofs.Ytnemailhijkemaa
