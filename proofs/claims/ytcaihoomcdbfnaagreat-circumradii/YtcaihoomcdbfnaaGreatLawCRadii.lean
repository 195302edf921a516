/-
  CircumRadii: how great any triangle's circle is, and that its center is as far from all corners.
-/
import Derived.Test.YtcaihoomcdbfnaaGreatQCRadii3
import Derived.Test.YtcaihoomcdbfnaaGreatChecked
import Derived.Test.YtcaihoomcdbfnaaGreatRows
import Derived.Deep.RegionHeld3
import Derived.ProofKit
import Derived.OpenShut
import Derived.Lib.SmallJoins
namespace Go.Proofs.YtcaihoomcdbfnaaGreat
open Go.RowKit
set_option linter.unusedVariables false

namespace cradii
open Go.ChangeShapes Go.WideShapes Go.ChangeAt Go.Joins
theorem walk (a1 a2 : Int) (ha1_1 : -9223372036854775808 ≤ a1) (ha1_2 : a1 ≤ 9223372036854775807) (ha2_1 : -9223372036854775808 ≤ a2) (ha2_2 : a2 ≤ 9223372036854775807) (b1 b2 : Int) (hb1_1 : -9223372036854775808 ≤ b1) (hb1_2 : b1 ≤ 9223372036854775807) (hb2_1 : -9223372036854775808 ≤ b2) (hb2_2 : b2 ≤ 9223372036854775807) (c1 c2 : Int) (hc1_1 : -9223372036854775808 ≤ c1) (hc1_2 : c1 ≤ 9223372036854775807) (hc2_1 : -9223372036854775808 ≤ c2) (hc2_2 : c2 ≤ 9223372036854775807) (w : World) :
    Calls Tryz.prog 4 #[.agg #[.int .i64 a1, .int .i64 a2], .agg #[.int .i64 b1, .int .i64 b2], .agg #[.int .i64 c1, .int .i64 c2]] w fun e w' => e = .returned (.bool true) ∧ Below w.heap.size w w' :=
  radii_of cen rad sml a1 a2 ha1_1 ha1_2 ha2_1 ha2_2 b1 b2 hb1_1 hb1_2 hb2_1 hb2_2 c1 c2 hc1_1 hc1_2 hc2_1 hc2_2 w
theorem own : ownKnob Tryz.prog.godebug = none := by kernel_rfl
theorem cells_pt : Tryz.prog.cellsOf 23 = 2 := by kernel_rfl
theorem reads_pt {H : Type} (enc : TypeId × Value → H) (W : World) (bs : Nat) (sp : Nat → Bool) (hd : Bool) {a b : Int} (wa : (Lit.int .i64 a).wf = true) (wb : (Lit.int .i64 b).wf = true) : DataW.Trod enc Tryz.prog W bs sp hd 23 (.agg #[.int .i64 a, .int .i64 b]) (.agg [.lit (.int .i64 a), .lit (.int .i64 b)]) [] :=
  shut_agg2 (y0 := (.lit (.int .i64 a), [])) (y1 := (.lit (.int .i64 b), [])) Tryz.underlying23 (by kernel_rfl) cells_pt ⟨1, by simp [DataW.trod, Tryz.underlying2, wa]⟩ ⟨1, by simp [DataW.trod, Tryz.underlying2, wb]⟩
set_option maxRecDepth 100000 in
theorem lifted (os : Os) (started : os.Started) (H : Type) (enc : TypeId × Value → H) :
    ReturnsInHanded {} Tryz.checked os 4 .any (Rows.circumRadiiSpec.pre6 enc Tryz.prog Tryz.f4 Rows.circumRadiiRow.domain false) (Rows.circumRadiiSpec.post enc Tryz.prog Tryz.f4 false true false false) := by
  refine returnsInHanded_of_change (C := Tryz.checked) own started (by kernel_rfl) Tryz.func4
    (ChangeSpec.witness6 (enc := enc) (C := Tryz.checked) false ⟨#[], #[.agg #[.int .i64 0, .int .i64 0], .agg #[.int .i64 0, .int .i64 0], .agg #[.int .i64 0, .int .i64 0]], []⟩ 8 (by kernel_rfl) (by kernel_rfl) (by kernel_rfl) (by kernel_rfl)) ?_
  intro W base args ds gs before hval0 hW hcnd _
  have hval : ∀ (j : Nat) t v, Tryz.f4.params[j]? = some t → args[j]? = some v → Value.okWide Tryz.prog W .any base t v := hval0
  have hW' := hW
  obtain ⟨p, q, hA0, hV, rfl, hfz, hnd⟩ := hW
  have hA : DataW.TrodAll enc Tryz.prog W 0 (fun _ => true) true Tryz.f4.params.toList args.toList ds p := hA0
  rw [Tryz.params4] at hA hval
  obtain ⟨v0, vs0, d0, ds0, p0, q0, hargs, rfl, rfl, h0, r0⟩ := trodAll_cons hA
  obtain ⟨v1, vs1, d1, ds1, p1, q1, rfl, rfl, rfl, h1, r1⟩ := trodAll_cons r0
  obtain ⟨v2, vs2, d2, ds2, p2, q2, rfl, rfl, rfl, h2, r2⟩ := trodAll_cons r1
  obtain ⟨rfl, rfl, rfl⟩ := trodAll_nil r2
  obtain rfl : args = #[v0, v1, v2] := by cases args; simp_all
  obtain ⟨rfl, rfl⟩ := trodVars_none hV
  obtain ⟨x0, y0, g0, k0, m0, rfl, rfl, rfl, hx0, hy0⟩ := open_agg2 Tryz.underlying23 (by kernel_rfl) cells_pt (hval 0 23 v0 rfl rfl) h0
  obtain ⟨a0, ex0, rfl, wa0⟩ := DataW.trod_int Tryz.underlying2 hx0
  obtain ⟨b0, ey0, rfl, wb0⟩ := DataW.trod_int Tryz.underlying2 hy0
  simp at ex0 ey0
  subst ex0 ey0
  obtain ⟨x1, y1, g1, k1, m1, rfl, rfl, rfl, hx1, hy1⟩ := open_agg2 Tryz.underlying23 (by kernel_rfl) cells_pt (hval 1 23 v1 rfl rfl) h1
  obtain ⟨a1, ex1, rfl, wa1⟩ := DataW.trod_int Tryz.underlying2 hx1
  obtain ⟨b1, ey1, rfl, wb1⟩ := DataW.trod_int Tryz.underlying2 hy1
  simp at ex1 ey1
  subst ex1 ey1
  obtain ⟨x2, y2, g2, k2, m2, rfl, rfl, rfl, hx2, hy2⟩ := open_agg2 Tryz.underlying23 (by kernel_rfl) cells_pt (hval 2 23 v2 rfl rfl) h2
  obtain ⟨a2, ex2, rfl, wa2⟩ := DataW.trod_int Tryz.underlying2 hx2
  obtain ⟨b2, ey2, rfl, wb2⟩ := DataW.trod_int Tryz.underlying2 hy2
  simp at ex2 ey2
  subst ex2 ey2
  clear hA0 hval0
  have hwalk := walk a0 b0 (bd_i64 wa0).1 (bd_i64 wa0).2 (bd_i64 wb0).1 (bd_i64 wb0).2 a1 b1 (bd_i64 wa1).1 (bd_i64 wa1).2 (bd_i64 wb1).1 (bd_i64 wb1).2 a2 b2 (bd_i64 wa2).1 (bd_i64 wa2).2 (bd_i64 wb2).1 (bd_i64 wb2).2 W
  refine hwalk.mono fun e W' ⟨he, bel⟩ => ?_
  subst he
  exact ⟨_, rfl, _, _, _, [], _, [], hW', trodAll_mk1 (shut_bool Tryz.underlying4 _), (trodAll_cons_mk (reads_pt enc _ _ _ _ wa0 wb0) (trodAll_cons_mk (reads_pt enc _ _ _ _ wa1 wb1) (trodAll_cons_mk (reads_pt enc _ _ _ _ wa2 wb2) trodAll_mk0))), rfl, bel.frame _, fun h => by cases h⟩

/-- The statement. -/
theorem proved : Rows.CircumRadiiSaid :=
  OpenClaim.holds_of_wide 4 Tryz.f4 rfl rfl rfl rfl rfl rfl rfl ⟨rfl, rfl, rfl, rfl, rfl⟩ rfl rfl rfl rfl rfl (by kernel_rfl) Tryz.func4 (by kernel_rfl)
    (of_decide_eq_true (by kernel_rfl)) (by unfold Func.isWrapper; first | (rw [if_pos (by decide +kernel)]; kernel_rfl) | (rw [if_neg (by decide +kernel)]; exact ⟨rfl, rfl⟩))
    (fun os started H enc _ => lifted os started H enc)
#print axioms proved
end cradii
end Go.Proofs.YtcaihoomcdbfnaaGreat
