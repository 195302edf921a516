/-
  Proved: zelligelaw02.QuadMuls answers true for every two numbers of 128 bits, and leaves its arguments as they were. No condition.
-/
import Derived.Test.YtjlndalcaepofaaRef2B
import Derived.Test.YtjlndalcaepofaaRef2C
import Derived.Test.YtjlndalcaepofaaQuadJ
import Derived.Test.YtjlndalcaepofaaTwoW
import Derived.Test.YtjlndalcaepofaaArr
import Derived.Test.YtjlndalcaepofaaDigD32
import Derived.Deep.RegionHeld3
import Derived.ProofKit
import Derived.OpenShut
import Derived.Lib.SmallJoins
namespace Go.Proofs.Ytjlndalcaepofaa.qmuls
open Go.RowKit Go.Proofs.Ytjlndalcaepofaa
open Go.ChangeShapes Go.WideShapes Go.ChangeAt Go.Joins
set_option linter.unusedVariables false

set_option maxHeartbeats 4000000 in
theorem walk (a : Int) (a0 : -170141183460469231731687303715884105728 ≤ a) (a1 : a < 170141183460469231731687303715884105728) (b : Int) (b0 : -170141183460469231731687303715884105728 ≤ b) (b1 : b < 170141183460469231731687303715884105728) (w : World) :
    Calls Try.prog 4 #[.agg #[.int .i64 (hi a), .int .u64 (lo a)], .agg #[.int .i64 (hi b), .int .u64 (lo b)]] w fun e w' => e = .returned (.bool true) ∧ Below w.heap.size w w' := by
  have Q4 := quad_eq
  go_enter Try.func4, Try.ntmps4
  go_wp2
  go_region_held3 (fun w' => w'.cell? ⟨w.heap.size, 0, none⟩ = some (.int .i64 (hi a)) ∧ w'.cell? ⟨w.heap.size, 1, none⟩ = some (.int .u64 (lo a)) ∧ w'.cell? ⟨w.heap.size + 1, 0, none⟩ = some (.int .i64 (hi b)) ∧ w'.cell? ⟨w.heap.size + 1, 1, none⟩ = some (.int .u64 (lo b)) ∧ Below w.heap.size w w') (first | exact keep4 (by assumption) (d32.Made.below (by assumption)) | exact start4 _ _ _ _ w _)
    (first
      | (go_at_call_of 17 (Value.agg #[Value.int IntKind.i64 (hi a), Value.int IntKind.u64 (lo a)]); refine (rlong_any a rfl rfl a0 a1 _).mono ?_; rintro e wx ⟨bx, cx, rfl, hx⟩)
      | (go_at_call_of 17 (Value.agg #[Value.int IntKind.i64 (hi b), Value.int IntKind.u64 (lo b)]); refine (rlong_any b rfl rfl b0 b1 _).mono ?_; rintro e wy ⟨by', cy', rfl, hy⟩))
  rename_i hH
  have hT := twoW_xy hH hx hy
  clear hH hx hy
  obtain ⟨c1, c2, c3, c4, _⟩ := hT.ca
  go_wp2_with (first
    | (go_at_call 18; refine (qof_any a rfl rfl a0 a1 _).mono ?_; rintro e w' ⟨rfl, hb⟩; have hT := hT.later hb; obtain ⟨c1, c2, c3, c4, _⟩ := hT.ca; clear hb)
    | (go_at_call 19; refine (qmul_any a b rfl rfl rfl rfl a0 a1 b0 b1 _).mono ?_; rintro e w' ⟨rfl, hb⟩; have hT := hT.later hb; obtain ⟨c1, c2, c3, c4, _⟩ := hT.ca; clear hb)
    | (go_at_call 16; refine (lives_any _).mono ?_; rintro e w' ⟨rfl, hb⟩; have hT := hT.later hb; obtain ⟨c1, c2, c3, c4, _⟩ := hT.ca; clear hb)
    | (go_at_call 20; refine (d32.rmul_any a b bx by' _ hT.rx hT.ry hT.sx hT.sy).mono ?_; rintro e w' ⟨bs, rfl, hs⟩; have hT := hT.later hs.below; obtain ⟨c1, c2, c3, c4, _⟩ := hT.ca)
    | (go_at_call_of 11 (Value.slice (some (Addr.mk bx 0 none)) 32 cx); refine (rquad_any _ bx _ hT.rx hT.sx).mono ?_; rintro e w' ⟨rfl, hb⟩; have hT := hT.later hb; obtain ⟨c1, c2, c3, c4, _⟩ := hT.ca; clear hb)
    | (go_at_call_of 11 (Value.slice (some (Addr.mk bs 0 none)) 32 32); refine (rquad_any _ bs _ hs.row hs.size).mono ?_; rintro e w' ⟨rfl, hb⟩; have hT := hT.later hb; obtain ⟨c1, c2, c3, c4, _⟩ := hT.ca; clear hb))
  go_ret
  exact ⟨rfl, hT.below⟩

theorem own : ownKnob Try.prog.godebug = none := by kernel_rfl
theorem cellsWide : Try.prog.cellsOf 36 = 2 := by kernel_rfl
theorem readsWide {H : Type} (enc : TypeId × Value → H) (W : World) (bs : Nat) (sp : Nat → Bool) (hd : Bool) {a b : Int} (wa : (Lit.int .i64 a).wf = true) (wb : (Lit.int .u64 b).wf = true) : DataW.Trod enc Try.prog W bs sp hd 36 (.agg #[.int .i64 a, .int .u64 b]) (.agg [.lit (.int .i64 a), .lit (.int .u64 b)]) [] :=
  shut_agg2 (y0 := (.lit (.int .i64 a), [])) (y1 := (.lit (.int .u64 b), [])) Try.underlying36 (by kernel_rfl) cellsWide ⟨1, by simp [DataW.trod, Try.underlying2, wa]⟩ ⟨1, by simp [DataW.trod, Try.underlying22, wb]⟩
set_option maxRecDepth 100000 in
theorem lifted (os : Os) (started : os.Started) (H : Type) (enc : TypeId × Value → H) :
    ReturnsInHanded {} Try.checked os 4 .any (Rows.quadMulsSpec.pre6 enc Try.prog Try.f4 Rows.quadMulsRow.domain false) (Rows.quadMulsSpec.post enc Try.prog Try.f4 false true false false) := by
  refine returnsInHanded_of_change (C := Try.checked) own started (by kernel_rfl) Try.func4
    (ChangeSpec.witness6 (enc := enc) (C := Try.checked) false ⟨#[], #[.agg #[.int .i64 0, .int .u64 0], .agg #[.int .i64 0, .int .u64 0]], []⟩ 8 (by kernel_rfl) (by kernel_rfl) (by kernel_rfl) (by kernel_rfl)) ?_
  intro W base args ds gs before hval0 hW hcnd _
  have hval : ∀ (j : Nat) t v, Try.f4.params[j]? = some t → args[j]? = some v → Value.okWide Try.prog W .any base t v := hval0
  have hW' := hW
  obtain ⟨p, q, hA0, hV, rfl, hfz, hnd⟩ := hW
  have hA : DataW.TrodAll enc Try.prog W 0 (fun _ => true) true Try.f4.params.toList args.toList ds p := hA0
  rw [Try.params4] at hA hval
  obtain ⟨v0, vs0, d0, ds0, p0, q0, hargs, rfl, rfl, h0, r0⟩ := trodAll_cons hA
  obtain ⟨v1, vs1, d1, ds1, p1, q1, rfl, rfl, rfl, h1, r1⟩ := trodAll_cons r0
  obtain ⟨rfl, rfl, rfl⟩ := trodAll_nil r1
  obtain rfl : args = #[v0, v1] := by cases args; simp_all
  obtain ⟨rfl, rfl⟩ := trodVars_none hV
  obtain ⟨x0, y0, g0, k0, m0, rfl, rfl, rfl, hx0, hy0⟩ := open_agg2 Try.underlying36 (by kernel_rfl) cellsWide (hval 0 36 v0 rfl rfl) h0
  obtain ⟨a0, ex0, rfl, wa0⟩ := DataW.trod_int Try.underlying2 hx0
  obtain ⟨b0, ey0, rfl, wb0⟩ := DataW.trod_int Try.underlying22 hy0
  simp at ex0 ey0
  subst ex0 ey0
  obtain ⟨x1, y1, g1, k1, m1, rfl, rfl, rfl, hx1, hy1⟩ := open_agg2 Try.underlying36 (by kernel_rfl) cellsWide (hval 1 36 v1 rfl rfl) h1
  obtain ⟨a1, ex1, rfl, wa1⟩ := DataW.trod_int Try.underlying2 hx1
  obtain ⟨b1, ey1, rfl, wb1⟩ := DataW.trod_int Try.underlying22 hy1
  simp at ex1 ey1
  subst ex1 ey1
  clear hA0 hval0
  have hwalk := walk (a0 * 18446744073709551616 + b0) (wide_range a0 b0 (bd_i64 wa0).1 (bd_i64 wa0).2 (bd_u64 wb0).1 (bd_u64 wb0).2).1 (wide_range a0 b0 (bd_i64 wa0).1 (bd_i64 wa0).2 (bd_u64 wb0).1 (bd_u64 wb0).2).2 (a1 * 18446744073709551616 + b1) (wide_range a1 b1 (bd_i64 wa1).1 (bd_i64 wa1).2 (bd_u64 wb1).1 (bd_u64 wb1).2).1 (wide_range a1 b1 (bd_i64 wa1).1 (bd_i64 wa1).2 (bd_u64 wb1).1 (bd_u64 wb1).2).2 W
  rw [hi_mk a0 b0 (bd_i64 wa0).1 (bd_i64 wa0).2 (bd_u64 wb0).1 (bd_u64 wb0).2, lo_mk a0 b0 (bd_u64 wb0).1 (bd_u64 wb0).2, hi_mk a1 b1 (bd_i64 wa1).1 (bd_i64 wa1).2 (bd_u64 wb1).1 (bd_u64 wb1).2, lo_mk a1 b1 (bd_u64 wb1).1 (bd_u64 wb1).2] at hwalk
  refine hwalk.mono fun e W' ⟨he, bel⟩ => ?_
  subst he
  exact ⟨_, rfl, _, _, _, [], _, [], hW', trodAll_mk1 (shut_bool Try.underlying4 _), (trodAll_cons_mk (readsWide enc _ _ _ _ wa0 wb0) (trodAll_cons_mk (readsWide enc _ _ _ _ wa1 wb1) trodAll_mk0)), rfl, bel.frame _, fun h => by cases h⟩

/-- The statement. -/
theorem proved : Rows.QuadMulsSaid :=
  OpenClaim.holds_of_wide 4 Try.f4 rfl rfl rfl rfl rfl rfl rfl ⟨rfl, rfl, rfl, rfl, rfl⟩ rfl rfl rfl rfl rfl (by kernel_rfl) Try.func4 (by kernel_rfl)
    (of_decide_eq_true (by kernel_rfl)) (by unfold Func.isWrapper; first | (rw [if_pos (by decide +kernel)]; kernel_rfl) | (rw [if_neg (by decide +kernel)]; exact ⟨rfl, rfl⟩))
    (fun os started H enc _ => lifted os started H enc)
#print axioms proved
end Go.Proofs.Ytjlndalcaepofaa.qmuls
