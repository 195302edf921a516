/-
  Proved: zelligelaw02.QuadOrders answers true for every two numbers of 256 bits, and leaves its arguments as they were. No condition.
-/
import Derived.Test.YtjlndalcaepofaaRef2B
import Derived.Test.YtjlndalcaepofaaQuadJ
import Derived.Test.YtjlndalcaepofaaQuadG
import Derived.Test.YtjlndalcaepofaaTwoQ
import Derived.Test.YtjlndalcaepofaaArr
import Derived.Test.YtjlndalcaepofaaDigE32
import Derived.Deep.RegionHeld3
import Derived.ProofKit
import Derived.OpenShut
import Derived.Lib.SmallJoins
namespace Go.Proofs.Ytjlndalcaepofaa.qorders
open Go.RowKit Go.Proofs.Ytjlndalcaepofaa
open Go.ChangeShapes Go.WideShapes Go.ChangeAt Go.Joins
set_option linter.unusedVariables false

theorem below_of_drewN {w w' : World} (h : ∃ n, w' = w.drewN n) : Below w.heap.size w w' := by
  obtain ⟨n, rfl⟩ := h
  exact below_drewN (Below.refl _ _) n
theorem below_of_eq {w w' : World} (h : w' = w) : Below w.heap.size w w' := by
  subst h
  exact Below.refl _ _
set_option maxHeartbeats 4000000 in
theorem walk (a : Int) (a0 : -57896044618658097711785492504343953926634992332820282019728792003956564819968 ≤ a) (a1 : a < 57896044618658097711785492504343953926634992332820282019728792003956564819968) (b : Int) (b0 : -57896044618658097711785492504343953926634992332820282019728792003956564819968 ≤ b) (b1 : b < 57896044618658097711785492504343953926634992332820282019728792003956564819968) (w : World) :
    Calls Try.prog 5 #[.agg #[.int .u64 (q.dg (a) 0), .int .u64 (q.dg (a) 1), .int .u64 (q.dg (a) 2), .int .u64 (q.dg (a) 3)], .agg #[.int .u64 (q.dg (b) 0), .int .u64 (q.dg (b) 1), .int .u64 (q.dg (b) 2), .int .u64 (q.dg (b) 3)]] w fun e w' => e = .returned (.bool true) ∧ Below w.heap.size w w' := by
  go_enter Try.func5, Try.ntmps5
  go_wp2
  go_region_held3 (fun w' => w'.cell? ⟨w.heap.size, 0, none⟩ = some (.int .u64 (q.dg a 0)) ∧ w'.cell? ⟨w.heap.size, 1, none⟩ = some (.int .u64 (q.dg a 1)) ∧ w'.cell? ⟨w.heap.size, 2, none⟩ = some (.int .u64 (q.dg a 2)) ∧ w'.cell? ⟨w.heap.size, 3, none⟩ = some (.int .u64 (q.dg a 3)) ∧ w'.cell? ⟨w.heap.size + 1, 0, none⟩ = some (.int .u64 (q.dg b 0)) ∧ w'.cell? ⟨w.heap.size + 1, 1, none⟩ = some (.int .u64 (q.dg b 1)) ∧ w'.cell? ⟨w.heap.size + 1, 2, none⟩ = some (.int .u64 (q.dg b 2)) ∧ w'.cell? ⟨w.heap.size + 1, 3, none⟩ = some (.int .u64 (q.dg b 3)) ∧ Below w.heap.size w w') (first | exact keep8 (by assumption) (d32.Made.below (by assumption)) | exact start8 _ _ _ _ _ _ _ _ w _)
    (first
      | (go_at_call_of 9 (Value.agg #[Value.int IntKind.u64 (q.dg a 0), Value.int IntKind.u64 (q.dg a 1), Value.int IntKind.u64 (q.dg a 2), Value.int IntKind.u64 (q.dg a 3)]); refine (rqof_any a (wd_self a) _).mono ?_; rintro e wx ⟨bx, rfl, hx⟩)
      | (go_at_call_of 9 (Value.agg #[Value.int IntKind.u64 (q.dg b 0), Value.int IntKind.u64 (q.dg b 1), Value.int IntKind.u64 (q.dg b 2), Value.int IntKind.u64 (q.dg b 3)]); refine (rqof_any b (wd_self b) _).mono ?_; rintro e wy ⟨by', rfl, hy⟩))
  rename_i hH
  have hT := twoQ_xy hH hx hy
  clear hH hx hy
  obtain ⟨c1, c2, c3, c4, c5, c6, c7, c8, _⟩ := hT.ca
  go_wp2_with (first
    | (go_at_call 21; refine (qcmp_any a b (wd_self a) (wd_self b) a0 a1 b0 b1 _).mono ?_; rintro e w' ⟨rfl, hb⟩; have hT := hT.later hb; obtain ⟨c1, c2, c3, c4, c5, c6, c7, c8, _⟩ := hT.ca; clear hb)
    | (go_at_call 23; refine (qsign_any a (wd_self a) a0 a1 _).mono ?_; rintro e w' ⟨rfl, hb⟩; have hT := hT.later hb; obtain ⟨c1, c2, c3, c4, c5, c6, c7, c8, _⟩ := hT.ca; clear hb)
    | (go_at_call 16; refine (lives_any _).mono ?_; rintro e w' ⟨rfl, hb⟩; have hT := hT.later hb; obtain ⟨c1, c2, c3, c4, c5, c6, c7, c8, _⟩ := hT.ca; clear hb)
    | (go_at_call 22; refine ((d32.rcmp_any a b bx by' _ hT.rx hT.ry a0 a1 b0 b1).mono (fun e w' h => And.intro h.1 (below_of_drewN h.2))).mono ?_; rintro e w' ⟨rfl, hb⟩; have hT := hT.later hb; obtain ⟨c1, c2, c3, c4, c5, c6, c7, c8, _⟩ := hT.ca; clear hb)
    | (go_at_call 24; refine ((d32.rsign_any a bx _ hT.rx a0 a1).mono (fun e w' h => And.intro h.1 (below_of_eq h.2))).mono ?_; rintro e w' ⟨rfl, hb⟩; have hT := hT.later hb; obtain ⟨c1, c2, c3, c4, c5, c6, c7, c8, _⟩ := hT.ca; clear hb))
  go_ret
  exact ⟨rfl, hT.below⟩

theorem own : ownKnob Try.prog.godebug = none := by kernel_rfl
set_option maxRecDepth 100000 in
theorem lifted (os : Os) (started : os.Started) (H : Type) (enc : TypeId × Value → H) :
    ReturnsInHanded {} Try.checked os 5 .any (Rows.quadOrdersSpec.pre6 enc Try.prog Try.f5 Rows.quadOrdersRow.domain false) (Rows.quadOrdersSpec.post enc Try.prog Try.f5 false true false false) := by
  refine returnsInHanded_of_change (C := Try.checked) own started (by kernel_rfl) Try.func5
    (ChangeSpec.witness6 (enc := enc) (C := Try.checked) false ⟨#[], #[.agg #[.int .u64 0, .int .u64 0, .int .u64 0, .int .u64 0], .agg #[.int .u64 0, .int .u64 0, .int .u64 0, .int .u64 0]], []⟩ 8 (by kernel_rfl) (by kernel_rfl) (by kernel_rfl) (by kernel_rfl)) ?_
  intro W base args ds gs before hval0 hW hcnd _
  have hval : ∀ (j : Nat) t v, Try.f5.params[j]? = some t → args[j]? = some v → Value.okWide Try.prog W .any base t v := hval0
  have hW' := hW
  obtain ⟨p, q, hA0, hV, rfl, hfz, hnd⟩ := hW
  have hA : DataW.TrodAll enc Try.prog W 0 (fun _ => true) true Try.f5.params.toList args.toList ds p := hA0
  rw [Try.params5] at hA hval
  obtain ⟨v0, vs0, d0, ds0, p0, q0, hargs, rfl, rfl, h0, r0⟩ := trodAll_cons hA
  obtain ⟨v1, vs1, d1, ds1, p1, q1, rfl, rfl, rfl, h1, r1⟩ := trodAll_cons r0
  obtain ⟨rfl, rfl, rfl⟩ := trodAll_nil r1
  obtain rfl : args = #[v0, v1] := by cases args; simp_all
  obtain ⟨rfl, rfl⟩ := trodVars_none hV
  obtain ⟨a0, b0, c0, e0, rfl, rfl, rfl, wa0, wb0, wc0, we0⟩ := open_quad (hval 0 24 v0 rfl rfl) h0
  obtain ⟨a1, b1, c1, e1, rfl, rfl, rfl, wa1, wb1, wc1, we1⟩ := open_quad (hval 1 24 v1 rfl rfl) h1
  clear hA0 hval0
  have hwalk := walk (qn a0 b0 c0 e0) (quad_mk wa0 wb0 wc0 we0).2.2.2.2.1 (quad_mk wa0 wb0 wc0 we0).2.2.2.2.2 (qn a1 b1 c1 e1) (quad_mk wa1 wb1 wc1 we1).2.2.2.2.1 (quad_mk wa1 wb1 wc1 we1).2.2.2.2.2 W
  rw [(quad_mk wa0 wb0 wc0 we0).1, (quad_mk wa0 wb0 wc0 we0).2.1, (quad_mk wa0 wb0 wc0 we0).2.2.1, (quad_mk wa0 wb0 wc0 we0).2.2.2.1, (quad_mk wa1 wb1 wc1 we1).1, (quad_mk wa1 wb1 wc1 we1).2.1, (quad_mk wa1 wb1 wc1 we1).2.2.1, (quad_mk wa1 wb1 wc1 we1).2.2.2.1] at hwalk
  refine hwalk.mono fun e W' ⟨he, bel⟩ => ?_
  subst he
  exact ⟨_, rfl, _, _, _, [], _, [], hW', trodAll_mk1 (shut_bool Try.underlying4 _), (trodAll_cons_mk (shut_quad wa0 wb0 wc0 we0) (trodAll_cons_mk (shut_quad wa1 wb1 wc1 we1) trodAll_mk0)), rfl, bel.frame _, fun h => by cases h⟩

/-- The statement. -/
theorem proved : Rows.QuadOrdersSaid :=
  OpenClaim.holds_of_wide 5 Try.f5 rfl rfl rfl rfl rfl rfl rfl ⟨rfl, rfl, rfl, rfl, rfl⟩ rfl rfl rfl rfl rfl (by kernel_rfl) Try.func5 (by kernel_rfl)
    (of_decide_eq_true (by kernel_rfl)) (by unfold Func.isWrapper; first | (rw [if_pos (by decide +kernel)]; kernel_rfl) | (rw [if_neg (by decide +kernel)]; exact ⟨rfl, rfl⟩))
    (fun os started H enc _ => lifted os started H enc)
#print axioms proved
end Go.Proofs.Ytjlndalcaepofaa.qorders
