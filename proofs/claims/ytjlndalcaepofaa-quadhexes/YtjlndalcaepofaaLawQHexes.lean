/-
  Proved: zelligelaw02.QuadHexes answers true for every number of 256 bits, and leaves its argument as it was. No condition.
-/
import Derived.Test.YtjlndalcaepofaaRef2A
import Derived.Test.YtjlndalcaepofaaRef2D
import Derived.Test.YtjlndalcaepofaaQuadJ
import Derived.Test.YtjlndalcaepofaaArr
import Derived.Deep.RegionHeld3
import Derived.ProofKit
import Derived.OpenShut
import Derived.Lib.SmallJoins
namespace Go.Proofs.Ytjlndalcaepofaa.qhexes
open Go.RowKit Go.Proofs.Ytjlndalcaepofaa
open Go.ChangeShapes Go.WideShapes Go.ChangeAt Go.Joins
set_option linter.unusedVariables false

theorem keepB {n : Nat} {u0 u1 u2 u3 : Value} {w0 w w' : World} (h : w.cell? ⟨n, 0, none⟩ = some u0 ∧ w.cell? ⟨n, 1, none⟩ = some u1 ∧ w.cell? ⟨n, 2, none⟩ = some u2 ∧ w.cell? ⟨n, 3, none⟩ = some u3 ∧ Below w0.heap.size w0 w)
    (hb : Below w.heap.size w w') : w'.cell? ⟨n, 0, none⟩ = some u0 ∧ w'.cell? ⟨n, 1, none⟩ = some u1 ∧ w'.cell? ⟨n, 2, none⟩ = some u2 ∧ w'.cell? ⟨n, 3, none⟩ = some u3 ∧ Below w0.heap.size w0 w' :=
  ⟨cell_later hb h.1, cell_later hb h.2.1, cell_later hb h.2.2.1, cell_later hb h.2.2.2.1, h.2.2.2.2.trans (hb.mono h.2.2.2.2.size)⟩
theorem startB (u0 u1 u2 u3 : Value) (w : World) (t : TypeId) :
    let w' := (w.alloc (.cells #[u0, u1, u2, u3] t)).drew
    w'.cell? ⟨w.heap.size, 0, none⟩ = some u0 ∧ w'.cell? ⟨w.heap.size, 1, none⟩ = some u1 ∧ w'.cell? ⟨w.heap.size, 2, none⟩ = some u2 ∧ w'.cell? ⟨w.heap.size, 3, none⟩ = some u3 ∧ Below w.heap.size w w' := by
  intro w'
  refine ⟨by simp [w'], by simp [w'], by simp [w'], by simp [w'], ((Below.refl _ _).alloc (Nat.le_refl _) _).drew⟩

set_option maxHeartbeats 4000000 in
theorem walk (a : Int) (a0 : -57896044618658097711785492504343953926634992332820282019728792003956564819968 ≤ a) (a1 : a < 57896044618658097711785492504343953926634992332820282019728792003956564819968) (w : World) :
    Calls Try.prog 6 #[.agg #[.int .u64 (q.dg (a) 0), .int .u64 (q.dg (a) 1), .int .u64 (q.dg (a) 2), .int .u64 (q.dg (a) 3)]] w fun e w' => e = .returned (.bool true) ∧ Below w.heap.size w w' := by
  go_enter Try.func6, Try.ntmps6
  go_wp2
  go_region_held3 (fun w' => w'.cell? ⟨w.heap.size, 0, none⟩ = some (.int .u64 (q.dg a 0)) ∧ w'.cell? ⟨w.heap.size, 1, none⟩ = some (.int .u64 (q.dg a 1)) ∧ w'.cell? ⟨w.heap.size, 2, none⟩ = some (.int .u64 (q.dg a 2)) ∧ w'.cell? ⟨w.heap.size, 3, none⟩ = some (.int .u64 (q.dg a 3)) ∧ Below w.heap.size w w')
    (first | exact keepB (by assumption) hb | exact keepB (by assumption) hx.below | exact startB _ _ _ _ w _ | assumption)
    (first
      | (go_at_call 25; refine (qhex_any a (wd_self a) a0 a1 _).mono ?_; rintro e w1 ⟨rfl, hb⟩)
      | (go_at_call 9; refine (rqof_any a (wd_self a) _).mono ?_; rintro e w2 ⟨bx, rfl, hx⟩)
      | (go_at_call 26; refine (rhex_any a bx _ hx.row hx.size a0 a1).mono ?_; rintro e w3 ⟨rfl, hb⟩)
      | (go_at_call 16; refine (lives_any _).mono ?_; rintro e w4 ⟨rfl, hb⟩))
  rename_i hH
  go_wp2
  go_ret
  exact ⟨rfl, hH.2.2.2.2⟩

theorem own : ownKnob Try.prog.godebug = none := by kernel_rfl
set_option maxRecDepth 100000 in
theorem lifted (os : Os) (started : os.Started) (H : Type) (enc : TypeId × Value → H) :
    ReturnsInHanded {} Try.checked os 6 .any (Rows.quadHexesSpec.pre6 enc Try.prog Try.f6 Rows.quadHexesRow.domain false) (Rows.quadHexesSpec.post enc Try.prog Try.f6 false true false false) := by
  refine returnsInHanded_of_change (C := Try.checked) own started (by kernel_rfl) Try.func6
    (ChangeSpec.witness6 (enc := enc) (C := Try.checked) false ⟨#[], #[.agg #[.int .u64 0, .int .u64 0, .int .u64 0, .int .u64 0]], []⟩ 8 (by kernel_rfl) (by kernel_rfl) (by kernel_rfl) (by kernel_rfl)) ?_
  intro W base args ds gs before hval0 hW hcnd _
  have hval : ∀ (j : Nat) t v, Try.f6.params[j]? = some t → args[j]? = some v → Value.okWide Try.prog W .any base t v := hval0
  have hW' := hW
  obtain ⟨p, q, hA0, hV, rfl, hfz, hnd⟩ := hW
  have hA : DataW.TrodAll enc Try.prog W 0 (fun _ => true) true Try.f6.params.toList args.toList ds p := hA0
  rw [Try.params6] at hA hval
  obtain ⟨v0, vs0, d0, ds0, p0, q0, hargs, rfl, rfl, h0, r0⟩ := trodAll_cons hA
  obtain ⟨rfl, rfl, rfl⟩ := trodAll_nil r0
  obtain rfl : args = #[v0] := by cases args; simp_all
  obtain ⟨rfl, rfl⟩ := trodVars_none hV
  obtain ⟨a0, b0, c0, e0, rfl, rfl, rfl, wa0, wb0, wc0, we0⟩ := open_quad (hval 0 24 v0 rfl rfl) h0
  clear hA0 hval0
  have hwalk := walk (qn a0 b0 c0 e0) (quad_mk wa0 wb0 wc0 we0).2.2.2.2.1 (quad_mk wa0 wb0 wc0 we0).2.2.2.2.2 W
  rw [(quad_mk wa0 wb0 wc0 we0).1, (quad_mk wa0 wb0 wc0 we0).2.1, (quad_mk wa0 wb0 wc0 we0).2.2.1, (quad_mk wa0 wb0 wc0 we0).2.2.2.1] at hwalk
  refine hwalk.mono fun e W' ⟨he, bel⟩ => ?_
  subst he
  exact ⟨_, rfl, _, _, _, [], _, [], hW', trodAll_mk1 (shut_bool Try.underlying4 _), (trodAll_cons_mk (shut_quad wa0 wb0 wc0 we0) trodAll_mk0), rfl, bel.frame _, fun h => by cases h⟩

/-- The statement. -/
theorem proved : Rows.QuadHexesSaid :=
  OpenClaim.holds_of_wide 6 Try.f6 rfl rfl rfl rfl rfl rfl rfl ⟨rfl, rfl, rfl, rfl, rfl⟩ rfl rfl rfl rfl rfl (by kernel_rfl) Try.func6 (by kernel_rfl)
    (of_decide_eq_true (by kernel_rfl)) (by unfold Func.isWrapper; first | (rw [if_pos (by decide +kernel)]; kernel_rfl) | (rw [if_neg (by decide +kernel)]; exact ⟨rfl, rfl⟩))
    (fun os started H enc _ => lifted os started H enc)
#print axioms proved
end Go.Proofs.Ytjlndalcaepofaa.qhexes
