/-
  Proved: zelligelaw01.WideShows answers true for every number of 128 bits, and leaves its argument as it was. No condition.
-/
import Derived.Test.YtjkbmpcchlfglaaRefC
import Derived.Test.YtjkbmpcchlfglaaRefG
import Derived.Test.YtjkbmpcchlfglaaWideG
import Derived.Test.YtjkbmpcchlfglaaBack
import Derived.Test.YtjkbmpcchlfglaaTwo
import Derived.ProofKit
import Derived.OpenShut
import Derived.Lib.SmallJoins
namespace Go.Proofs.Ytjkbmpcchlfglaa.shows
open Go.RowKit Go.Proofs.Ytjkbmpcchlfglaa
open Go.ChangeShapes Go.WideShapes Go.ChangeAt Go.Joins
set_option linter.unusedVariables false

theorem startBox' (a : Int) (w : World) (t : TypeId) : (w.alloc (.cells #[.int .i64 (hi a), .int .u64 (lo a)] t)).cell? ⟨w.heap.size, 0, none⟩ = some (.int .i64 (hi a)) ∧ (w.alloc (.cells #[.int .i64 (hi a), .int .u64 (lo a)] t)).cell? ⟨w.heap.size, 1, none⟩ = some (.int .u64 (lo a)) ∧
    Below w.heap.size w (w.alloc (.cells #[.int .i64 (hi a), .int .u64 (lo a)] t)) := ⟨by simp, by simp, (Below.refl _ _).alloc (Nat.le_refl _) _⟩
theorem boxAlloc {n : Nat} {a : Int} {w0 w : World} (h : w.cell? ⟨n, 0, none⟩ = some (.int .i64 (hi a)) ∧ w.cell? ⟨n, 1, none⟩ = some (.int .u64 (lo a)) ∧ Below w0.heap.size w0 w) (o : Obj) :
    (w.alloc o).cell? ⟨n, 0, none⟩ = some (.int .i64 (hi a)) ∧ (w.alloc o).cell? ⟨n, 1, none⟩ = some (.int .u64 (lo a)) ∧ Below w0.heap.size w0 (w.alloc o) := keepBox h ((Below.refl _ _).alloc (Nat.le_refl _) o)

set_option maxHeartbeats 1000000 in
theorem walk (a : Int) (h0 : -170141183460469231731687303715884105728 ≤ a) (h1 : a < 170141183460469231731687303715884105728) (w : World) :
    Calls Try.prog 6 #[.agg #[.int .i64 (hi a), .int .u64 (lo a)]] w fun e w' => e = .returned (.bool true) ∧ Below w.heap.size w w' := by
  have hr := read_show a h0 h1
  have hsz := show_size a h0 h1
  have HY : Hid (showS (canon (readI (showS a))) = showS a) := by unfold Hid; rw [hr, canon_same a h0 h1]
  have hA := startBox' a w 24
  go_enter Try.func6, Try.ntmps6
  go_wp2_with (first
    | (go_at_call 25; refine (show_any a rfl rfl h0 h1 _).mono ?_; rintro e w1 ⟨rfl, hb⟩; have hA := keepBox hA hb; have hG := hA; obtain ⟨c1, c2, _⟩ := hG)
    | (go_at_call 26; refine (parse_yes (showS a) _ hsz HY.out).mono ?_; rintro e w2 ⟨rfl, hb⟩; have hA := keepBox hA hb; have hG := hA; obtain ⟨c1, c2, _⟩ := hG; have hz : w.heap.size < w2.heap.size := World.block_lt_of_cell? _ _ c1)
    | (go_at_call 9; refine (rof_any a rfl rfl _).mono ?_; rintro e w3 ⟨bx, rfl, hx⟩; have hA := keepBox (boxAlloc hA _) hx.below; have hG := hA; obtain ⟨c1, c2, _⟩ := hG; have d1 : w3.cell? ⟨w2.heap.size, 0, none⟩ = some (.int .i64 (hi a)) := cell_later hx.below (by simp); have d2 : w3.cell? ⟨w2.heap.size, 1, none⟩ = some (.int .u64 (lo a)) := cell_later hx.below (by simp))
    | (go_at_call 27; refine (rshow_any a bx _ hx.row hx.size h0 h1).mono ?_; rintro e w4 ⟨rfl, hb⟩; have hA := keepBox hA hb; have hG := hA; obtain ⟨c1, c2, _⟩ := hG; have d1 := cell_later hb d1; have d2 := cell_later hb d2)
    | (go_at_call 16; refine (lives_any _).mono ?_; rintro e w5 ⟨rfl, hb⟩; have hA := keepBox hA hb))
  go_ret
  exact ⟨rfl, hA.2.2⟩

theorem own : ownKnob Try.prog.godebug = none := by kernel_rfl
theorem cellsWide : Try.prog.cellsOf 24 = 2 := by kernel_rfl
theorem readsWide {H : Type} (enc : TypeId × Value → H) (W : World) (bs : Nat) (sp : Nat → Bool) (hd : Bool) {a b : Int} (wa : (Lit.int .i64 a).wf = true) (wb : (Lit.int .u64 b).wf = true) : DataW.Trod enc Try.prog W bs sp hd 24 (.agg #[.int .i64 a, .int .u64 b]) (.agg [.lit (.int .i64 a), .lit (.int .u64 b)]) [] :=
  shut_agg2 (y0 := (.lit (.int .i64 a), [])) (y1 := (.lit (.int .u64 b), [])) Try.underlying24 (by kernel_rfl) cellsWide ⟨1, by simp [DataW.trod, Try.underlying2, wa]⟩ ⟨1, by simp [DataW.trod, Try.underlying22, wb]⟩
set_option maxRecDepth 100000 in
theorem lifted (os : Os) (started : os.Started) (H : Type) (enc : TypeId × Value → H) :
    ReturnsInHanded {} Try.checked os 6 .any (Rows.wideShowsSpec.pre6 enc Try.prog Try.f6 Rows.wideShowsRow.domain false) (Rows.wideShowsSpec.post enc Try.prog Try.f6 false true false false) := by
  refine returnsInHanded_of_change (C := Try.checked) own started (by kernel_rfl) Try.func6
    (ChangeSpec.witness6 (enc := enc) (C := Try.checked) false ⟨#[], #[.agg #[.int .i64 0, .int .u64 0]], []⟩ 8 (by kernel_rfl) (by kernel_rfl) (by kernel_rfl) (by kernel_rfl)) ?_
  intro W base args ds gs before hval0 hW hcnd _
  have hval : ∀ (j : Nat) t v, Try.f6.params[j]? = some t → args[j]? = some v → Value.okWide Try.prog W .any base t v := hval0
  have hW' := hW
  obtain ⟨p, q, hA0, hV, rfl, hfz, hnd⟩ := hW
  have hA : DataW.TrodAll enc Try.prog W 0 (fun _ => true) true Try.f6.params.toList args.toList ds p := hA0
  rw [Try.params6] at hA hval
  obtain ⟨v0, vs0, d0, ds0, p0, q0, hargs, rfl, rfl, h0, r0⟩ := trodAll_cons hA
  obtain ⟨rfl, rfl, rfl⟩ := trodAll_nil r0
  obtain rfl : args = #[v0] := by cases args; simp_all
  obtain ⟨rfl, rfl⟩ := trodVars_none hV
  obtain ⟨x0, y0, g0, k0, m0, rfl, rfl, rfl, hx0, hy0⟩ := open_agg2 Try.underlying24 (by kernel_rfl) cellsWide (hval 0 24 v0 rfl rfl) h0
  obtain ⟨a0, ex0, rfl, wa0⟩ := DataW.trod_int Try.underlying2 hx0
  obtain ⟨b0, ey0, rfl, wb0⟩ := DataW.trod_int Try.underlying22 hy0
  simp at ex0 ey0
  subst ex0 ey0
  clear hA0 hval0
  have hwalk := walk (a0 * 18446744073709551616 + b0) (wide_range a0 b0 (bd_i64 wa0).1 (bd_i64 wa0).2 (bd_u64 wb0).1 (bd_u64 wb0).2).1 (wide_range a0 b0 (bd_i64 wa0).1 (bd_i64 wa0).2 (bd_u64 wb0).1 (bd_u64 wb0).2).2 W
  rw [hi_mk a0 b0 (bd_i64 wa0).1 (bd_i64 wa0).2 (bd_u64 wb0).1 (bd_u64 wb0).2, lo_mk a0 b0 (bd_u64 wb0).1 (bd_u64 wb0).2] at hwalk
  refine hwalk.mono fun e W' ⟨he, bel⟩ => ?_
  subst he
  exact ⟨_, rfl, _, _, _, [], _, [], hW', trodAll_mk1 (shut_bool Try.underlying4 _), (trodAll_cons_mk (readsWide enc _ _ _ _ wa0 wb0) trodAll_mk0), rfl, bel.frame _, fun h => by cases h⟩

/-- The statement. -/
theorem proved : Rows.WideShowsSaid :=
  OpenClaim.holds_of_wide 6 Try.f6 rfl rfl rfl rfl rfl rfl rfl ⟨rfl, rfl, rfl, rfl, rfl⟩ rfl rfl rfl rfl rfl (by kernel_rfl) Try.func6 (by kernel_rfl)
    (of_decide_eq_true (by kernel_rfl)) (by unfold Func.isWrapper; first | (rw [if_pos (by decide +kernel)]; kernel_rfl) | (rw [if_neg (by decide +kernel)]; exact ⟨rfl, rfl⟩))
    (fun os started H enc _ => lifted os started H enc)
#print axioms proved
end Go.Proofs.Ytjkbmpcchlfglaa.shows
