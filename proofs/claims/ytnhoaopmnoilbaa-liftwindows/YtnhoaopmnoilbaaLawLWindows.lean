/-
  LiftWindows: all points up to so many sides off any point, in order.
-/
import Derived.Test.YtnhoaopmnoilbaaChecked
import Derived.Test.YtnhoaopmnoilbaaRows
import Derived.Test.YtnhoaopmnoilbaaP3
import Derived.Test.YtnhoaopmnoilbaaP7
import Derived.Deep.RegionHeld3
import Derived.ProofKit
import Derived.OpenShut
import Derived.Lib.SmallJoins
namespace Go.Proofs.Ytnhoaopmnoilbaa
open Go.RowKit
set_option linter.unusedVariables false

namespace lwins
open Go.ChangeShapes Go.WideShapes Go.ChangeAt Go.Joins
theorem win_len {w w' : World} {x y s far : Int} {a a' : Option Addr} {l c l' c' : Nat} (h : WinAt w x y s far a l c) (h' : WinAt w' x y s far a' l' c') : l = l' := by
  rcases h with ⟨h1, h2, _⟩ | ⟨h1, h2⟩ <;> rcases h' with ⟨g1, g2, _⟩ | ⟨g1, g2⟩
  · rw [h2, g2]
  · exact absurd h1 g1
  · exact absurd g1 h1
  · rw [h2, g2]
set_option maxRecDepth 100000 in
set_option maxHeartbeats 8000000 in
theorem walk (x y : Int) (hx1 : -9223372036854775808 ≤ x) (hx2 : x ≤ 9223372036854775807) (hy1 : -9223372036854775808 ≤ y) (hy2 : y ≤ 9223372036854775807) (s : Int) (hs1 : -9223372036854775808 ≤ s) (hs2 : s ≤ 9223372036854775807) (far : Int) (hfar1 : -9223372036854775808 ≤ far) (hfar2 : far ≤ 9223372036854775807) (w : World) :
    Calls Try.prog 6 #[.agg #[.int .i64 x, .int .i64 y], .int .i64 s, .int .i64 far] w fun e w' => e = .returned (.bool true) ∧ Below w.heap.size w w' := by
  have BX : Hid (-9223372036854775808 ≤ x ∧ x ≤ 9223372036854775807) := ⟨hx1, hx2⟩
  have BY : Hid (-9223372036854775808 ≤ y ∧ y ≤ 9223372036854775807) := ⟨hy1, hy2⟩
  have BS : Hid (-9223372036854775808 ≤ s ∧ s ≤ 9223372036854775807) := ⟨hs1, hs2⟩
  clear hx1 hx2 hy1 hy2 hs1 hs2 hfar1 hfar2
  obtain ⟨W, hW, bW, x_p, sW⟩ := bs_2 w (.int .i64 x) (.int .i64 y) 23
  go_enter Try.func6, Try.ntmps6
  go_wp2_with (go_at_call 17; fail)
  rw [← hW]
  clear hW
  refine (lWindow x y s far W).mono ?_
  rintro e w1 ⟨a, l, c, rfl, h1, b1⟩
  replace x_p := x_p.on b1
  have hl := h1.small
  have BB := also bW b1
  clear bW b1 sW
  go_wp2
  go_loopw [8] (fun i wr => ∃ K : Nat, 1 ≤ K ∧ K ≤ 290 ∧ i = .int .i64 (K : Int) ∧ WinAt wr x y s far a l c ∧ Bx wr w.heap.size (.int .i64 x) (.int .i64 y) ∧ Below w.heap.size w wr) (fun i _ => 290 - (intOf i).toNat)
  case atStart => exact ⟨1, by omega, by omega, rfl, h1, x_p, BB⟩
  case round =>
    clear h1 x_p BB
    obtain ⟨K, hK1, hK2, rfl, h1, x_p, BB⟩ := hrel
    by_cases hlt : K < l
    · have hlt' : (K : Int) < (l : Int) := by omega
      obtain ⟨ok, hn, hr1, b, rfl, hb, hc⟩ := h1.at hlt
      obtain ⟨m, rfl⟩ : ∃ m, K = m + 1 := ⟨K - 1, by omega⟩
      obtain ⟨q1, q2⟩ := hc m (by omega)
      obtain ⟨q3, q4⟩ := hc (m + 1) hlt
      have hg := win_less ok m (by omega)
      obtain ⟨K, hK⟩ : ∃ K, K = m + 1 := ⟨_, rfl⟩
      rw [← hK] at q3 q4 hg hlt hK1 hK2 hlt' ⊢
      have hw1 : IntKind.i64.wrap ((K : Int) - 1) = (m : Int) := by rw [wrap_i64, wrap_in (by omega) (by omega)]; omega
      have hml : m < l := by omega
      clear hK hc ok hn
      generalize x + wiX far.toNat m * s = X1 at q1 hg
      generalize y + wiY far.toNat m * s = Y1 at q2 hg
      generalize x + wiX far.toNat K * s = X2 at q3 hg
      generalize y + wiY far.toNat K * s = Y2 at q4 hg
      have HG : Hid (-1 = cmpP X1 Y1 X2 Y2) := hg.symm
      clear hg
      go_wp2
      refine wp_region_held_drew (S := (fun w' => w'.cell? ⟨b, m * 2, none⟩ = some (.int .i64 X1) ∧ w'.cell? ⟨b, m * 2 + 1, none⟩ = some (.int .i64 Y1) ∧ w'.cell? ⟨b, K * 2, none⟩ = some (.int .i64 X2) ∧ w'.cell? ⟨b, K * 2 + 1, none⟩ = some (.int .i64 Y2) ∧ Below wr.heap.size wr w')) (by kernel_rfl) ?_ (fun hHeld => ?_)
      · first | exact ⟨q1, q2, q3, q4, (Below.refl _ _).drew⟩ | exact ⟨cell_on b3 hHeld.1, cell_on b3 hHeld.2.1, cell_on b3 hHeld.2.2.1, cell_on b3 hHeld.2.2.2.1, also hHeld.2.2.2.2 b3⟩
      refine take_yes (i := 0) (v := ?vv0) rfl (by kernel_rfl) (by kernel_rfl) (by kernel_rfl) (fun _ _ _ h => h) (by rfl) (by assumption) ?hyv0 ?restv0
      case hyv0 => (intro w hSw; (try dsimp only at hSw); first | (go_simp; done) | (go_simp; with_reducible rfl))
      simp only [Act.put, List.setIfInBounds_toArray, List.set_cons_zero, List.set_cons_succ]
      refine take_yes (i := 1) (v := ?vv1) rfl (by kernel_rfl) (by kernel_rfl) (by kernel_rfl) (fun _ _ _ h => h) (by rfl) (by assumption) ?hyv1 ?restv1
      case hyv1 => (intro w hSw; (try dsimp only at hSw); first | (go_simp; done) | (go_simp; with_reducible rfl))
      simp only [Act.put, List.setIfInBounds_toArray, List.set_cons_zero, List.set_cons_succ]
      refine take_yes (i := 2) (v := ?vv2) rfl (by kernel_rfl) (by kernel_rfl) (by kernel_rfl) (fun _ _ _ h => h) (by rfl) (by assumption) ?hyv2 ?restv2
      case hyv2 => (intro w hSw; (try dsimp only at hSw); first | (go_simp; done) | (go_simp; with_reducible rfl))
      simp only [Act.put, List.setIfInBounds_toArray, List.set_cons_zero, List.set_cons_succ]
      refine take_yes (i := 3) (v := ?vv3) rfl (by kernel_rfl) (by kernel_rfl) (by kernel_rfl) (fun _ _ _ h => h) (by rfl) (by assumption) ?hyv3 ?restv3
      case hyv3 => (intro w hSw; (try dsimp only at hSw); first | (go_simp; done) | (go_simp; with_reducible rfl))
      simp only [Act.put, List.setIfInBounds_toArray, List.set_cons_zero, List.set_cons_succ]
      refine take_yes (i := 4) (v := ?vv4) rfl (by kernel_rfl) (by kernel_rfl) (by kernel_rfl) (fun _ _ _ h => h) (by rfl) (by assumption) ?hyv4 ?restv4
      case hyv4 => (intro w hSw; (try dsimp only at hSw); first | (go_simp; done) | (go_simp; with_reducible rfl))
      simp only [Act.put, List.setIfInBounds_toArray, List.set_cons_zero, List.set_cons_succ]
      refine take_yes (i := 5) (v := ?vv5) rfl (by kernel_rfl) (by kernel_rfl) (by kernel_rfl) (fun _ _ _ h => h) (by rfl) (by assumption) ?hyv5 ?restv5
      case hyv5 => (intro w hSw; (try dsimp only at hSw); first | (go_simp; done) | (go_simp; with_reducible rfl))
      simp only [Act.put, List.setIfInBounds_toArray, List.set_cons_zero, List.set_cons_succ]
      refine take_yes (i := 6) (v := ?vv6) rfl (by kernel_rfl) (by kernel_rfl) (by kernel_rfl) (fun _ _ _ h => h) (by rfl) (by assumption) ?hyv6 ?restv6
      case hyv6 => (intro w hSw; (try dsimp only at hSw); first | (go_simp; done) | (go_simp; with_reducible rfl))
      simp only [Act.put, List.setIfInBounds_toArray, List.set_cons_zero, List.set_cons_succ]
      refine take_yes (i := 7) (v := ?vv7) rfl (by kernel_rfl) (by kernel_rfl) (by kernel_rfl) (fun _ _ _ h => h) (by rfl) (by assumption) ?hyv7 ?restv7
      case hyv7 => (intro w hSw; (try dsimp only at hSw); first | (go_simp; done) | (go_simp; with_reducible rfl))
      simp only [Act.put, List.setIfInBounds_toArray, List.set_cons_zero, List.set_cons_succ]
      refine take_yes (i := 8) (v := ?vv8) rfl (by kernel_rfl) (by kernel_rfl) (by kernel_rfl) (fun _ _ _ h => h) (by rfl) (by assumption) ?hyv8 ?restv8
      case hyv8 => (intro w hSw; (try dsimp only at hSw); first | (go_simp; done) | (go_simp; with_reducible rfl))
      simp only [Act.put, List.setIfInBounds_toArray, List.set_cons_zero, List.set_cons_succ]
      refine take_call (i := 9) rfl (by kernel_rfl) (fun Kc hK => ?_)
      go_simp
      (go_at_call 15; refine (lCmp X1 Y1 X2 Y2 _ HG.out).mono ?_; rintro e w3 ⟨rfl, b3⟩)
      refine hK.out _ _ ?_ (fun hHeld => ?_)
      · first | exact ⟨q1, q2, q3, q4, (Below.refl _ _).drew⟩ | exact ⟨cell_on b3 hHeld.1, cell_on b3 hHeld.2.1, cell_on b3 hHeld.2.2.1, cell_on b3 hHeld.2.2.2.1, also hHeld.2.2.2.2 b3⟩
      clear hK Kc
      refine take_yes (i := 10) (v := ?vv10) rfl (by kernel_rfl) (by kernel_rfl) (by kernel_rfl) (fun _ _ _ h => h) (by rfl) (by assumption) ?hyv10 ?restv10
      case hyv10 => (intro w hSw; (try dsimp only at hSw); first | (go_simp; done) | (go_simp; with_reducible rfl))
      simp only [Act.put, List.setIfInBounds_toArray, List.set_cons_zero, List.set_cons_succ]
      refine wpAnyH_done (by kernel_rfl) ?_ _
      go_wp2
      go_roundw
      case rel => exact ⟨K + 1, by omega, by omega, by simp, h1.below hHeld.2.2.2.2, x_p.on hHeld.2.2.2.2, also BB hHeld.2.2.2.2⟩
      case measure => simp [intOf]; omega
    · have hlt' : ¬ (K : Int) < (l : Int) := by omega
      have ⟨x0, x1, x2, x3⟩ := x_p
      go_wp2_with (go_at_call 19; fail)
      refine (rlWindow x y s far wr BX BY BS).mono ?_
      rintro e w4 ⟨a2, l2, c2, rfl, h2, b4⟩
      obtain rfl := win_len h1 h2
      go_wp2_with (go_at_call 18; fail)
      refine (rlSame x y s far a a2 l c c2 w4 (h1.below b4) h2).mono ?_
      rintro e w5 ⟨rfl, b5⟩
      go_wp2_with (go_at_call 12; fail)
      refine (lives6_any w5).mono ?_
      rintro e w6 ⟨rfl, b6⟩
      go_wp2
      go_ret
      exact ⟨rfl, also (also (also BB b4) b5) b6⟩
theorem own : ownKnob Try.prog.godebug = none := by kernel_rfl
theorem cells_pt : Try.prog.cellsOf 23 = 2 := by kernel_rfl
theorem reads_pt {H : Type} (enc : TypeId × Value → H) (W : World) (bs : Nat) (sp : Nat → Bool) (hd : Bool) {a b : Int} (wa : (Lit.int .i64 a).wf = true) (wb : (Lit.int .i64 b).wf = true) : DataW.Trod enc Try.prog W bs sp hd 23 (.agg #[.int .i64 a, .int .i64 b]) (.agg [.lit (.int .i64 a), .lit (.int .i64 b)]) [] :=
  shut_agg2 (y0 := (.lit (.int .i64 a), [])) (y1 := (.lit (.int .i64 b), [])) Try.underlying23 (by kernel_rfl) cells_pt ⟨1, by simp [DataW.trod, Try.underlying2, wa]⟩ ⟨1, by simp [DataW.trod, Try.underlying2, wb]⟩
set_option maxRecDepth 100000 in
theorem lifted (os : Os) (started : os.Started) (H : Type) (enc : TypeId × Value → H) :
    ReturnsInHanded {} Try.checked os 6 .any (Rows.liftWindowsSpec.pre6 enc Try.prog Try.f6 Rows.liftWindowsRow.domain false) (Rows.liftWindowsSpec.post enc Try.prog Try.f6 false true false false) := by
  refine returnsInHanded_of_change (C := Try.checked) own started (by kernel_rfl) Try.func6
    (ChangeSpec.witness6 (enc := enc) (C := Try.checked) false ⟨#[], #[.agg #[.int .i64 0, .int .i64 0], .int .i64 0, .int .i64 0], []⟩ 8 (by kernel_rfl) (by kernel_rfl) (by kernel_rfl) (by kernel_rfl)) ?_
  intro W base args ds gs before hval0 hW hcnd _
  have hval : ∀ (j : Nat) t v, Try.f6.params[j]? = some t → args[j]? = some v → Value.okWide Try.prog W .any base t v := hval0
  have hW' := hW
  obtain ⟨p, q, hA0, hV, rfl, hfz, hnd⟩ := hW
  have hA : DataW.TrodAll enc Try.prog W 0 (fun _ => true) true Try.f6.params.toList args.toList ds p := hA0
  rw [Try.params6] at hA hval
  obtain ⟨v0, vs0, d0, ds0, p0, q0, hargs, rfl, rfl, h0, r0⟩ := trodAll_cons hA
  obtain ⟨v1, vs1, d1, ds1, p1, q1, rfl, rfl, rfl, h1, r1⟩ := trodAll_cons r0
  obtain ⟨v2, vs2, d2, ds2, p2, q2, rfl, rfl, rfl, h2, r2⟩ := trodAll_cons r1
  obtain ⟨rfl, rfl, rfl⟩ := trodAll_nil r2
  obtain rfl : args = #[v0, v1, v2] := by cases args; simp_all
  obtain ⟨rfl, rfl⟩ := trodVars_none hV
  obtain ⟨x0, y0, g0, k0, m0, rfl, rfl, rfl, hx0, hy0⟩ := open_agg2 Try.underlying23 (by kernel_rfl) cells_pt (hval 0 23 v0 rfl rfl) h0
  obtain ⟨a0, ex0, rfl, wa0⟩ := DataW.trod_int Try.underlying2 hx0
  obtain ⟨b0, ey0, rfl, wb0⟩ := DataW.trod_int Try.underlying2 hy0
  simp at ex0 ey0
  subst ex0 ey0
  obtain ⟨a1, rfl, rfl, rfl, w1⟩ := open_int Try.underlying2 (hval 1 2 v1 rfl rfl) h1
  obtain ⟨a2, rfl, rfl, rfl, w2⟩ := open_int Try.underlying3 (hval 2 3 v2 rfl rfl) h2
  clear hA0 hval0
  have hwalk := walk a0 b0 (bd_i64 wa0).1 (bd_i64 wa0).2 (bd_i64 wb0).1 (bd_i64 wb0).2 a1 (bd_i64 w1).1 (bd_i64 w1).2 a2 (bd_i64 w2).1 (bd_i64 w2).2 W
  refine hwalk.mono fun e W' ⟨he, bel⟩ => ?_
  subst he
  exact ⟨_, rfl, _, _, _, [], _, [], hW', trodAll_mk1 (shut_bool Try.underlying4 _), (trodAll_cons_mk (reads_pt enc _ _ _ _ wa0 wb0) (trodAll_cons_mk (shut_int Try.underlying2 w1) (trodAll_cons_mk (shut_int Try.underlying3 w2) trodAll_mk0))), rfl, bel.frame _, fun h => by cases h⟩

/-- The statement. -/
theorem proved : Rows.LiftWindowsSaid :=
  OpenClaim.holds_of_wide 6 Try.f6 rfl rfl rfl rfl rfl rfl rfl ⟨rfl, rfl, rfl, rfl, rfl⟩ rfl rfl rfl rfl rfl (by kernel_rfl) Try.func6 (by kernel_rfl)
    (of_decide_eq_true (by kernel_rfl)) (by unfold Func.isWrapper; first | (rw [if_pos (by decide +kernel)]; kernel_rfl) | (rw [if_neg (by decide +kernel)]; exact ⟨rfl, rfl⟩))
    (fun os started H enc _ => lifted os started H enc)
#print axioms proved
end lwins
end Go.Proofs.Ytnhoaopmnoilbaa
