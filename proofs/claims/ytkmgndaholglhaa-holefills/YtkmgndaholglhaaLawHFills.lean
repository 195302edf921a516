/-
  HoleFills: how a hole of any corners is filled, or that it is not, and by how many triangles.
-/
import Derived.Test.YtkmgndaholglhaaP16
import Derived.Test.YtkmgndaholglhaaChecked
import Derived.Test.YtkmgndaholglhaaRows
import Derived.Deep.RegionHeld3
import Derived.ProofKit
import Derived.OpenShut
import Derived.Lib.SmallJoins
namespace Go.Proofs.Ytkmgndaholglhaa
open Go.RowKit
set_option linter.unusedVariables false

namespace hfills
open Go.ChangeShapes Go.WideShapes Go.ChangeAt Go.Joins
theorem take_of {L : List Pt} {m j : Nat} {p : Pt} (h : (L.take m)[j]? = some p) : L[j]? = some p := by
  rw [List.getElem?_take] at h
  split at h
  · exact h
  · cases h
theorem top_len {L : List Pt} {n : Nat} {T : List T3} (hn : L.length = n) (h : fillTop L = some T) : 3 ≤ n ∧ T.length = n - 2 := by
  unfold fillTop at h
  split at h
  · cases h
  · next q =>
    have := fill_len (bestB_in L) _ _ T (Nat.le_refl _) (by rw [List.length_range]; omega) h
    rw [List.length_range] at this
    omega
set_option maxRecDepth 100000 in
set_option maxHeartbeats 8000000 in
theorem walk (s0 : Option Addr) (n0 cap : Nat) (L0 : List Pt) (w : World) (hL0 : PSl w s0 n0 cap L0) (hc : cap ≤ maxLen) (hR0 : ∀ (j : Nat) (x y : Int), L0[j]? = some (x, y) → R2 (x, y)) :
    Calls Try.prog 3 #[.slice s0 n0 cap] w fun e w' => e = .returned (.bool true) ∧ Below w.heap.size w w' := by
  by_cases hbig : 16 < n0
  · obtain ⟨b, o, _, _, rfl, _, _, _⟩ := hL0.at (k := 0) (by omega)
    have hL := hL0.take (m := 16) (by decide) (by omega)
    have hc16 : 16 ≤ cap := by have := hL0.room; omega
    have hb1 : (16 : Int) < (n0 : Int) := by omega
    have hc16' : (16 : Int) ≤ (cap : Int) := by omega
    have RL : ∀ (j : Nat) (x y : Int), (L0.take 16)[j]? = some (x, y) → R2 (x, y) := fun j x y h => hR0 j x y (take_of h)
    generalize L0.take 16 = L at hL RL
    clear hL0 hR0 hc
    have HR : Hid (∀ (j : Nat) (x y : Int), L[j]? = some (x, y) → R2 (x, y)) := RL
    have hlen := hL.len
    obtain ⟨a3, c3, w3, hr3, p3, b3⟩ := append_pts_run w 22 (some ⟨b, o, none⟩) 16 cap L hL (by omega)
    have HP3 : Hid (PSl w3 a3 16 c3 L) := p3
    obtain ⟨a4, c4, w4, hr4, p4, b4⟩ := append_pts_run w3 22 a3 16 c3 L p3 (by omega)
    have CF : Hid _ := hFillTop a4 16 c4 L w4 p4 (by omega)
    clear p3 p4 hL RL
    go_enter Try.func3, Try.ntmps3
    go_wp2_with (first | (go_at_call 5; fail) | (at_builtin; first | (refine Go.Lib.wpList_append_run _ rfl _ _ 22 22 rfl _ _ rfl rfl _ _ hr3 ?_; clear hr3) | (refine Go.Lib.wpList_append_run _ rfl _ _ 22 22 rfl _ _ rfl rfl _ _ hr4 ?_; clear hr4)))
    refine Calls.mono CF.out ?_
    rintro e w5 ⟨⟨a, m, c, q, rfl, told⟩, b5⟩
    have b35 : Below w3.heap.size w3 w5 := also b4 b5
    have b05 : Below w.heap.size w w5 := also b3 b35
    have CR : Hid _ := rhFill a3 16 c3 L w5 (HP3.out.below b35) (by omega) HR.out
    clear CF
    go_wp2_with (go_at_call 6; fail)
    refine Calls.mono CR.out ?_
    rintro e w6 ⟨⟨a', m', c', q', rfl, told'⟩, b6⟩
    have b06 : Below w.heap.size w w6 := also b05 b6
    clear CR
    cases hT : fillTop L with
    | none =>
      rw [hT] at told told'
      obtain ⟨rfl, rfl, rfl, rfl⟩ := told
      obtain ⟨rfl, rfl, ow'⟩ := told'
      have CS : Hid (Calls Try.prog 7 #[.slice none 0 0, .slice a' 0 c'] w6 fun e w' => e = .returned (.bool true) ∧ Below w6.heap.size w6 w') := rhSame none a' w6.heap.size w5.heap.size 0 0 c' [] w6 (ownS_none w6 w6.heap.size 37 3) ow' rfl (by omega)
      clear ow'
      go_wp2_with (go_at_call 7; fail)
      refine Calls.mono CS.out ?_
      rintro e w7 ⟨rfl, b7⟩
      have CL : Hid _ := hLives w7
      clear CS
      go_wp2_with (go_at_call 8; fail)
      refine Calls.mono CL.out ?_
      rintro e w8 ⟨rfl, b8⟩
      clear CL
      go_wp2
      go_ret
      exact ⟨rfl, also (also b06 b7) b8⟩
    | some T =>
      rw [hT] at told told'
      obtain ⟨rfl, hm, ow⟩ := told
      obtain ⟨rfl, hm', ow'⟩ := told'
      obtain ⟨h3, hTn⟩ := top_len hlen hT
      rw [List.length_nil, Nat.zero_add] at hm
      rw [List.nil_append] at ow
      obtain rfl : m = m' := by omega
      have CS : Hid (Calls Try.prog 7 #[.slice a m c, .slice a' m c'] w6 fun e w' => e = .returned (.bool true) ∧ Below w6.heap.size w6 w') := rhSame a a' w4.heap.size w5.heap.size m c c' T w6 (ow.below b6) ow' hm (by omega)
      have hmi : (m : Int) = (16 : Int) - 2 := by omega
      have HMI : Hid _ := hmi
      clear ow ow' hm hm' hmi
      go_wp2_with (go_at_call 7; fail)
      refine Calls.mono CS.out ?_
      rintro e w7 ⟨rfl, b7⟩
      have CL : Hid _ := hLives w7
      have hmi := HMI.out
      clear CS
      go_wp2_with (go_at_call 8; fail)
      refine Calls.mono CL.out ?_
      rintro e w8 ⟨rfl, b8⟩
      clear CL
      go_wp2
      go_ret
      exact ⟨rfl, also (also b06 b7) b8⟩
  · have hb1 : ¬ (16 : Int) < (n0 : Int) := by omega
    obtain ⟨L, rfl⟩ : ∃ L, L = L0 := ⟨_, rfl⟩
    have hL := hL0
    have RL := hR0
    clear hL0 hR0 hc
    have HR : Hid (∀ (j : Nat) (x y : Int), L[j]? = some (x, y) → R2 (x, y)) := RL
    have hlen := hL.len
    obtain ⟨a3, c3, w3, hr3, p3, b3⟩ := append_pts_run w 22 s0 n0 cap L hL (by omega)
    have HP3 : Hid (PSl w3 a3 n0 c3 L) := p3
    obtain ⟨a4, c4, w4, hr4, p4, b4⟩ := append_pts_run w3 22 a3 n0 c3 L p3 (by omega)
    have CF : Hid _ := hFillTop a4 n0 c4 L w4 p4 (by omega)
    clear p3 p4 hL RL
    go_enter Try.func3, Try.ntmps3
    go_wp2_with (first | (go_at_call 5; fail) | (at_builtin; first | (refine Go.Lib.wpList_append_run _ rfl _ _ 22 22 rfl _ _ rfl rfl _ _ hr3 ?_; clear hr3) | (refine Go.Lib.wpList_append_run _ rfl _ _ 22 22 rfl _ _ rfl rfl _ _ hr4 ?_; clear hr4)))
    refine Calls.mono CF.out ?_
    rintro e w5 ⟨⟨a, m, c, q, rfl, told⟩, b5⟩
    have b35 : Below w3.heap.size w3 w5 := also b4 b5
    have b05 : Below w.heap.size w w5 := also b3 b35
    have CR : Hid _ := rhFill a3 n0 c3 L w5 (HP3.out.below b35) (by omega) HR.out
    clear CF
    go_wp2_with (go_at_call 6; fail)
    refine Calls.mono CR.out ?_
    rintro e w6 ⟨⟨a', m', c', q', rfl, told'⟩, b6⟩
    have b06 : Below w.heap.size w w6 := also b05 b6
    clear CR
    cases hT : fillTop L with
    | none =>
      rw [hT] at told told'
      obtain ⟨rfl, rfl, rfl, rfl⟩ := told
      obtain ⟨rfl, rfl, ow'⟩ := told'
      have CS : Hid (Calls Try.prog 7 #[.slice none 0 0, .slice a' 0 c'] w6 fun e w' => e = .returned (.bool true) ∧ Below w6.heap.size w6 w') := rhSame none a' w6.heap.size w5.heap.size 0 0 c' [] w6 (ownS_none w6 w6.heap.size 37 3) ow' rfl (by omega)
      clear ow'
      go_wp2_with (go_at_call 7; fail)
      refine Calls.mono CS.out ?_
      rintro e w7 ⟨rfl, b7⟩
      have CL : Hid _ := hLives w7
      clear CS
      go_wp2_with (go_at_call 8; fail)
      refine Calls.mono CL.out ?_
      rintro e w8 ⟨rfl, b8⟩
      clear CL
      go_wp2
      go_ret
      exact ⟨rfl, also (also b06 b7) b8⟩
    | some T =>
      rw [hT] at told told'
      obtain ⟨rfl, hm, ow⟩ := told
      obtain ⟨rfl, hm', ow'⟩ := told'
      obtain ⟨h3, hTn⟩ := top_len hlen hT
      rw [List.length_nil, Nat.zero_add] at hm
      rw [List.nil_append] at ow
      obtain rfl : m = m' := by omega
      have CS : Hid (Calls Try.prog 7 #[.slice a m c, .slice a' m c'] w6 fun e w' => e = .returned (.bool true) ∧ Below w6.heap.size w6 w') := rhSame a a' w4.heap.size w5.heap.size m c c' T w6 (ow.below b6) ow' hm (by omega)
      have hmi : (m : Int) = (n0 : Int) - 2 := by omega
      have HMI : Hid _ := hmi
      clear ow ow' hm hm' hmi
      go_wp2_with (go_at_call 7; fail)
      refine Calls.mono CS.out ?_
      rintro e w7 ⟨rfl, b7⟩
      have CL : Hid _ := hLives w7
      have hmi := HMI.out
      clear CS
      go_wp2_with (go_at_call 8; fail)
      refine Calls.mono CL.out ?_
      rintro e w8 ⟨rfl, b8⟩
      clear CL
      go_wp2
      go_ret
      exact ⟨rfl, also (also b06 b7) b8⟩
theorem own : ownKnob Try.prog.godebug = none := by kernel_rfl
set_option maxRecDepth 100000 in
theorem lifted (os : Os) (started : os.Started) (H : Type) (enc : TypeId × Value → H) :
    ReturnsInHanded {} Try.checked os 3 .any (Rows.holeFillsSpec.pre6 enc Try.prog Try.f3 Rows.holeFillsRow.domain false) (Rows.holeFillsSpec.post enc Try.prog Try.f3 false true false false) := by
  refine returnsInHanded_of_change (C := Try.checked) own started (by kernel_rfl) Try.func3
    (ChangeSpec.witness6 (enc := enc) (C := Try.checked) false ⟨#[], #[.slice none 0 0], []⟩ 8 (by kernel_rfl) (by kernel_rfl) (by kernel_rfl) (by kernel_rfl)) ?_
  intro W base args ds gs before hval0 hW hcnd _
  have hval : ∀ (j : Nat) t v, Try.f3.params[j]? = some t → args[j]? = some v → Value.okWide Try.prog W .any base t v := hval0
  have hW' := hW
  obtain ⟨p, q, hA0, hV, rfl, hfz, hnd⟩ := hW
  have hA : DataW.TrodAll enc Try.prog W 0 (fun _ => true) true Try.f3.params.toList args.toList ds p := hA0
  rw [Try.params3] at hA hval
  obtain ⟨v0, vs0, d0, ds0, p0, q0, hargs, rfl, rfl, h0, r0⟩ := trodAll_cons hA
  obtain ⟨rfl, rfl, rfl⟩ := trodAll_nil r0
  obtain rfl : args = #[v0] := by cases args; simp_all
  obtain ⟨rfl, rfl⟩ := trodVars_none hV
  have hlt : ∀ x ∈ p0, x.block < W.heap.size := fun x hx => by simpa using hW'.lt x (by simpa using hx)
  obtain ⟨a0, l0, c0, rfl⟩ := okWide_slice Try.underlying22 (hval 0 22 v0 rfl rfl)
  have h0k := h0
  obtain ⟨f0, hf0⟩ := h0
  obtain ⟨L0, hL0, hc0, hR0⟩ := pts_view hf0 (fun b o h => hfz b o (by simp [h])) (fun x hx => hlt x (by simp [hx]))
  clear hA0 hval0
  have hwalk := walk a0 l0 c0 L0 W hL0 hc0 hR0
  refine hwalk.mono fun e W' ⟨he, bel⟩ => ?_
  subst he
  exact ⟨_, rfl, _, _, _, [], _, [], hW', trodAll_mk1 (shut_bool Try.underlying4 _), (trodAll_cons_mk (Below.trod laidOutP (by kernel_rfl) (of_decide_eq_true (by kernel_rfl)) h0k bel (fun x hx => hlt x (by simp [hx]))) trodAll_mk0), rfl, bel.frame _, fun h => by cases h⟩

/-- The statement. -/
theorem proved : Rows.HoleFillsSaid :=
  OpenClaim.holds_of_wide 3 Try.f3 rfl rfl rfl rfl rfl rfl rfl ⟨rfl, rfl, rfl, rfl, rfl⟩ rfl rfl rfl rfl rfl (by kernel_rfl) Try.func3 (by kernel_rfl)
    (of_decide_eq_true (by kernel_rfl)) (by unfold Func.isWrapper; first | (rw [if_pos (by decide +kernel)]; kernel_rfl) | (rw [if_neg (by decide +kernel)]; exact ⟨rfl, rfl⟩))
    (fun os started H enc _ => lifted os started H enc)
#print axioms proved
end hfills
end Go.Proofs.Ytkmgndaholglhaa
