/-
  NatOrders: which of any two numbers is greater, how many bits one needs, and that noughts at the end don't count.
-/
import Derived.Test.YteoepelmapjhcaaDoorNLaw
import Derived.Test.YteoepelmapjhcaaDoorBitsA
import Derived.Test.YteoepelmapjhcaaDoorPush
namespace Go.Proofs.YteoepelmapjhcaaDoor
open Go.RowKit
set_option linter.unusedVariables false

namespace norders
open Go.ChangeShapes Go.WideShapes Go.ChangeAt
set_option maxRecDepth 100000 in
set_option maxHeartbeats 4000000 in
theorem walk (a : Option Addr) (la ca u : Nat) (b : Option Addr) (lb cb v : Nat) (w : World) (ha : Sl w a la ca (wd.dcells la (u : Int))) (hu : u < 4294967296 ^ la) (hb : Sl w b lb cb (wd.dcells lb (v : Int))) (hv : v < 4294967296 ^ lb) :
    Calls Tryd.prog 6 #[.slice a la ca, .slice b lb cb] w fun e w' => e = .returned (.bool true) ∧ Below w.heap.size w w' := by
  have hT := Below.refl w.heap.size w
  have HZ : Hid (∀ m x : Nat, x < 4294967296 ^ m → wd.dcells m (x : Int) ++ [.int .u32 0] = wd.dcells (m + 1) (x : Int)) := fun m x hx => by rw [wd.dcells_succ, wd.dg_over hx]
  go_enter Tryd.func6, Tryd.ntmps6
  go_wp2_with (first
    | (go_at_call_of 9 [Value.slice a la ca]; refine (short_any a la ca u _ ha hu).mono ?_; rintro e w1 ⟨a1, ca1, m, x, rfl, hm, hx, hown1, hbel1⟩; have hb1 := hb.below hbel1; have s1 := Own.sl hown1; have hT := hT.trans (hbel1.mono hT.size))
    | (go_at_call 9; refine (short_any b lb cb v _ hb1 hv).mono ?_; rintro e w2 ⟨b1, cb1, n, y, rfl, hn, hy, hown2, hbel2⟩; have s2 := Own.sl hown2; have s1 := s1.below hbel2; have o1 := Own.below hown1 hbel2; have hT := hT.trans (hbel2.mono hT.size))
    | (go_at_call_of 10 [Value.slice a1 m ca1]; refine (rof_any a1 m ca1 x _ s1 hx (by omega)).mono ?_; rintro e w3 ⟨dx, cx, rfl, hown3, hbel3⟩; have s3 := Own.sl hown3; have s1 := s1.below hbel3; have s2 := s2.below hbel3; have o1 := Own.below o1 hbel3; have hT := hT.trans (hbel3.mono hT.size))
    | (go_at_call 10; refine (rof_any b1 n cb1 y _ s2 hy (by omega)).mono ?_; rintro e w4 ⟨dy, cy, rfl, hown4, hbel4⟩; have hF : Four w4 a1 b1 dx dy ca1 cb1 cx cy m n x y := ⟨s1.below hbel4, s2.below hbel4, s3.below hbel4, Own.sl hown4⟩; have o1 := Own.below o1 hbel4; have hT := hT.trans (hbel4.mono hT.size); have fx := hf_few (by omega) hx)
    | (go_at_call_of 24 [Value.slice b1 n cb1]; refine (cmp_any a1 b1 m n ca1 cb1 x y _ hF.a hx hF.b hy).mono ?_; rintro e w5 ⟨rfl, hbel5⟩; have hF := hF.below hbel5; have o1 := Own.below o1 hbel5; have hT := hT.trans (hbel5.mono hT.size))
    | (go_at_call 12; refine (rcmp_any dx dy cx cy x y _ hF.x hF.y).mono ?_; rintro e w6 ⟨rfl, hbel6⟩; have hF := hF.below hbel6; have o1 := Own.below o1 hbel6; have hT := hT.trans (hbel6.mono hT.size))
    | (go_at_call 25; refine (bits_any a1 m ca1 x _ hF.a hx (by omega)).mono ?_; rintro e w' ⟨rfl, hw⟩; subst hw)
    | (go_at_call 26; refine (rbits_any dx cx x _ hF.x fx).mono ?_; rintro e w7 ⟨rfl, hbel7⟩; have hF := hF.below hbel7; have o1 := Own.below o1 hbel7; have hT := hT.trans (hbel7.mono hT.size))
    | (go_at_call 27; refine (trim_any a1 m ca1 x _ hF.a hx (by omega)).mono ?_; rintro e w8 ⟨at', ct, rfl, hown8, hbel8⟩; have hF := hF.below hbel8; have o1 := Own.below o1 hbel8; have sT := Own.sl hown8; have hT := hT.trans (hbel8.mono hT.size))
    | (go_at_call 13; refine (same_yes at' dx ct cx x _ sT hF.x fx).mono ?_; rintro e w9 ⟨rfl, hbel9⟩; have o1 := Own.below o1 hbel9; have hT := hT.trans (hbel9.mono hT.size); obtain ⟨a2, c2, w10, hrun, s5, s6, hbel10⟩ := run_push o1 (by omega) hT.size; have hT := hT.trans hbel10; rw [HZ.out m x hx] at s5; have HR : Hid _ := hrun; clear hrun)
    | (at_builtin; refine wpList_append_run rfl (.tmp 37) (.tmp 38) 23 rfl _ _ _ w10 rfl rfl HR.out ?_)
    | (go_at_call 24; refine (cmp_any a1 a2 m (m + 1) ca1 c2 x x _ s6 hx s5 (Nat.lt_of_lt_of_le hx (Nat.pow_le_pow_right (by decide) (by omega)))).mono ?_; rw [cmpI_self]; rintro e w11 ⟨rfl, hbel11⟩; have hT := hT.trans (hbel11.mono hT.size))
    | (go_at_call 19; refine (lives_any _).mono ?_; rintro e w15 ⟨rfl, hbel15⟩; have hT := hT.trans (hbel15.mono hT.size)))
  go_ret
  exact ⟨rfl, hT⟩
theorem own : ownKnob Tryd.prog.godebug = none := by kernel_rfl
set_option maxRecDepth 100000 in
theorem lifted (os : Os) (started : os.Started) (H : Type) (enc : TypeId × Value → H) :
    ReturnsInHanded {} Tryd.checked os 6 .any (fun w args => (Rows.natOrdersSpec.pre enc Tryd.prog Tryd.f6 [] false w args ∧ laidMetH Tryd.prog Rows.natOrdersRow.laid w) ∧ sizedMet enc Tryd.prog Tryd.f6 (OpenSpec.ofChange Rows.natOrdersSpec) false w args)
      (Rows.natOrdersSpec.post enc Tryd.prog Tryd.f6 false true false false) := by
  refine returnsInHanded_of_change_and (C := Tryd.checked) (X := fun w _ => laidMetH Tryd.prog Rows.natOrdersRow.laid w) (fun _ _ _ hh h => h.of_heap hh) own started (by kernel_rfl) Tryd.func6
    (ChangeSpec.witness_shaped (enc := enc) (C := Tryd.checked) (os := os) (X := fun w _ => laidMetH Tryd.prog Rows.natOrdersRow.laid w) false (World.laidAll Tryd.prog os Rows.natOrdersRow.laid) #[.slice none 0 0, .slice none 0 0] 8 (World.laidAll_os _ _ _)
      (World.shaped_of_ZipB (by kernel_rfl) (by kernel_rfl)) (by kernel_rfl) (by kernel_rfl) (by kernel_rfl)
      (by rw [MakeChecks.laidMetH_plain _ _ _ (by kernel_rfl)]; exact laidMet_laidAll _ (by kernel_rfl) (by kernel_rfl))) ?_
  intro W base args ds gs before hval0 hW _ _ hL _
  have hval : ∀ (j : Nat) t v, Tryd.f6.params[j]? = some t → args[j]? = some v → Value.okWide Tryd.prog W .any base t v := hval0
  have hW' := hW
  obtain ⟨p, q, hA0, hV, rfl, hfz, hnd⟩ := hW
  have hA : DataW.TrodAll enc Tryd.prog W 0 (fun _ => true) true Tryd.f6.params.toList args.toList ds p := hA0
  rw [Tryd.params6] at hA hval
  obtain ⟨v0, vs0, d0, ds0, p0, q0, hargs, rfl, rfl, h0, r0⟩ := trodAll_cons hA
  obtain ⟨v1, vs1, d1, ds1, p1, q1, rfl, rfl, rfl, h1, r1⟩ := trodAll_cons r0
  obtain ⟨rfl, rfl, rfl⟩ := trodAll_nil r1
  obtain rfl : args = #[v0, v1] := by cases args; simp_all
  obtain ⟨rfl, rfl⟩ := trodVars_none hV
  have hlt : ∀ x ∈ p0 ++ p1, x.block < W.heap.size := fun x hx => by simpa using hW'.lt x (by simpa using hx)
  obtain ⟨a0, l0, c0, rfl⟩ := okWide_slice Tryd.underlying23 (hval 0 23 v0 rfl rfl)
  have h0k := h0
  obtain ⟨f0, hf0⟩ := h0
  obtain ⟨u0, hu0, hs0⟩ := nat_view hf0 (fun b o h => hfz b o (by simp [h])) (fun x hx => hlt x (by simp [hx]))
  obtain ⟨a1, l1, c1, rfl⟩ := okWide_slice Tryd.underlying23 (hval 1 23 v1 rfl rfl)
  have h1k := h1
  obtain ⟨f1, hf1⟩ := h1
  obtain ⟨u1, hu1, hs1⟩ := nat_view hf1 (fun b o h => hfz b o (by simp [h])) (fun x hx => hlt x (by simp [hx]))
  clear hA0 hval0
  refine (walk a0 l0 c0 u0 a1 l1 c1 u1 W hs0 hu0 hs1 hu1).mono fun e W' ⟨he, bel⟩ => ?_
  subst he
  exact ⟨_, rfl, _, _, _, [], _, [], hW', trodAll_mk1 (shut_bool Tryd.underlying4 _), (trodAll_cons_mk (Below.trod laidOutAll (by kernel_rfl) (of_decide_eq_true (by kernel_rfl)) h0k bel (fun x hx => hlt x (by simp [hx]))) (trodAll_cons_mk (Below.trod laidOutAll (by kernel_rfl) (of_decide_eq_true (by kernel_rfl)) h1k bel (fun x hx => hlt x (by simp [hx]))) trodAll_mk0)), rfl, bel.frame _, fun h => by cases h⟩

theorem said : Rows.NatOrdersSaid :=
  OpenClaim.holds_of_wide 6 Tryd.f6 rfl rfl rfl rfl rfl rfl rfl ⟨rfl, rfl, rfl, rfl, rfl⟩ rfl rfl rfl rfl rfl (by kernel_rfl) Tryd.func6 (by kernel_rfl)
    (of_decide_eq_true (by kernel_rfl)) (by unfold Func.isWrapper; first | (rw [if_pos (by decide +kernel)]; kernel_rfl) | (rw [if_neg (by decide +kernel)]; exact ⟨rfl, rfl⟩))
    (fun os started H enc _ => lifted os started H enc)
/-- The program's own looks are off, and no parameter wants a stand-in: what the card asks. -/
theorem plain (f : FuncId) (fn : Func) (hf : Tryd.pinned.checked.prog.funcNamed "zellige/zelligelaw03.NatOrders" = some f) (hfn : Tryd.pinned.checked.prog.funcs[f]? = some fn) :
    false = Tryd.pinned.checked.prog.looks [] ∧ ∀ (j : Nat) t, fn.params[j]? = some t → Tryd.pinned.checked.prog.wantsStandIn t = false := by
  obtain rfl : f = 6 := Option.some.inj ((show Tryd.prog.funcNamed "zellige/zelligelaw03.NatOrders" = some 6 by kernel_rfl).symm.trans hf) |>.symm
  obtain rfl : fn = Tryd.f6 := (Option.some.inj (Tryd.func6.symm.trans hfn)).symm
  refine ⟨by kernel_rfl, fun j t ht => ?_⟩
  rw [Tryd.params6] at ht
  have hm : t ∈ [23, 23] := by simpa using Array.mem_of_getElem? ht
  have hall : ([23, 23].all fun u => !Tryd.prog.wantsStandIn u) = true := by kernel_rfl
  exact (show Tryd.prog.wantsStandIn t = false by simpa using List.all_eq_true.1 hall t hm)
/-- The statement: the card. -/
theorem proved : Rows.NatOrdersCardSaid :=
  Claim7.holds_tied_plain_at .later [] _ _ _ _ said (fun _ h => by cases h) (by kernel_rfl) (fun _ h => by cases h) natOrders_row_tie rfl ⟨rfl, rfl⟩ (by kernel_rfl) rfl plain (by kernel_rfl)
#print axioms proved
end norders
end Go.Proofs.YteoepelmapjhcaaDoor
