/-
  NatParses: which number any text is of, and which is of none.
-/
import Derived.Test.YteoepelmapjhcaaDoorNLaw
import Derived.Test.YteoepelmapjhcaaDoorRef3G
import Derived.Test.YteoepelmapjhcaaDoorRef3H
import Derived.OpenShut
import Derived.ShutString
namespace Go.Proofs.YteoepelmapjhcaaDoor
open Go.RowKit
set_option linter.unusedVariables false

theorem sl_none (w : World) (a : Option Addr) : Sl w a 0 0 [] := ⟨rfl, Nat.le_refl _, Nat.zero_le _, fun _ => ⟨rfl, rfl⟩, Or.inl rfl⟩
/-- Every text has a number and an error, which both functions answer. -/
theorem parse_both (u : ByteArray) (hs : u.size ≤ 2100) : ∃ (N : Nat) (E : Int), hf.nlen N ≤ 2000 ∧
    (∀ w, Calls Tryd.prog 29 #[.string u] w fun e w' => ∃ a cap, e = .returned (.tuple #[.slice a (wd.nlen N) cap, .int .i64 E]) ∧ Sl w' a (wd.nlen N) cap (wd.dcells (wd.nlen N) (N : Int)) ∧ Below w.heap.size w w') ∧
    (∀ w, Calls Tryd.prog 32 #[.string u] w fun e w' => ∃ a cap, e = .returned (.tuple #[.slice a (hf.nlen N) cap, .int .i64 E]) ∧ Sl w' a (hf.nlen N) cap (hf.dcells (hf.nlen N) (N : Int)) ∧ Below w.heap.size w w') := by
  rcases hsh : showsB (nums u) with _ | _
  · refine ⟨0, 4, by rw [hf.nlen_zero]; omega, fun w => ?_, fun w => ?_⟩
    · refine (parse_form u w (by omega) hsh).mono ?_
      rintro e w' ⟨rfl, hw⟩
      rw [wd.nlen_zero]
      exact ⟨none, 0, rfl, sl_none _ _, hw ▸ Below.refl _ _⟩
    · refine (rparse_form u w (by omega) hsh).mono ?_
      rintro e w' ⟨a, rfl, hb⟩
      rw [hf.nlen_zero]
      exact ⟨a, 0, rfl, sl_none _ _, hb⟩
  · rcases Nat.lt_or_ge 2000 u.size with hl | hl
    · refine ⟨0, 5, by rw [hf.nlen_zero]; omega, fun w => ?_, fun w => ?_⟩
      · refine (parse_long u w (by omega) hsh hl).mono ?_
        rintro e w' ⟨rfl, hw⟩
        rw [wd.nlen_zero]
        exact ⟨none, 0, rfl, sl_none _ _, hw ▸ Below.refl _ _⟩
      · refine (rparse_long u w (by omega) hsh hl).mono ?_
        rintro e w' ⟨a, rfl, hb⟩
        rw [hf.nlen_zero]
        exact ⟨a, 0, rfl, sl_none _ _, hb⟩
    · refine ⟨rdN (nums u), 0, ?_, fun w => ?_, fun w => ?_⟩
      · have h1 : rdN (nums u) < 10 ^ u.size := by
          refine rdN_lt u.size _ (nums_length u) fun c hc => ?_
          unfold showsB at hsh
          exact (of_decide_eq_true hsh).2.2 c hc
        exact Nat.le_trans (hf.nlen_le (Nat.lt_of_lt_of_le h1 (Nat.pow_le_pow_left (by decide) _))) hl
      · refine (parse_num u w hsh hl).mono ?_
        rintro e w' ⟨a, cap, rfl, ho, hb⟩
        exact ⟨a, cap, rfl, Own.sl ho, hb⟩
      · refine (rparse_num u w hsh hl).mono ?_
        rintro e w' ⟨a, cap, rfl, ho, hb⟩
        exact ⟨a, cap, rfl, Own.sl ho, hb⟩

namespace nparses
open Go.ChangeShapes Go.WideShapes Go.ChangeAt
open Go.ChangeMaps (open_string shut_string)
set_option maxRecDepth 100000 in
set_option maxHeartbeats 4000000 in
theorem walk (s : ByteArray) (w : World) (hs : s.size ≤ maxLen) :
    Calls Tryd.prog 8 #[.string s] w fun e w' => e = .returned (.bool true) ∧ Below w.heap.size w w' := by
  have hT := Below.refl w.heap.size w
  unfold maxLen at hs
  obtain ⟨u, hu, hu'⟩ : ∃ u : ByteArray, u.size ≤ 2100 ∧ u = (if 2100 < s.size then s.extract 0 2100 else s) := by
    refine ⟨_, ?_, rfl⟩
    split
    · rw [ByteArray.size_extract]; omega
    · omega
  obtain ⟨N, E, fN, hP, hR⟩ := parse_both u hu
  have HP : Hid _ := hP
  have HR : Hid _ := hR
  have fN' : hf.nlen N ≤ 1000000000 := by omega
  clear hP hR hu
  rcases Nat.lt_or_ge 2100 s.size with hl | hl
  · rw [if_pos hl] at hu'
    have hl' : (2100 : Int) < (s.size : Int) := by omega
    subst hu'
    go_enter Tryd.func8, Tryd.ntmps8
    go_wp2_with (first
      | (go_at_call 29; refine (HP.out _).mono ?_; rintro e w3 ⟨b, cb, rfl, sb, hbel3⟩; have hT := hT.trans (hbel3.mono hT.size))
      | (go_at_call 32; refine (HR.out _).mono ?_; rintro e w4 ⟨d, cd, rfl, sd, hbel4⟩; have sb := sb.below hbel4; have hT := hT.trans (hbel4.mono hT.size))
      | (go_at_call 13; refine (same_yes b d cb cd N _ sb sd fN').mono ?_; rintro e w6 ⟨rfl, hbel6⟩; have hT := hT.trans (hbel6.mono hT.size))
      | (go_at_call 19; refine (lives_any _).mono ?_; rintro e w15 ⟨rfl, hbel15⟩; have hT := hT.trans (hbel15.mono hT.size)))
    go_ret
    exact ⟨rfl, hT⟩
  · rw [if_neg (by omega)] at hu'
    have hl' : ¬ (2100 : Int) < (s.size : Int) := by omega
    subst hu'
    go_enter Tryd.func8, Tryd.ntmps8
    go_wp2_with (first
      | (go_at_call 29; refine (HP.out _).mono ?_; rintro e w3 ⟨b, cb, rfl, sb, hbel3⟩; have hT := hT.trans (hbel3.mono hT.size))
      | (go_at_call 32; refine (HR.out _).mono ?_; rintro e w4 ⟨d, cd, rfl, sd, hbel4⟩; have sb := sb.below hbel4; have hT := hT.trans (hbel4.mono hT.size))
      | (go_at_call 13; refine (same_yes b d cb cd N _ sb sd fN').mono ?_; rintro e w6 ⟨rfl, hbel6⟩; have hT := hT.trans (hbel6.mono hT.size))
      | (go_at_call 19; refine (lives_any _).mono ?_; rintro e w15 ⟨rfl, hbel15⟩; have hT := hT.trans (hbel15.mono hT.size)))
    go_ret
    exact ⟨rfl, hT⟩
theorem own : ownKnob Tryd.prog.godebug = none := by kernel_rfl
set_option maxRecDepth 100000 in
theorem lifted (os : Os) (started : os.Started) (H : Type) (enc : TypeId × Value → H) :
    ReturnsInHanded {} Tryd.checked os 8 .any (fun w args => (Rows.natParsesSpec.pre enc Tryd.prog Tryd.f8 [] false w args ∧ laidMetH Tryd.prog Rows.natParsesRow.laid w) ∧ sizedMet enc Tryd.prog Tryd.f8 (OpenSpec.ofChange Rows.natParsesSpec) false w args)
      (Rows.natParsesSpec.post enc Tryd.prog Tryd.f8 false true false false) := by
  refine returnsInHanded_of_change_and (C := Tryd.checked) (X := fun w _ => laidMetH Tryd.prog Rows.natParsesRow.laid w) (fun _ _ _ hh h => h.of_heap hh) own started (by kernel_rfl) Tryd.func8
    (ChangeSpec.witness_shaped (enc := enc) (C := Tryd.checked) (os := os) (X := fun w _ => laidMetH Tryd.prog Rows.natParsesRow.laid w) false (World.laidAll Tryd.prog os Rows.natParsesRow.laid) #[.string ByteArray.empty] 8 (World.laidAll_os _ _ _)
      (World.shaped_of_ZipB (by kernel_rfl) (by kernel_rfl)) (by kernel_rfl) (by kernel_rfl) (by kernel_rfl)
      (by rw [MakeChecks.laidMetH_plain _ _ _ (by kernel_rfl)]; exact laidMet_laidAll _ (by kernel_rfl) (by kernel_rfl))) ?_
  intro W base args ds gs before hval0 hW _ _ hL _
  have hval : ∀ (j : Nat) t v, Tryd.f8.params[j]? = some t → args[j]? = some v → Value.okWide Tryd.prog W .any base t v := hval0
  have hW' := hW
  obtain ⟨p, q, hA0, hV, rfl, hfz, hnd⟩ := hW
  have hA : DataW.TrodAll enc Tryd.prog W 0 (fun _ => true) true Tryd.f8.params.toList args.toList ds p := hA0
  rw [Tryd.params8] at hA hval
  obtain ⟨v0, vs0, d0, ds0, p0, q0, hargs, rfl, rfl, h0, r0⟩ := trodAll_cons hA
  obtain ⟨rfl, rfl, rfl⟩ := trodAll_nil r0
  obtain rfl : args = #[v0] := by cases args; simp_all
  obtain ⟨rfl, rfl⟩ := trodVars_none hV
  have hlt : ∀ x ∈ p0, x.block < W.heap.size := fun x hx => by simpa using hW'.lt x (by simpa using hx)
  obtain ⟨a0, rfl, rfl, rfl, w0⟩ := open_string Tryd.underlying9 (hval 0 9 v0 rfl rfl) h0
  clear hA0 hval0
  refine (walk a0 W w0).mono fun e W' ⟨he, bel⟩ => ?_
  subst he
  exact ⟨_, rfl, _, _, _, [], _, [], hW', trodAll_mk1 (shut_bool Tryd.underlying4 _), (trodAll_cons_mk (shut_string Tryd.underlying9 w0) trodAll_mk0), rfl, bel.frame _, fun h => by cases h⟩

theorem said : Rows.NatParsesSaid :=
  OpenClaim.holds_of_wide 8 Tryd.f8 rfl rfl rfl rfl rfl rfl rfl ⟨rfl, rfl, rfl, rfl, rfl⟩ rfl rfl rfl rfl rfl (by kernel_rfl) Tryd.func8 (by kernel_rfl)
    (of_decide_eq_true (by kernel_rfl)) (by unfold Func.isWrapper; first | (rw [if_pos (by decide +kernel)]; kernel_rfl) | (rw [if_neg (by decide +kernel)]; exact ⟨rfl, rfl⟩))
    (fun os started H enc _ => lifted os started H enc)
/-- The program's own looks are off, and no parameter wants a stand-in: what the card asks. -/
theorem plain (f : FuncId) (fn : Func) (hf : Tryd.pinned.checked.prog.funcNamed "zellige/zelligelaw03.NatParses" = some f) (hfn : Tryd.pinned.checked.prog.funcs[f]? = some fn) :
    false = Tryd.pinned.checked.prog.looks [] ∧ ∀ (j : Nat) t, fn.params[j]? = some t → Tryd.pinned.checked.prog.wantsStandIn t = false := by
  obtain rfl : f = 8 := Option.some.inj ((show Tryd.prog.funcNamed "zellige/zelligelaw03.NatParses" = some 8 by kernel_rfl).symm.trans hf) |>.symm
  obtain rfl : fn = Tryd.f8 := (Option.some.inj (Tryd.func8.symm.trans hfn)).symm
  refine ⟨by kernel_rfl, fun j t ht => ?_⟩
  rw [Tryd.params8] at ht
  have hm : t ∈ [9] := by simpa using Array.mem_of_getElem? ht
  have hall : ([9].all fun u => !Tryd.prog.wantsStandIn u) = true := by kernel_rfl
  exact (show Tryd.prog.wantsStandIn t = false by simpa using List.all_eq_true.1 hall t hm)
/-- The statement: the card. -/
theorem proved : Rows.NatParsesCardSaid :=
  Claim7.holds_tied_plain_at .later [] _ _ _ _ said (fun _ h => by cases h) (by kernel_rfl) (fun _ h => by cases h) natParses_row_tie rfl ⟨rfl, rfl⟩ (by kernel_rfl) rfl plain (by kernel_rfl)
#print axioms proved
end nparses
end Go.Proofs.YteoepelmapjhcaaDoor
