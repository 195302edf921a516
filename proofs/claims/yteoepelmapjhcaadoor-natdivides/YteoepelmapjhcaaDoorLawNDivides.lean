/-
  NatDivides: the quotient and the rest of any two numbers, or that there are none.
-/
import Derived.Test.YteoepelmapjhcaaDoorNLaw
import Derived.Test.YteoepelmapjhcaaDoorKnuF
import Derived.Test.YteoepelmapjhcaaDoorRef3I
namespace Go.Proofs.YteoepelmapjhcaaDoor
open Go.RowKit
set_option linter.unusedVariables false

theorem hf_less {u m : Nat} (hm : m ≤ 20) (h : u < 4294967296 ^ m) : hf.nlen u ≤ 40 := by
  have : hf.nlen u ≤ 2 * m := hf.nlen_le (by rw [pow_halves]; exact h)
  omega
theorem hf_le {u v : Nat} (h : u ≤ v) : hf.nlen u ≤ hf.nlen v := hf.nlen_le (Nat.lt_of_le_of_lt h (hf.nlen_lt v))
theorem rof_zero (a : Option Addr) (l ca : Nat) (w : World) (ha : Sl w a l ca (wd.dcells l ((0 : Nat) : Int))) (h : (0 : Nat) < 4294967296 ^ l) (hl : l ≤ 20) :
    Calls Tryd.prog 10 #[.slice a l ca] w fun e w' => ∃ a' cap', e = .returned (.slice a' 0 cap') ∧ Below w.heap.size w w' := by
  have h := rof_any a l ca 0 w ha h (by omega)
  rw [hf.nlen_zero] at h
  refine h.mono ?_
  rintro e w' ⟨a', cap', rfl, _, hb⟩
  exact ⟨a', cap', rfl, hb⟩

namespace ndivides
open Go.ChangeShapes Go.WideShapes Go.ChangeAt
set_option maxRecDepth 100000 in
set_option maxHeartbeats 4000000 in
theorem walk (a : Option Addr) (la ca u : Nat) (b : Option Addr) (lb cb v : Nat) (w : World) (ha : Sl w a la ca (wd.dcells la (u : Int))) (hu : u < 4294967296 ^ la) (hb : Sl w b lb cb (wd.dcells lb (v : Int))) (hv : v < 4294967296 ^ lb) :
    Calls Tryd.prog 4 #[.slice a la ca, .slice b lb cb] w fun e w' => e = .returned (.bool true) ∧ Below w.heap.size w w' := by
  have hT := Below.refl w.heap.size w
  go_enter Tryd.func4, Tryd.ntmps4
  go_wp2_with (first
    | (go_at_call_of 9 [Value.slice a la ca]; refine (short_any a la ca u _ ha hu).mono ?_; rintro e w1 ⟨a1, ca1, m, x, rfl, hm, hx, hown1, hbel1⟩; have hb1 := hb.below hbel1; have s1 := Own.sl hown1; have hT := hT.trans (hbel1.mono hT.size))
    | (go_at_call 9; refine (short_any b lb cb v _ hb1 hv).mono ?_; rintro e w2 ⟨b1, cb1, n, y, rfl, hn, hy, hown2, hbel2⟩; have s2 := Own.sl hown2; have s1 := s1.below hbel2; have hT := hT.trans (hbel2.mono hT.size))
    | (go_at_call 20; fail))
  rcases Nat.eq_zero_or_pos y with h0 | h0
  · subst h0
    refine (divMod_zero a1 b1 m n ca1 cb1 x _ s1 hx s2).mono ?_
    rintro e w6 ⟨rfl, hw⟩
    subst hw
    go_wp2_with (first
      | (go_at_call 10; refine (rof_zero b1 n cb1 _ s2 hy hn).mono ?_; rintro e w7 ⟨d7, c7, rfl, hbel7⟩; have hT := hT.trans (hbel7.mono hT.size))
      | (go_at_call 19; refine (lives_any _).mono ?_; rintro e w15 ⟨rfl, hbel15⟩; have hT := hT.trans (hbel15.mono hT.size)))
    go_ret
    exact ⟨rfl, hT⟩
  · refine (divMod_any a1 b1 m n ca1 cb1 x y _ s1 hx (by omega) s2 hy h0).mono ?_
    rintro e w6 ⟨aq, cq, ar, cr, rfl, hownQ, hownR, hbel6⟩
    have sQ := Own.sl hownQ
    have sR := Own.sl hownR
    have s1 := s1.below hbel6
    have s2 := s2.below hbel6
    have hT := hT.trans (hbel6.mono hT.size)
    have fx := hf_less hm hx
    have fy := hf_less hn hy
    have fQ' : hf.nlen (x / y) ≤ 1000000000 := Nat.le_trans (hf_le (Nat.div_le_self x y)) (by omega)
    have fR' : hf.nlen (x % y) ≤ 1000000000 := Nat.le_trans (hf_le (Nat.mod_le x y)) (by omega)
    have gy : 0 < hf.nlen y := hf.nlen_pos h0
    obtain ⟨Q, hQ⟩ : ∃ Q, Q = x / y := ⟨_, rfl⟩
    obtain ⟨R, hR⟩ : ∃ R, R = x % y := ⟨_, rfl⟩
    have HD : Hid _ := fun (w0 : World) (dx dy : Option Addr) (cx cy : Nat) h1 h2 => rdivMod_any dx dy cx cy x y w0 h1 h2 (by omega) (by omega) h0
    rw [← hQ] at sQ fQ'
    rw [← hR] at sR fR'
    have HDm : Hid (∀ (w0 : World) (dx dy : Option Addr) (cx cy : Nat), Sl w0 dx (hf.nlen x) cx (hf.dcells (hf.nlen x) (x : Int)) → Sl w0 dy (hf.nlen y) cy (hf.dcells (hf.nlen y) (y : Int)) → Calls Tryd.prog 21 #[.slice dx (hf.nlen x) cx, .slice dy (hf.nlen y) cy] w0 fun e w' => ∃ aq cq ar cr, e = .returned (.tuple #[.slice aq (hf.nlen Q) cq, .slice ar (hf.nlen R) cr]) ∧
      Sl w' aq (hf.nlen Q) cq (hf.dcells (hf.nlen Q) (Q : Int)) ∧ Sl w' ar (hf.nlen R) cr (hf.dcells (hf.nlen R) (R : Int)) ∧ Below w0.heap.size w0 w') := by rw [hQ, hR]; exact HD.out
    rw [← hQ, ← hR]
    clear hQ hR hownQ hownR HD
    go_wp2_with (first
      | (go_at_call_of 10 [Value.slice a1 m ca1]; refine (rof_any a1 m ca1 x _ s1 hx (by omega)).mono ?_; rintro e w8 ⟨dx, cx, rfl, hown8, hbel8⟩; have sX := Own.sl hown8; have sY := sY.below hbel8; have sQ := sQ.below hbel8; have sR := sR.below hbel8; have hT := hT.trans (hbel8.mono hT.size))
      | (go_at_call 10; refine (rof_any b1 n cb1 y _ s2 hy (by omega)).mono ?_; rintro e w7 ⟨dy, cy, rfl, hown7, hbel7⟩; have sY := Own.sl hown7; have s1 := s1.below hbel7; have sQ := sQ.below hbel7; have sR := sR.below hbel7; have hT := hT.trans (hbel7.mono hT.size))
      | (go_at_call 21; refine (HDm.out _ dx dy cx cy sX sY).mono ?_; rintro e w9 ⟨am, cm, an, cn, rfl, sM, sN, hbel9⟩; have sQ := sQ.below hbel9; have sR := sR.below hbel9; have hT := hT.trans (hbel9.mono hT.size))
      | (go_at_call_of 13 [Value.slice am (hf.nlen Q) cm]; refine (same_yes aq am cq cm Q _ sQ sM fQ').mono ?_; rintro e w10 ⟨rfl, hbel10⟩; have sR := sR.below hbel10; have sN := sN.below hbel10; have hT := hT.trans (hbel10.mono hT.size))
      | (go_at_call 13; refine (same_yes ar an cr cn R _ sR sN fR').mono ?_; rintro e w11 ⟨rfl, hbel11⟩; have hT := hT.trans (hbel11.mono hT.size))
      | (go_at_call 19; refine (lives_any _).mono ?_; rintro e w15 ⟨rfl, hbel15⟩; have hT := hT.trans (hbel15.mono hT.size)))
    go_ret
    exact ⟨rfl, hT⟩
theorem own : ownKnob Tryd.prog.godebug = none := by kernel_rfl
set_option maxRecDepth 100000 in
theorem lifted (os : Os) (started : os.Started) (H : Type) (enc : TypeId × Value → H) :
    ReturnsInHanded {} Tryd.checked os 4 .any (fun w args => (Rows.natDividesSpec.pre enc Tryd.prog Tryd.f4 [] false w args ∧ laidMetH Tryd.prog Rows.natDividesRow.laid w) ∧ sizedMet enc Tryd.prog Tryd.f4 (OpenSpec.ofChange Rows.natDividesSpec) false w args)
      (Rows.natDividesSpec.post enc Tryd.prog Tryd.f4 false true false false) := by
  refine returnsInHanded_of_change_and (C := Tryd.checked) (X := fun w _ => laidMetH Tryd.prog Rows.natDividesRow.laid w) (fun _ _ _ hh h => h.of_heap hh) own started (by kernel_rfl) Tryd.func4
    (ChangeSpec.witness_shaped (enc := enc) (C := Tryd.checked) (os := os) (X := fun w _ => laidMetH Tryd.prog Rows.natDividesRow.laid w) false (World.laidAll Tryd.prog os Rows.natDividesRow.laid) #[.slice none 0 0, .slice none 0 0] 8 (World.laidAll_os _ _ _)
      (World.shaped_of_ZipB (by kernel_rfl) (by kernel_rfl)) (by kernel_rfl) (by kernel_rfl) (by kernel_rfl)
      (by rw [MakeChecks.laidMetH_plain _ _ _ (by kernel_rfl)]; exact laidMet_laidAll _ (by kernel_rfl) (by kernel_rfl))) ?_
  intro W base args ds gs before hval0 hW _ _ hL _
  have hval : ∀ (j : Nat) t v, Tryd.f4.params[j]? = some t → args[j]? = some v → Value.okWide Tryd.prog W .any base t v := hval0
  have hW' := hW
  obtain ⟨p, q, hA0, hV, rfl, hfz, hnd⟩ := hW
  have hA : DataW.TrodAll enc Tryd.prog W 0 (fun _ => true) true Tryd.f4.params.toList args.toList ds p := hA0
  rw [Tryd.params4] at hA hval
  obtain ⟨v0, vs0, d0, ds0, p0, q0, hargs, rfl, rfl, h0, r0⟩ := trodAll_cons hA
  obtain ⟨v1, vs1, d1, ds1, p1, q1, rfl, rfl, rfl, h1, r1⟩ := trodAll_cons r0
  obtain ⟨rfl, rfl, rfl⟩ := trodAll_nil r1
  obtain rfl : args = #[v0, v1] := by cases args; simp_all
  obtain ⟨rfl, rfl⟩ := trodVars_none hV
  have hlt : ∀ x ∈ p0 ++ p1, x.block < W.heap.size := fun x hx => by simpa using hW'.lt x (by simpa using hx)
  obtain ⟨a0, l0, c0, rfl⟩ := okWide_slice Tryd.underlying23 (hval 0 23 v0 rfl rfl)
  have h0k := h0
  obtain ⟨f0, hf0⟩ := h0
  obtain ⟨u0, hu0, hs0⟩ := nat_view hf0 (fun b o h => hfz b o (by simp [h])) (fun x hx => hlt x (by simp [hx]))
  obtain ⟨a1, l1, c1, rfl⟩ := okWide_slice Tryd.underlying23 (hval 1 23 v1 rfl rfl)
  have h1k := h1
  obtain ⟨f1, hf1⟩ := h1
  obtain ⟨u1, hu1, hs1⟩ := nat_view hf1 (fun b o h => hfz b o (by simp [h])) (fun x hx => hlt x (by simp [hx]))
  clear hA0 hval0
  refine (walk a0 l0 c0 u0 a1 l1 c1 u1 W hs0 hu0 hs1 hu1).mono fun e W' ⟨he, bel⟩ => ?_
  subst he
  exact ⟨_, rfl, _, _, _, [], _, [], hW', trodAll_mk1 (shut_bool Tryd.underlying4 _), (trodAll_cons_mk (Below.trod laidOutAll (by kernel_rfl) (of_decide_eq_true (by kernel_rfl)) h0k bel (fun x hx => hlt x (by simp [hx]))) (trodAll_cons_mk (Below.trod laidOutAll (by kernel_rfl) (of_decide_eq_true (by kernel_rfl)) h1k bel (fun x hx => hlt x (by simp [hx]))) trodAll_mk0)), rfl, bel.frame _, fun h => by cases h⟩

theorem said : Rows.NatDividesSaid :=
  OpenClaim.holds_of_wide 4 Tryd.f4 rfl rfl rfl rfl rfl rfl rfl ⟨rfl, rfl, rfl, rfl, rfl⟩ rfl rfl rfl rfl rfl (by kernel_rfl) Tryd.func4 (by kernel_rfl)
    (of_decide_eq_true (by kernel_rfl)) (by unfold Func.isWrapper; first | (rw [if_pos (by decide +kernel)]; kernel_rfl) | (rw [if_neg (by decide +kernel)]; exact ⟨rfl, rfl⟩))
    (fun os started H enc _ => lifted os started H enc)
/-- The program's own looks are off, and no parameter wants a stand-in: what the card asks. -/
theorem plain (f : FuncId) (fn : Func) (hf : Tryd.pinned.checked.prog.funcNamed "zellige/zelligelaw03.NatDivides" = some f) (hfn : Tryd.pinned.checked.prog.funcs[f]? = some fn) :
    false = Tryd.pinned.checked.prog.looks [] ∧ ∀ (j : Nat) t, fn.params[j]? = some t → Tryd.pinned.checked.prog.wantsStandIn t = false := by
  obtain rfl : f = 4 := Option.some.inj ((show Tryd.prog.funcNamed "zellige/zelligelaw03.NatDivides" = some 4 by kernel_rfl).symm.trans hf) |>.symm
  obtain rfl : fn = Tryd.f4 := (Option.some.inj (Tryd.func4.symm.trans hfn)).symm
  refine ⟨by kernel_rfl, fun j t ht => ?_⟩
  rw [Tryd.params4] at ht
  have hm : t ∈ [23, 23] := by simpa using Array.mem_of_getElem? ht
  have hall : ([23, 23].all fun u => !Tryd.prog.wantsStandIn u) = true := by kernel_rfl
  exact (show Tryd.prog.wantsStandIn t = false by simpa using List.all_eq_true.1 hall t hm)
/-- The statement: the card. -/
theorem proved : Rows.NatDividesCardSaid :=
  Claim7.holds_tied_plain_at .later [] _ _ _ _ said (fun _ h => by cases h) (by kernel_rfl) (fun _ h => by cases h) natDivides_row_tie rfl ⟨rfl, rfl⟩ (by kernel_rfl) rfl plain (by kernel_rfl)
#print axioms proved
end ndivides
end Go.Proofs.YteoepelmapjhcaaDoor
