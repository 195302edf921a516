/-
  NatCoprime: both numbers, divided by the greatest that divides them, have no such but one.
-/
import Derived.Test.YtjdphcdpgjdmkaaDoorP4
import Derived.Test.YtjdphcdpgjdmkaaDoorP6
namespace Go.Proofs.YtjdphcdpgjdmkaaDoor
open Go.RowKit
set_option linter.unusedVariables false

theorem ni_nil (w : World) : NI w none 0 0 0 := ⟨sl_nil w, by decide, by decide⟩
namespace ncoprime
open Go.ChangeShapes Go.WideShapes Go.ChangeAt
set_option maxRecDepth 100000 in
set_option maxHeartbeats 4000000 in
theorem walk (a : Option Addr) (la ca u : Nat) (b : Option Addr) (lb cb v : Nat) (w : World) (ha : Sl w a la ca (wd.dcells la (u : Int))) (hu : u < 4294967296 ^ la) (hb : Sl w b lb cb (wd.dcells lb (v : Int))) (hv : v < 4294967296 ^ lb) :
    Calls Tryd.prog 4 #[.slice a la ca, .slice b lb cb] w fun e w' => e = .returned (.bool true) ∧ Below w.heap.size w w' := by
  have hT := Below.refl w.heap.size w
  go_enter Tryd.func4, Tryd.ntmps4
  go_wp2_with (go_at_call 5; fail)
  refine (short_any a la ca u _ ha hu).mono ?_
  rintro e w1 ⟨a1, ca1, m, x, rfl, hm, hx, hown1, hbel1⟩
  have hb1 := hb.below hbel1
  have n1 : NI w1 a1 m ca1 x := ⟨Own.sl hown1, hx, by omega⟩
  have hT := hT.trans (hbel1.mono hT.size)
  go_wp2_with (go_at_call 5; fail)
  refine (short_any b lb cb v _ hb1 hv).mono ?_
  rintro e w2 ⟨b1, cb1, n, y, rfl, hn, hy, hown2, hbel2⟩
  have n2 : NI w2 b1 n cb1 y := ⟨Own.sl hown2, hy, by omega⟩
  have n1 := n1.below hbel2
  have hT := hT.trans (hbel2.mono hT.size)
  obtain ⟨g, hg⟩ : ∃ g, g = Nat.gcd x y := ⟨_, rfl⟩
  have HG : Hid _ := hg
  clear ha hu hb hv hb1 hown1 hown2
  go_wp2_with (go_at_call 7; fail)
  have H := nGcd a1 b1 m n ca1 cb1 x y w2 n1 n2
  rw [← hg] at H
  clear hg
  refine H.mono ?_
  rintro e w3 ⟨ag, lg, cg, rfl, hg3, hbel3⟩
  have n1 := n1.below hbel3
  have n2 := n2.below hbel3
  have hT := hT.trans (hbel3.mono hT.size)
  rcases Nat.eq_zero_or_pos g with h0 | h0
  · have hx0 : x = 0 := by have := HG.out; rw [h0] at this; exact Nat.eq_zero_of_gcd_eq_zero_left this.symm
    have hy0 : y = 0 := by have := HG.out; rw [h0] at this; exact Nat.eq_zero_of_gcd_eq_zero_right this.symm
    subst hx0 hy0 h0
    have ng := hg3.ni 0 (by decide) (by decide)
    go_wp2_with (first
      | (go_at_call_of 11 [Value.slice ag lg cg, Value.slice none 0 0]; refine (nCmp ag none lg 0 cg 0 0 0 _ ng (ni_nil _) (c := 0) (by simp [cmpI])).mono ?_; rintro e w4 ⟨rfl, hbel4⟩; have n1 := n1.below hbel4; have n2 := n2.below hbel4; have hT := hT.trans (hbel4.mono hT.size))
      | (go_at_call_of 11 [Value.slice a1 m ca1, Value.slice b1 n cb1]; refine (nCmp a1 b1 m n ca1 cb1 0 0 _ n1 n2 (c := 0) (by simp [cmpI])).mono ?_; rintro e w5 ⟨rfl, hbel5⟩; have n1 := n1.below hbel5; have hT := hT.trans (hbel5.mono hT.size))
      | (go_at_call 11; refine (nCmp a1 none m 0 ca1 0 0 0 _ n1 (ni_nil _) (c := 0) (by simp [cmpI])).mono ?_; rintro e w6 ⟨rfl, hbel6⟩; have hT := hT.trans (hbel6.mono hT.size))
      | (go_at_call 10; refine (lives_any _).mono ?_; rintro e w15 ⟨rfl, hbel15⟩; have hT := hT.trans (hbel15.mono hT.size)))
    go_ret
    exact ⟨rfl, hT⟩
  · have hgx : g ∣ x := by rw [HG.out]; exact Nat.gcd_dvd_left x y
    have hgy : g ∣ y := by rw [HG.out]; exact Nat.gcd_dvd_right x y
    have HX : Hid (x % g = 0) := Nat.mod_eq_zero_of_dvd hgx
    have HY : Hid (y % g = 0) := Nat.mod_eq_zero_of_dvd hgy
    have HC : Hid (Nat.gcd (x / g) (y / g) = 1) := by unfold Hid; rw [Nat.gcd_div hgx hgy, ← HG.out]; exact Nat.div_self h0
    have hXl : x / g ≤ x := Nat.div_le_self _ _
    have hYl : y / g ≤ y := Nat.div_le_self _ _
    have hgl : g < 4294967296 ^ 40 := by
      rcases Nat.eq_zero_or_pos x with e | e
      · have e2 := HG.out
        rw [e, Nat.gcd_zero_left] at e2
        have := Nat.pow_le_pow_right (n := 4294967296) (by decide) (show n ≤ 40 by omega)
        omega
      · have := Nat.le_of_dvd e hgx
        have := Nat.pow_le_pow_right (n := 4294967296) (by decide) (show m ≤ 40 by omega)
        omega
    have hc1 : (1 : Int) = cmpI (g : Int) ((0 : Nat) : Int) := by unfold cmpI; rw [if_neg (by omega), if_pos (by omega)]
    have HC1 : Hid _ := hc1
    obtain ⟨X, hX⟩ : ∃ X, X = x / g := ⟨_, rfl⟩
    obtain ⟨Y, hY⟩ : ∃ Y, Y = y / g := ⟨_, rfl⟩
    have hX' : X < 4294967296 ^ m := by omega
    have hY' : Y < 4294967296 ^ n := by omega
    have ng := hg3.ni 40 (by decide) hgl
    have D1 : Hid (∀ w', NI w' a1 m ca1 x → NI w' ag lg cg g → Calls Tryd.prog 12 #[.slice a1 m ca1, .slice ag lg cg] w' (GotB w' X 0)) := fun w' h1 h2 => by
      have := nDiv a1 ag m lg ca1 cg x g w' h1 h2 h0
      rwa [HX.out, ← hX] at this
    have D2 : Hid (∀ w', NI w' b1 n cb1 y → NI w' ag lg cg g → Calls Tryd.prog 12 #[.slice b1 n cb1, .slice ag lg cg] w' (GotB w' Y 0)) := fun w' h1 h2 => by
      have := nDiv b1 ag n lg cb1 cg y g w' h1 h2 h0
      rwa [HY.out, ← hY] at this
    have HC2 : Hid (Nat.gcd X Y = 1) := by rw [hX, hY]; exact HC.out
    clear hgx hgy hXl hYl hgl hc1 hX hY h0 hg3 H HX HY HC
    go_wp2_with (go_at_call 11; fail)
    refine (nCmp ag none lg 0 cg 0 g 0 _ ng (ni_nil _) HC1.out).mono ?_
    rintro e w4 ⟨rfl, hbel4⟩
    have n1 := n1.below hbel4
    have n2 := n2.below hbel4
    have ng := ng.below hbel4
    have hT := hT.trans (hbel4.mono hT.size)
    go_wp2_with (go_at_call 12; fail)
    refine (show Calls _ _ _ _ (GotB w4 X 0) from D1.out w4 n1 ng).mono ?_
    rintro e w5 ⟨aX, lX, cX, aR, lR, cR, rfl, hX5, hR5, hbel5⟩
    have n2 := n2.below hbel5
    have ng := ng.below hbel5
    have hT := hT.trans (hbel5.mono hT.size)
    obtain rfl : lR = 0 := by rw [hR5.len, wd.nlen_zero]
    go_wp2_with (go_at_call 12; fail)
    refine (show Calls _ _ _ _ (GotB w5 Y 0) from D2.out w5 n2 ng).mono ?_
    rintro e w6 ⟨aY, lY, cY, aS, lS, cS, rfl, hY6, hS6, hbel6⟩
    have hT := hT.trans (hbel6.mono hT.size)
    obtain rfl : lS = 0 := by rw [hS6.len, wd.nlen_zero]
    have nX := (hX5.below hbel6).ni m (by omega) hX'
    have nY := hY6.ni n (by omega) hY'
    clear D1 D2 hX5 hY6 hR5 hS6
    go_wp2_with (go_at_call 7; fail)
    have H := nGcd aX aY lX lY cX cY X Y w6 nX nY
    rw [HC2.out] at H
    refine H.mono ?_
    rintro e w7 ⟨ag2, lg2, cg2, rfl, hg7, hbel7⟩
    have hT := hT.trans (hbel7.mono hT.size)
    go_wp2_with (go_at_call 13; fail)
    refine (nOf 1 (by decide) rfl w7).mono ?_
    rintro e w8 ⟨ao, lo, co, rfl, ho8, hbel8⟩
    have hT := hT.trans (hbel8.mono hT.size)
    go_wp2_with (go_at_call 11; fail)
    refine (nCmp ag2 ao lg2 lo cg2 co 1 1 w8 ((hg7.below hbel8).ni 1 (by decide) (by decide)) (ho8.ni 1 (by decide) (by decide)) (c := 0) (by simp [cmpI])).mono ?_
    rintro e w9 ⟨rfl, hbel9⟩
    have hT := hT.trans (hbel9.mono hT.size)
    go_wp2_with (go_at_call 10; refine (lives_any _).mono ?_; rintro e w15 ⟨rfl, hbel15⟩; have hT := hT.trans (hbel15.mono hT.size))
    go_ret
    exact ⟨rfl, hT⟩
theorem own : ownKnob Tryd.prog.godebug = none := by kernel_rfl
set_option maxRecDepth 100000 in
theorem lifted (os : Os) (started : os.Started) (H : Type) (enc : TypeId × Value → H) :
    ReturnsInHanded {} Tryd.checked os 4 .any (fun w args => (Rows.natCoprimeSpec.pre enc Tryd.prog Tryd.f4 [] false w args ∧ laidMetH Tryd.prog Rows.natCoprimeRow.laid w) ∧ sizedMet enc Tryd.prog Tryd.f4 (OpenSpec.ofChange Rows.natCoprimeSpec) false w args)
      (Rows.natCoprimeSpec.post enc Tryd.prog Tryd.f4 false true false false) := by
  refine returnsInHanded_of_change_and (C := Tryd.checked) (X := fun w _ => laidMetH Tryd.prog Rows.natCoprimeRow.laid w) (fun _ _ _ hh h => h.of_heap hh) own started (by kernel_rfl) Tryd.func4
    (ChangeSpec.witness_shaped (enc := enc) (C := Tryd.checked) (os := os) (X := fun w _ => laidMetH Tryd.prog Rows.natCoprimeRow.laid w) false (World.laidAll Tryd.prog os Rows.natCoprimeRow.laid) #[.slice none 0 0, .slice none 0 0] 8 (World.laidAll_os _ _ _)
      (World.shaped_of_ZipB (by kernel_rfl) (by kernel_rfl)) (by kernel_rfl) (by kernel_rfl) (by kernel_rfl)
      (by rw [MakeChecks.laidMetH_plain _ _ _ (by kernel_rfl)]; exact laidMet_laidAll _ (by kernel_rfl) (by kernel_rfl))) ?_
  intro W base args ds gs before hval0 hW _ _ hL _
  have hval : ∀ (j : Nat) t v, Tryd.f4.params[j]? = some t → args[j]? = some v → Value.okWide Tryd.prog W .any base t v := hval0
  have hW' := hW
  obtain ⟨p, q, hA0, hV, rfl, hfz, hnd⟩ := hW
  have hA : DataW.TrodAll enc Tryd.prog W 0 (fun _ => true) true Tryd.f4.params.toList args.toList ds p := hA0
  rw [Tryd.params4] at hA hval
  obtain ⟨v0, vs0, d0, ds0, p0, q0, hargs, rfl, rfl, h0, r0⟩ := trodAll_cons hA
  obtain ⟨v1, vs1, d1, ds1, p1, q1, rfl, rfl, rfl, h1, r1⟩ := trodAll_cons r0
  obtain ⟨rfl, rfl, rfl⟩ := trodAll_nil r1
  obtain rfl : args = #[v0, v1] := by cases args; simp_all
  obtain ⟨rfl, rfl⟩ := trodVars_none hV
  have hlt : ∀ x ∈ p0 ++ p1, x.block < W.heap.size := fun x hx => by simpa using hW'.lt x (by simpa using hx)
  obtain ⟨a0, l0, c0, rfl⟩ := okWide_slice Tryd.underlying23 (hval 0 23 v0 rfl rfl)
  have h0k := h0
  obtain ⟨f0, hf0⟩ := h0
  obtain ⟨u0, hu0, hs0⟩ := nat_view hf0 (fun b o h => hfz b o (by simp [h])) (fun x hx => hlt x (by simp [hx]))
  obtain ⟨a1, l1, c1, rfl⟩ := okWide_slice Tryd.underlying23 (hval 1 23 v1 rfl rfl)
  have h1k := h1
  obtain ⟨f1, hf1⟩ := h1
  obtain ⟨u1, hu1, hs1⟩ := nat_view hf1 (fun b o h => hfz b o (by simp [h])) (fun x hx => hlt x (by simp [hx]))
  clear hA0 hval0
  refine (walk a0 l0 c0 u0 a1 l1 c1 u1 W hs0 hu0 hs1 hu1).mono fun e W' ⟨he, bel⟩ => ?_
  subst he
  exact ⟨_, rfl, _, _, _, [], _, [], hW', trodAll_mk1 (shut_bool Tryd.underlying4 _), (trodAll_cons_mk (Below.trod laidOutAll (by kernel_rfl) (of_decide_eq_true (by kernel_rfl)) h0k bel (fun x hx => hlt x (by simp [hx]))) (trodAll_cons_mk (Below.trod laidOutAll (by kernel_rfl) (of_decide_eq_true (by kernel_rfl)) h1k bel (fun x hx => hlt x (by simp [hx]))) trodAll_mk0)), rfl, bel.frame _, fun h => by cases h⟩

theorem said : Rows.NatCoprimeSaid :=
  OpenClaim.holds_of_wide 4 Tryd.f4 rfl rfl rfl rfl rfl rfl rfl ⟨rfl, rfl, rfl, rfl, rfl⟩ rfl rfl rfl rfl rfl (by kernel_rfl) Tryd.func4 (by kernel_rfl)
    (of_decide_eq_true (by kernel_rfl)) (by unfold Func.isWrapper; first | (rw [if_pos (by decide +kernel)]; kernel_rfl) | (rw [if_neg (by decide +kernel)]; exact ⟨rfl, rfl⟩))
    (fun os started H enc _ => lifted os started H enc)
/-- The program's own looks are off, and no parameter wants a stand-in: what the card asks. -/
theorem plain (f : FuncId) (fn : Func) (hf : Tryd.pinned.checked.prog.funcNamed "zellige/zelligelaw03.NatCoprime" = some f) (hfn : Tryd.pinned.checked.prog.funcs[f]? = some fn) :
    false = Tryd.pinned.checked.prog.looks [] ∧ ∀ (j : Nat) t, fn.params[j]? = some t → Tryd.pinned.checked.prog.wantsStandIn t = false := by
  obtain rfl : f = 4 := Option.some.inj ((show Tryd.prog.funcNamed "zellige/zelligelaw03.NatCoprime" = some 4 by kernel_rfl).symm.trans hf) |>.symm
  obtain rfl : fn = Tryd.f4 := (Option.some.inj (Tryd.func4.symm.trans hfn)).symm
  refine ⟨by kernel_rfl, fun j t ht => ?_⟩
  rw [Tryd.params4] at ht
  have hm : t ∈ [23, 23] := by simpa using Array.mem_of_getElem? ht
  have hall : ([23, 23].all fun u => !Tryd.prog.wantsStandIn u) = true := by kernel_rfl
  exact (show Tryd.prog.wantsStandIn t = false by simpa using List.all_eq_true.1 hall t hm)
/-- The statement: the card. -/
theorem proved : Rows.NatCoprimeCardSaid :=
  Claim7.holds_tied_plain_at .later [] _ _ _ _ said (fun _ h => by cases h) (by kernel_rfl) (fun _ h => by cases h) natCoprime_row_tie rfl ⟨rfl, rfl⟩ (by kernel_rfl) rfl plain (by kernel_rfl)
#print axioms proved
end ncoprime
end Go.Proofs.YtjdphcdpgjdmkaaDoor
