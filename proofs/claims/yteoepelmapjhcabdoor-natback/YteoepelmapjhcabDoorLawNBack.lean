/-
  NatBack: a quotient times the divisor, and the rest, are the number, that the rest is less, and that what was added can be taken off.
-/
import Derived.Test.YteoepelmapjhcabDoorNLaw
import Derived.Test.YteoepelmapjhcabDoorKnuF
namespace Go.Proofs.YteoepelmapjhcabDoor
open Go.RowKit
set_option linter.unusedVariables false

theorem sub_back (s b : Option Addr) (cs lb cb x y : Nat) (w : World) (hs : Sl w s (wd.nlen (x + y)) cs (wd.dcells (wd.nlen (x + y)) ((x + y : Nat) : Int))) (hl : wd.nlen (x + y) ≤ 1000000000) (hb : Sl w b lb cb (wd.dcells lb (y : Int))) (hy : y < 4294967296 ^ lb) :
    Calls Tryd.prog 6 #[.slice s (wd.nlen (x + y)) cs, .slice b lb cb] w fun e w' => ∃ a' cap', e = .returned (.tuple #[.slice a' (wd.nlen x) cap', .bool true]) ∧ Sl w' a' (wd.nlen x) cap' (wd.dcells (wd.nlen x) (x : Int)) ∧ Below w.heap.size w w' := by
  refine (sub_yes s b _ lb cs cb (x + y) y w hs (wd.nlen_lt _) hl hb hy (by omega)).mono ?_
  rw [Nat.add_sub_cancel]
  rintro e w' ⟨a, cap, rfl, ho, hbel⟩
  exact ⟨a, cap, rfl, Own.sl ho, hbel⟩
theorem bcmp_eq (a b : Option Addr) (la lb ca cb u v : Nat) (w : World) (ha : Sl w a la ca (wd.dcells la (u : Int))) (hu : u < 4294967296 ^ la) (hb : Sl w b lb cb (wd.dcells lb (v : Int))) (hv : v < 4294967296 ^ lb) (h : u = v) :
    Calls Tryd.prog 8 #[.slice a la ca, .slice b lb cb] w fun e w' => e = .returned (.int .i64 0) ∧ Below w.heap.size w w' := by
  subst h
  have := cmp_any a b la lb ca cb u u w ha hu hb hv
  rw [cmpI_self] at this
  exact this
theorem bcmp_lt (a b : Option Addr) (la lb ca cb u v : Nat) (w : World) (ha : Sl w a la ca (wd.dcells la (u : Int))) (hu : u < 4294967296 ^ la) (hb : Sl w b lb cb (wd.dcells lb (v : Int))) (hv : v < 4294967296 ^ lb) (h : u < v) :
    Calls Tryd.prog 8 #[.slice a la ca, .slice b lb cb] w fun e w' => e = .returned (.int .i64 (-1)) ∧ Below w.heap.size w w' := by
  have := cmp_any a b la lb ca cb u v w ha hu hb hv
  rw [show cmpI (u : Int) v = -1 by unfold cmpI; rw [if_pos (by omega)]] at this
  exact this
theorem bsl_nil (w : World) (a : Option Addr) : Sl w a 0 0 (wd.dcells 0 ((0 : Nat) : Int)) := ⟨rfl, Nat.le_refl _, Nat.zero_le _, fun _ => ⟨rfl, rfl⟩, Or.inl rfl⟩

namespace nback
open Go.ChangeShapes Go.WideShapes Go.ChangeAt
set_option maxRecDepth 100000 in
set_option maxHeartbeats 4000000 in
theorem walk (a : Option Addr) (la ca u : Nat) (b : Option Addr) (lb cb v : Nat) (w : World) (ha : Sl w a la ca (wd.dcells la (u : Int))) (hu : u < 4294967296 ^ la) (hb : Sl w b lb cb (wd.dcells lb (v : Int))) (hv : v < 4294967296 ^ lb) :
    Calls Tryd.prog 3 #[.slice a la ca, .slice b lb cb] w fun e w' => e = .returned (.bool true) ∧ Below w.heap.size w w' := by
  have hT := Below.refl w.heap.size w
  go_enter Tryd.func3, Tryd.ntmps3
  go_wp2_with (first
    | (go_at_call_of 5 [Value.slice a la ca]; refine (short_any a la ca u _ ha hu).mono ?_; rintro e w1 ⟨a1, ca1, m, x, rfl, hm, hx, hown1, hbel1⟩; have hb1 := hb.below hbel1; have s1 := Own.sl hown1; have hT := hT.trans (hbel1.mono hT.size))
    | (go_at_call 5; refine (short_any b lb cb v _ hb1 hv).mono ?_; rintro e w2 ⟨b1, cb1, n, y, rfl, hn, hy, hown2, hbel2⟩; have s2 := Own.sl hown2; have s1 := s1.below hbel2; have hT := hT.trans (hbel2.mono hT.size); have fs : wd.nlen (x + y) ≤ 1000000000 := Nat.le_trans (wd.nlen_le (few_sum hm hn hx hy)) (by decide); have gx := wd.nlen_lt x)
    | (go_at_call 7; refine (add_any a1 b1 m n ca1 cb1 x y _ s1 hx (by omega) s2 hy (by omega)).mono ?_; rintro e w3 ⟨aS, cs, rfl, hown3, hbel3⟩; have sS := Own.sl hown3; have s1 := s1.below hbel3; have s2 := s2.below hbel3; have hT := hT.trans (hbel3.mono hT.size))
    | (go_at_call 6; refine (sub_back aS b1 cs n cb1 x y _ sS fs s2 hy).mono ?_; rintro e w4 ⟨aD, cD, rfl, sD, hbel4⟩; have s1 := s1.below hbel4; have s2 := s2.below hbel4; have hT := hT.trans (hbel4.mono hT.size))
    | (go_at_call 8; refine (bcmp_eq aD a1 (wd.nlen x) m cD ca1 x x _ sD gx s1 hx rfl).mono ?_; rintro e w5 ⟨rfl, hbel5⟩; have s1 := s1.below hbel5; have s2 := s2.below hbel5; have hT := hT.trans (hbel5.mono hT.size))
    | (go_at_call 9; fail))
  rcases Nat.eq_zero_or_pos y with h0 | h0
  · subst h0
    refine (divMod_zero a1 b1 m n ca1 cb1 x _ s1 hx s2).mono ?_
    rintro e w6 ⟨rfl, hw⟩
    subst hw
    go_wp2_with (first
      | (go_at_call 8; refine (bcmp_eq b1 none n 0 cb1 0 0 0 _ s2 hy (bsl_nil _ _) (by decide) rfl).mono ?_; rintro e w7 ⟨rfl, hbel7⟩; have hT := hT.trans (hbel7.mono hT.size))
      | (go_at_call 10; refine (lives_any _).mono ?_; rintro e w15 ⟨rfl, hbel15⟩; have hT := hT.trans (hbel15.mono hT.size)))
    go_ret
    exact ⟨rfl, hT⟩
  · refine (divMod_any a1 b1 m n ca1 cb1 x y _ s1 hx (by omega) s2 hy h0).mono ?_
    rintro e w6 ⟨aq, cq, ar, cr, rfl, hownQ, hownR, hbel6⟩
    have sQ := Own.sl hownQ
    have sR := Own.sl hownR
    have s1 := s1.below hbel6
    have s2 := s2.below hbel6
    have hT := hT.trans (hbel6.mono hT.size)
    obtain ⟨Q, hQ⟩ : ∃ Q, Q = x / y := ⟨_, rfl⟩
    obtain ⟨R, hR⟩ : ∃ R, R = x % y := ⟨_, rfl⟩
    have HE : Hid (Q * y + R = x) := by unfold Hid; rw [hQ, hR, Nat.mul_comm]; exact Nat.div_add_mod x y
    have hRy : R < y := by rw [hR]; exact Nat.mod_lt _ h0
    have hQx : Q ≤ x := by rw [hQ]; exact Nat.div_le_self _ _
    rw [← hQ] at sQ
    rw [← hR] at sR
    rw [← hQ, ← hR]
    have gQ := wd.nlen_lt Q
    have gR := wd.nlen_lt R
    have fQ : wd.nlen Q ≤ 1000000000 := Nat.le_trans (wd.nlen_le (Nat.lt_of_le_of_lt hQx hx)) (by omega)
    have fR : wd.nlen R ≤ 1000000000 := Nat.le_trans (wd.nlen_le (Nat.lt_trans hRy hy)) (by omega)
    have fP : wd.nlen (Q * y) ≤ 1000000000 := Nat.le_trans (wd.nlen_le (Nat.lt_of_le_of_lt (show Q * y ≤ x by have := HE.out; omega) hx)) (by omega)
    have gP := wd.nlen_lt (Q * y)
    have gS := wd.nlen_lt (Q * y + R)
    clear hQ hR hownQ hownR hQx
    go_wp2_with (first
      | (go_at_call 11; refine (mul_any aq b1 (wd.nlen Q) n cq cb1 Q y _ sQ gQ fQ s2 hy (by omega)).mono ?_; rintro e w7 ⟨aP, cP, rfl, hown7, hbel7⟩; have sP := Own.sl hown7; have sR := sR.below hbel7; have s1 := s1.below hbel7; have s2 := s2.below hbel7; have hT := hT.trans (hbel7.mono hT.size))
      | (go_at_call 7; refine (add_any aP ar (wd.nlen (Q * y)) (wd.nlen R) cP cr (Q * y) R _ sP gP fP sR gR fR).mono ?_; rintro e w8 ⟨aS2, cS2, rfl, hown8, hbel8⟩; have sS2 := Own.sl hown8; have sR := sR.below hbel8; have s1 := s1.below hbel8; have s2 := s2.below hbel8; have hT := hT.trans (hbel8.mono hT.size))
      | (go_at_call_of 8 [Value.slice a1 m ca1]; refine (bcmp_eq aS2 a1 (wd.nlen (Q * y + R)) m cS2 ca1 (Q * y + R) x _ sS2 gS s1 hx HE.out).mono ?_; rintro e w9 ⟨rfl, hbel9⟩; have sR := sR.below hbel9; have s2 := s2.below hbel9; have hT := hT.trans (hbel9.mono hT.size))
      | (go_at_call 8; refine (bcmp_lt ar b1 (wd.nlen R) n cr cb1 R y _ sR gR s2 hy hRy).mono ?_; rintro e w10 ⟨rfl, hbel10⟩; have hT := hT.trans (hbel10.mono hT.size))
      | (go_at_call 10; refine (lives_any _).mono ?_; rintro e w15 ⟨rfl, hbel15⟩; have hT := hT.trans (hbel15.mono hT.size)))
    go_ret
    exact ⟨rfl, hT⟩
theorem own : ownKnob Tryd.prog.godebug = none := by kernel_rfl
set_option maxRecDepth 100000 in
theorem lifted (os : Os) (started : os.Started) (H : Type) (enc : TypeId × Value → H) :
    ReturnsInHanded {} Tryd.checked os 3 .any (fun w args => (Rows.natBackSpec.pre enc Tryd.prog Tryd.f3 [] false w args ∧ laidMetH Tryd.prog Rows.natBackRow.laid w) ∧ sizedMet enc Tryd.prog Tryd.f3 (OpenSpec.ofChange Rows.natBackSpec) false w args)
      (Rows.natBackSpec.post enc Tryd.prog Tryd.f3 false true false false) := by
  refine returnsInHanded_of_change_and (C := Tryd.checked) (X := fun w _ => laidMetH Tryd.prog Rows.natBackRow.laid w) (fun _ _ _ hh h => h.of_heap hh) own started (by kernel_rfl) Tryd.func3
    (ChangeSpec.witness_shaped (enc := enc) (C := Tryd.checked) (os := os) (X := fun w _ => laidMetH Tryd.prog Rows.natBackRow.laid w) false (World.laidAll Tryd.prog os Rows.natBackRow.laid) #[.slice none 0 0, .slice none 0 0] 8 (World.laidAll_os _ _ _)
      (World.shaped_of_ZipB (by kernel_rfl) (by kernel_rfl)) (by kernel_rfl) (by kernel_rfl) (by kernel_rfl)
      (by rw [MakeChecks.laidMetH_plain _ _ _ (by kernel_rfl)]; exact laidMet_laidAll _ (by kernel_rfl) (by kernel_rfl))) ?_
  intro W base args ds gs before hval0 hW _ _ hL _
  have hval : ∀ (j : Nat) t v, Tryd.f3.params[j]? = some t → args[j]? = some v → Value.okWide Tryd.prog W .any base t v := hval0
  have hW' := hW
  obtain ⟨p, q, hA0, hV, rfl, hfz, hnd⟩ := hW
  have hA : DataW.TrodAll enc Tryd.prog W 0 (fun _ => true) true Tryd.f3.params.toList args.toList ds p := hA0
  rw [Tryd.params3] at hA hval
  obtain ⟨v0, vs0, d0, ds0, p0, q0, hargs, rfl, rfl, h0, r0⟩ := trodAll_cons hA
  obtain ⟨v1, vs1, d1, ds1, p1, q1, rfl, rfl, rfl, h1, r1⟩ := trodAll_cons r0
  obtain ⟨rfl, rfl, rfl⟩ := trodAll_nil r1
  obtain rfl : args = #[v0, v1] := by cases args; simp_all
  obtain ⟨rfl, rfl⟩ := trodVars_none hV
  have hlt : ∀ x ∈ p0 ++ p1, x.block < W.heap.size := fun x hx => by simpa using hW'.lt x (by simpa using hx)
  obtain ⟨a0, l0, c0, rfl⟩ := okWide_slice Tryd.underlying23 (hval 0 23 v0 rfl rfl)
  have h0k := h0
  obtain ⟨f0, hf0⟩ := h0
  obtain ⟨u0, hu0, hs0⟩ := nat_view hf0 (fun b o h => hfz b o (by simp [h])) (fun x hx => hlt x (by simp [hx]))
  obtain ⟨a1, l1, c1, rfl⟩ := okWide_slice Tryd.underlying23 (hval 1 23 v1 rfl rfl)
  have h1k := h1
  obtain ⟨f1, hf1⟩ := h1
  obtain ⟨u1, hu1, hs1⟩ := nat_view hf1 (fun b o h => hfz b o (by simp [h])) (fun x hx => hlt x (by simp [hx]))
  clear hA0 hval0
  refine (walk a0 l0 c0 u0 a1 l1 c1 u1 W hs0 hu0 hs1 hu1).mono fun e W' ⟨he, bel⟩ => ?_
  subst he
  exact ⟨_, rfl, _, _, _, [], _, [], hW', trodAll_mk1 (shut_bool Tryd.underlying4 _), (trodAll_cons_mk (Below.trod laidOutAll (by kernel_rfl) (of_decide_eq_true (by kernel_rfl)) h0k bel (fun x hx => hlt x (by simp [hx]))) (trodAll_cons_mk (Below.trod laidOutAll (by kernel_rfl) (of_decide_eq_true (by kernel_rfl)) h1k bel (fun x hx => hlt x (by simp [hx]))) trodAll_mk0)), rfl, bel.frame _, fun h => by cases h⟩

theorem said : Rows.NatBackSaid :=
  OpenClaim.holds_of_wide 3 Tryd.f3 rfl rfl rfl rfl rfl rfl rfl ⟨rfl, rfl, rfl, rfl, rfl⟩ rfl rfl rfl rfl rfl (by kernel_rfl) Tryd.func3 (by kernel_rfl)
    (of_decide_eq_true (by kernel_rfl)) (by unfold Func.isWrapper; first | (rw [if_pos (by decide +kernel)]; kernel_rfl) | (rw [if_neg (by decide +kernel)]; exact ⟨rfl, rfl⟩))
    (fun os started H enc _ => lifted os started H enc)
/-- The program's own looks are off, and no parameter wants a stand-in: what the card asks. -/
theorem plain (f : FuncId) (fn : Func) (hf : Tryd.pinned.checked.prog.funcNamed "zellige/zelligelaw03.NatBack" = some f) (hfn : Tryd.pinned.checked.prog.funcs[f]? = some fn) :
    false = Tryd.pinned.checked.prog.looks [] ∧ ∀ (j : Nat) t, fn.params[j]? = some t → Tryd.pinned.checked.prog.wantsStandIn t = false := by
  obtain rfl : f = 3 := Option.some.inj ((show Tryd.prog.funcNamed "zellige/zelligelaw03.NatBack" = some 3 by kernel_rfl).symm.trans hf) |>.symm
  obtain rfl : fn = Tryd.f3 := (Option.some.inj (Tryd.func3.symm.trans hfn)).symm
  refine ⟨by kernel_rfl, fun j t ht => ?_⟩
  rw [Tryd.params3] at ht
  have hm : t ∈ [23, 23] := by simpa using Array.mem_of_getElem? ht
  have hall : ([23, 23].all fun u => !Tryd.prog.wantsStandIn u) = true := by kernel_rfl
  exact (show Tryd.prog.wantsStandIn t = false by simpa using List.all_eq_true.1 hall t hm)
/-- The statement: the card. -/
theorem proved : Rows.NatBackCardSaid :=
  Claim7.holds_tied_plain_at .later [] _ _ _ _ said (fun _ h => by cases h) (by kernel_rfl) (fun _ h => by cases h) natBack_row_tie rfl ⟨rfl, rfl⟩ (by kernel_rfl) rfl plain (by kernel_rfl)
#print axioms proved
end nback
end Go.Proofs.YteoepelmapjhcabDoor
