/-
  NatShows: any number's digits, and that it is read as the number; and any number of 64 bits.
-/
import Derived.Test.YteoepelmapjhcaaDoorNLaw
import Derived.Test.YteoepelmapjhcaaDoorRef3F
namespace Go.Proofs.YteoepelmapjhcaaDoor
open Go.RowKit
set_option linter.unusedVariables false

theorem decS_shows (x : Nat) : showsB (nums (decS x)) = true := by
  rw [decS_nums]
  obtain ⟨h1, h2, h3⟩ := isDec_dlen x
  refine shows_yes (by rw [digs_length]; omega) ?_ ?_
  · rintro ⟨ha, hb⟩
    rw [digs_length] at ha
    have h4 := h3.resolve_left (by omega)
    obtain ⟨k, hk⟩ : ∃ k, dlen x = k + 1 := ⟨dlen x - 1, by omega⟩
    rw [hk] at hb h2 h4
    rw [digs, List.head?_cons] at hb
    have h5 : 1 ≤ x / 10 ^ k := (Nat.one_le_div_iff (Nat.pow_pos (by decide))).2 (by simpa using h4)
    have h6 : x / 10 ^ k < 10 := by rw [Nat.pow_succ] at h2; exact Nat.div_lt_of_lt_mul h2
    rw [Nat.mod_eq_of_lt h6] at hb
    simp only [Option.some.injEq] at hb
    omega
  · intro k c hk
    exact digs_bytes _ _ c (List.mem_of_getElem? hk)
theorem decS_few {x m : Nat} (hm : m ≤ 20) (hx : x < 4294967296 ^ m) : (decS x).size ≤ 2000 := by
  rw [decS_size]
  have := dlen_few (u := x) (l := 2 * m) (by rw [pow_halves]; exact hx)
  omega
theorem decS_back (x : Nat) : rdN (nums (decS x)) = x := by
  rw [decS_nums, rdN_digs, Nat.mod_eq_of_lt (isDec_dlen x).2.1]
theorem parse_dec {x m : Nat} (hm : m ≤ 20) (hx : x < 4294967296 ^ m) (w : World) :
    Calls Tryd.prog 29 #[.string (decS x)] w fun e w' => ∃ a cap, e = .returned (.tuple #[.slice a (wd.nlen x) cap, .int .i64 0]) ∧ Own w' w.heap.size 44 a (wd.nlen x) cap (wd.dcells (wd.nlen x) (x : Int)) ∧ Below w.heap.size w w' := by
  have h := parse_num (decS x) w (decS_shows x) (decS_few hm hx)
  rw [decS_back] at h
  exact h

namespace nshows
open Go.ChangeShapes Go.WideShapes Go.ChangeAt
set_option maxRecDepth 100000 in
set_option maxHeartbeats 4000000 in
theorem walk (a : Option Addr) (la ca u : Nat) (n : Int) (w : World) (ha : Sl w a la ca (wd.dcells la (u : Int))) (hu : u < 4294967296 ^ la) (hn0 : 0 ≤ n) (hn1 : n < 18446744073709551616) :
    Calls Tryd.prog 7 #[.slice a la ca, .int .u64 n] w fun e w' => e = .returned (.bool true) ∧ Below w.heap.size w w' := by
  have hT := Below.refl w.heap.size w
  obtain ⟨y, rfl⟩ := Int.eq_ofNat_of_zero_le hn0
  have hy : y < 18446744073709551616 := by omega
  have fy : hf.nlen y ≤ 1000000000 := hf_few (m := 2) (by omega) (by simpa using hy)
  have HW : Hid _ := fun w0 => own_two w0 y hy
  have HO : Hid _ := fun w0 => of_any y hy (xv := (y : Int)) rfl w0
  go_enter Tryd.func7, Tryd.ntmps7
  go_wp2_with (first
    | (go_at_call 9; refine (short_any a la ca u _ ha hu).mono ?_; rintro e w1 ⟨a1, ca1, m, x, rfl, hm, hx, hown1, hbel1⟩; have s1 := Own.sl hown1; have fx := hf_few (by omega) hx; have hT := hT.trans (hbel1.mono hT.size))
    | (go_at_call 28; refine (show_any a1 m ca1 x _ s1 hx (by omega)).mono ?_; rintro e w2 ⟨rfl, hbel2⟩; have s1 := s1.below hbel2; have hT := hT.trans (hbel2.mono hT.size))
    | (go_at_call 29; refine (parse_dec hm hx _).mono ?_; rintro e w3 ⟨b, cb, rfl, hown3, hbel3⟩; have sb := Own.sl hown3; have s1 := s1.below hbel3; have hT := hT.trans (hbel3.mono hT.size))
    | (go_at_call_of 10 [Value.slice a1 m ca1]; refine (rof_any a1 m ca1 x _ s1 hx (by omega)).mono ?_; rintro e w4 ⟨dx, cx, rfl, hown4, hbel4⟩; have sx := Own.sl hown4; have s1 := s1.below hbel4; have sb := sb.below hbel4; have hT := hT.trans (hbel4.mono hT.size))
    | (go_at_call 30; refine (rshow_any dx cx x _ sx fx).mono ?_; rintro e w5 ⟨rfl, hbel5⟩; have s1 := s1.below hbel5; have sb := sb.below hbel5; have hT := hT.trans (hbel5.mono hT.size))
    | (go_at_call_of 13 [Value.slice dx (hf.nlen x) cx]; refine (same_yes b dx cb cx x _ sb sx fx).mono ?_; rintro e w6 ⟨rfl, hbel6⟩; have hT := hT.trans (hbel6.mono hT.size))
    | (go_at_call 31; refine (HO.out _).mono ?_; rintro e w7 ⟨c, cc, rfl, hown7, hbel7⟩; have hT := hT.trans (hbel7.mono hT.size); have hO := HW.out w7; have sc := (Own.sl hown7).below ((Below.refl _ _).alloc (Nat.le_refl _) (.cells #[.int .u32 ((y : Int) % 4294967296), .int .u32 ((y : Int) / 4294967296)] 44)))
    | (go_at_call 10; refine (rof_any _ 2 2 y _ (Own.sl hO) (by simpa using hy) (by omega)).mono ?_; rintro e w8 ⟨dy, cy, rfl, hown8, hbel8⟩; have sc := sc.below hbel8; have sy := Own.sl hown8; have hT := (hT.alloc hT.size (.cells #[.int .u32 ((y : Int) % 4294967296), .int .u32 ((y : Int) / 4294967296)] 44)).trans (hbel8.mono (by have := hT.size; simp; omega)))
    | (go_at_call 13; refine (same_yes c dy cc cy y _ sc sy fy).mono ?_; rintro e w9 ⟨rfl, hbel9⟩; have hT := hT.trans (hbel9.mono hT.size))
    | (go_at_call 19; refine (lives_any _).mono ?_; rintro e w15 ⟨rfl, hbel15⟩; have hT := hT.trans (hbel15.mono hT.size)))
  go_ret
  exact ⟨rfl, hT⟩
theorem own : ownKnob Tryd.prog.godebug = none := by kernel_rfl
set_option maxRecDepth 100000 in
theorem lifted (os : Os) (started : os.Started) (H : Type) (enc : TypeId × Value → H) :
    ReturnsInHanded {} Tryd.checked os 7 .any (fun w args => (Rows.natShowsSpec.pre enc Tryd.prog Tryd.f7 [] false w args ∧ laidMetH Tryd.prog Rows.natShowsRow.laid w) ∧ sizedMet enc Tryd.prog Tryd.f7 (OpenSpec.ofChange Rows.natShowsSpec) false w args)
      (Rows.natShowsSpec.post enc Tryd.prog Tryd.f7 false true false false) := by
  refine returnsInHanded_of_change_and (C := Tryd.checked) (X := fun w _ => laidMetH Tryd.prog Rows.natShowsRow.laid w) (fun _ _ _ hh h => h.of_heap hh) own started (by kernel_rfl) Tryd.func7
    (ChangeSpec.witness_shaped (enc := enc) (C := Tryd.checked) (os := os) (X := fun w _ => laidMetH Tryd.prog Rows.natShowsRow.laid w) false (World.laidAll Tryd.prog os Rows.natShowsRow.laid) #[.slice none 0 0, .int .u64 0] 8 (World.laidAll_os _ _ _)
      (World.shaped_of_ZipB (by kernel_rfl) (by kernel_rfl)) (by kernel_rfl) (by kernel_rfl) (by kernel_rfl)
      (by rw [MakeChecks.laidMetH_plain _ _ _ (by kernel_rfl)]; exact laidMet_laidAll _ (by kernel_rfl) (by kernel_rfl))) ?_
  intro W base args ds gs before hval0 hW _ _ hL _
  have hval : ∀ (j : Nat) t v, Tryd.f7.params[j]? = some t → args[j]? = some v → Value.okWide Tryd.prog W .any base t v := hval0
  have hW' := hW
  obtain ⟨p, q, hA0, hV, rfl, hfz, hnd⟩ := hW
  have hA : DataW.TrodAll enc Tryd.prog W 0 (fun _ => true) true Tryd.f7.params.toList args.toList ds p := hA0
  rw [Tryd.params7] at hA hval
  obtain ⟨v0, vs0, d0, ds0, p0, q0, hargs, rfl, rfl, h0, r0⟩ := trodAll_cons hA
  obtain ⟨v1, vs1, d1, ds1, p1, q1, rfl, rfl, rfl, h1, r1⟩ := trodAll_cons r0
  obtain ⟨rfl, rfl, rfl⟩ := trodAll_nil r1
  obtain rfl : args = #[v0, v1] := by cases args; simp_all
  obtain ⟨rfl, rfl⟩ := trodVars_none hV
  have hlt : ∀ x ∈ p0 ++ p1, x.block < W.heap.size := fun x hx => by simpa using hW'.lt x (by simpa using hx)
  obtain ⟨a0, l0, c0, rfl⟩ := okWide_slice Tryd.underlying23 (hval 0 23 v0 rfl rfl)
  have h0k := h0
  obtain ⟨f0, hf0⟩ := h0
  obtain ⟨u0, hu0, hs0⟩ := nat_view hf0 (fun b o h => hfz b o (by simp [h])) (fun x hx => hlt x (by simp [hx]))
  obtain ⟨a1, rfl, rfl, rfl, w1⟩ := open_int Tryd.underlying45 (hval 1 45 v1 rfl rfl) h1
  clear hA0 hval0
  refine (walk a0 l0 c0 u0 a1 W hs0 hu0 (bd_u64 w1).1 (bd_u64 w1).2).mono fun e W' ⟨he, bel⟩ => ?_
  subst he
  exact ⟨_, rfl, _, _, _, [], _, [], hW', trodAll_mk1 (shut_bool Tryd.underlying4 _), (trodAll_cons_mk (Below.trod laidOutAll (by kernel_rfl) (of_decide_eq_true (by kernel_rfl)) h0k bel (fun x hx => hlt x (by simp [hx]))) (trodAll_cons_mk (shut_int Tryd.underlying45 w1) trodAll_mk0)), rfl, bel.frame _, fun h => by cases h⟩

theorem said : Rows.NatShowsSaid :=
  OpenClaim.holds_of_wide 7 Tryd.f7 rfl rfl rfl rfl rfl rfl rfl ⟨rfl, rfl, rfl, rfl, rfl⟩ rfl rfl rfl rfl rfl (by kernel_rfl) Tryd.func7 (by kernel_rfl)
    (of_decide_eq_true (by kernel_rfl)) (by unfold Func.isWrapper; first | (rw [if_pos (by decide +kernel)]; kernel_rfl) | (rw [if_neg (by decide +kernel)]; exact ⟨rfl, rfl⟩))
    (fun os started H enc _ => lifted os started H enc)
/-- The program's own looks are off, and no parameter wants a stand-in: what the card asks. -/
theorem plain (f : FuncId) (fn : Func) (hf : Tryd.pinned.checked.prog.funcNamed "zellige/zelligelaw03.NatShows" = some f) (hfn : Tryd.pinned.checked.prog.funcs[f]? = some fn) :
    false = Tryd.pinned.checked.prog.looks [] ∧ ∀ (j : Nat) t, fn.params[j]? = some t → Tryd.pinned.checked.prog.wantsStandIn t = false := by
  obtain rfl : f = 7 := Option.some.inj ((show Tryd.prog.funcNamed "zellige/zelligelaw03.NatShows" = some 7 by kernel_rfl).symm.trans hf) |>.symm
  obtain rfl : fn = Tryd.f7 := (Option.some.inj (Tryd.func7.symm.trans hfn)).symm
  refine ⟨by kernel_rfl, fun j t ht => ?_⟩
  rw [Tryd.params7] at ht
  have hm : t ∈ [23, 45] := by simpa using Array.mem_of_getElem? ht
  have hall : ([23, 45].all fun u => !Tryd.prog.wantsStandIn u) = true := by kernel_rfl
  exact (show Tryd.prog.wantsStandIn t = false by simpa using List.all_eq_true.1 hall t hm)
/-- The statement: the card. -/
theorem proved : Rows.NatShowsCardSaid :=
  Claim7.holds_tied_plain_at .later [] _ _ _ _ said (fun _ h => by cases h) (by kernel_rfl) (fun _ h => by cases h) natShows_row_tie rfl ⟨rfl, rfl⟩ (by kernel_rfl) rfl plain (by kernel_rfl)
#print axioms proved
end nshows
end Go.Proofs.YteoepelmapjhcaaDoor
