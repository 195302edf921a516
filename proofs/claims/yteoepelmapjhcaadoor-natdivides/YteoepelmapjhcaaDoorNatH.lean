/-
  What nat's DivMod answers, where the divisor is nought, longer, or one word.
-/
import Derived.Test.YteoepelmapjhcaaDoorNatG
namespace Go.Proofs.YteoepelmapjhcaaDoor
open Go.RowKit
set_option linter.unusedVariables false

/-- Two numbers, in memory of the call's own, and no error. -/
def Both (w : World) (q r : Nat) (e : Ending) (w' : World) : Prop := ∃ aq cq ar cr, e = .returned (.tuple #[.slice aq (wd.nlen q) cq, .slice ar (wd.nlen r) cr, .int .i64 0]) ∧
  Own w' w.heap.size 44 aq (wd.nlen q) cq (wd.dcells (wd.nlen q) (q : Int)) ∧ Own w' w.heap.size 44 ar (wd.nlen r) cr (wd.dcells (wd.nlen r) (r : Int)) ∧ Below w.heap.size w w'

theorem strip_to (m : Nat) (a : Option Addr) (l cap u : Nat) (w : World) (hs : Sl w a l cap (wd.dcells l (u : Int))) (hu : u < 4294967296 ^ l) (hm : wd.nlen u = m) :
    Calls Tryd.prog 34 #[.slice a l cap] w fun e w' => ∃ a' cap', e = .returned (.slice a' m cap') ∧ w = w' ∧ Cut a l cap a' m cap' := by
  subst hm
  exact strip_any a l cap u w hs hu
set_option maxRecDepth 100000 in
set_option maxHeartbeats 1000000 in
theorem divMod_zero (a b : Option Addr) (la lb ca cb u : Nat) (w : World) (ha : Sl w a la ca (wd.dcells la (u : Int))) (hu : u < 4294967296 ^ la) (hb : Sl w b lb cb (wd.dcells lb ((0 : Nat) : Int))) :
    Calls Tryd.prog 20 #[.slice a la ca, .slice b lb cb] w fun e w' => e = .returned (.tuple #[.slice none 0 0, .slice none 0 0, .int .i64 3]) ∧ w = w' := by
  go_enter Tryd.func20, Tryd.ntmps20
  go_wp2_with (first
    | (go_at_call_of 34 [Value.slice a la ca]; refine (strip_any a la ca u _ ha hu).mono ?_; rintro e w' ⟨a1, ca1, rfl, hw, hcut1⟩; subst hw)
    | (go_at_call 34; refine (strip_to 0 b lb cb 0 _ hb (wd.pow_nat lb) wd.nlen_zero).mono ?_; rintro e w' ⟨b1, cb1, rfl, hw, hcut2⟩; subst hw))
  go_ret3
  exact ⟨rfl, rfl⟩

set_option maxRecDepth 100000 in
set_option maxHeartbeats 1000000 in
theorem divMod_less (a b : Option Addr) (la lb ca cb u v : Nat) (w : World) (ha : Sl w a la ca (wd.dcells la (u : Int))) (hu : u < 4294967296 ^ la) (hla : la ≤ 1000000000) (hb : Sl w b lb cb (wd.dcells lb (v : Int))) (hv : v < 4294967296 ^ lb) (hlt : wd.nlen u < wd.nlen v) :
    Calls Tryd.prog 20 #[.slice a la ca, .slice b lb cb] w (Both w (u / v) (u % v)) := by
  have hlu := wd.nlen_le hu
  have huv := wd.lt_of_nlen hlt
  have HQ : Hid (u / v = 0) := Nat.div_eq_of_lt huv
  have HR : Hid (u % v = u) := Nat.mod_eq_of_lt huv
  rw [HQ.out, HR.out]
  have hu2 := wd.nlen_lt u
  clear huv
  go_enter Tryd.func20, Tryd.ntmps20
  go_wp2_with (first
    | (go_at_call_of 34 [Value.slice a la ca]; refine (strip_any a la ca u _ ha hu).mono ?_; rintro e w' ⟨a1, ca1, rfl, hw, hcut1⟩; subst hw)
    | (go_at_call 34; refine (strip_any b lb cb v _ hb hv).mono ?_; rintro e w' ⟨b1, cb1, rfl, hw, hcut2⟩; subst hw)
    | (go_at_call 27; refine (trim_any a1 (wd.nlen u) ca1 u _ (hcut1.sl ha) hu2 (by omega)).mono ?_; rintro e w1 ⟨a2, ca2, rfl, hown, hbel⟩))
  go_ret3
  refine ⟨none, 0, a2, ca2, by rw [wd.nlen_zero]; rfl, ?_, hown, hbel⟩
  rw [wd.nlen_zero]
  exact World.ownsRow_nil _ _ _ _

set_option maxRecDepth 100000 in
set_option maxHeartbeats 2000000 in
theorem divMod_word (a b : Option Addr) (la lb ca cb u v : Nat) (w : World) (ha : Sl w a la ca (wd.dcells la (u : Int))) (hu : u < 4294967296 ^ la) (hla : la ≤ 1000000000) (hb : Sl w b lb cb (wd.dcells lb (v : Int))) (hv : v < 4294967296 ^ lb) (hone : wd.nlen v = 1) (hge : 1 ≤ wd.nlen u) :
    Calls Tryd.prog 20 #[.slice a la ca, .slice b lb cb] w (Both w (u / v) (u % v)) := by
  have hlu := wd.nlen_le hu
  have hu2 := wd.nlen_lt u
  have hv1 : v < 4294967296 := by have := wd.nlen_lt v; rw [hone] at this; simpa using this
  have hv0 : 0 < v := by
    rcases Nat.eq_zero_or_pos v with e | e
    · rw [e, wd.nlen_zero] at hone; omega
    · exact e
  have HO : Hid _ := hone
  have HD : Hid (wd.dg (v : Int) 0 = v) := by unfold Hid wd.dg; simp; omega
  have HQ : Hid ((u : Int) / v = ((u / v : Nat) : Int)) := by unfold Hid; rw [Int.natCast_ediv]
  have HR : Hid ((u : Int) % v = ((u % v : Nat) : Int)) := by unfold Hid; rw [Int.natCast_emod]
  have hQ2 : Hid (u / v < 4294967296 ^ wd.nlen u) := Nat.lt_of_le_of_lt (Nat.div_le_self _ _) hu2
  have hR2 : u % v < 18446744073709551616 := by have := Nat.mod_lt u hv0; omega
  have hr0 : 0 ≤ (u : Int) % v := Int.emod_nonneg _ (by omega)
  have hr1 : (u : Int) % v < 4294967296 := by have := Int.emod_lt_of_pos (u : Int) (show (0 : Int) < v by omega); omega
  obtain ⟨R, hRe⟩ : ∃ R : Int, R = (u : Int) % v := ⟨_, rfl⟩
  have HRR : Hid _ := hRe
  have HR3 : Hid (R = ((u % v : Nat) : Int)) := by unfold Hid; rw [hRe, HR.out]
  rw [← hRe] at hr0 hr1
  clear hone hRe
  go_enter Tryd.func20, Tryd.ntmps20
  go_wp2_with (first
    | (go_at_call_of 34 [Value.slice a la ca]; refine (strip_any a la ca u _ ha hu).mono ?_; rintro e w' ⟨a1, ca1, rfl, hw, hcut1⟩; subst hw)
    | (go_at_call_of 34 [Value.slice b lb cb]; refine (strip_to 1 b lb cb v _ hb hv HO.out).mono ?_; rintro e w' ⟨b1, cb1, rfl, hw, hcut2⟩; subst hw; obtain ⟨bb, ob, rfl, hbb, hsb⟩ := (hcut2.sl hb).at (by omega); have hroomb := (hcut2.sl hb).room)
    | (go_at_call 27; refine (trim_any a1 (wd.nlen u) ca1 u _ (hcut1.sl ha) hu2 (by omega)).mono ?_; rintro e w1 ⟨a2, ca2, rfl, hown, hbel⟩; obtain ⟨g, rfl, hg, hg2, _⟩ := Own.at hown (by omega); have c1 := (hbel.cell (p := ⟨bb, ob, none⟩) hbb).trans (hsb.cell 0 _ (wd.dcells_at _ _ _ (by omega))); rw [HD.out] at c1)
    | (go_at_call 40; refine (divWord_any g (wd.nlen u) ca2 u w.heap.size v _ hown hu2 (by omega) (by omega)).mono ?_; rw [← HRR.out]; rintro e w2 ⟨rfl, hown2, hwr2⟩; rw [HQ.out] at hown2; have hbel2 := hwr2.after hbel hg2 (Nat.le_refl _))
    | (go_at_call 34; refine (strip_any _ _ _ (u / v) _ hown2.sl hQ2.out).mono ?_; rintro e w' ⟨a3, ca3, rfl, hw, hcut3⟩; subst hw)
    | (go_at_call 31; refine (of_any (u % v) hR2 HR3.out _).mono ?_; rintro e w3 ⟨a4, ca4, rfl, hown4, hbel4⟩))
  have hsz := hbel2.size
  go_ret3
  exact ⟨a3, ca3, a4, ca4, rfl, Own.below (hcut3.own hown2) hbel4, Own.mono hown4 hsz, hbel2.trans (hbel4.mono hsz)⟩
end Go.Proofs.YteoepelmapjhcaaDoor
