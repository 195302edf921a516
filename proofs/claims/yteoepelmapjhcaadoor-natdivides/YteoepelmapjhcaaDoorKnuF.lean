/-
  What nat's DivMod answers.
-/
import Derived.Test.YteoepelmapjhcaaDoorKnuD
namespace Go.Proofs.YteoepelmapjhcaaDoor
open Go.RowKit
set_option linter.unusedVariables false

theorem top_le {v l : Nat} (h : wd.nlen v = l + 1) : 4294967296 ^ l ≤ v := by
  refine Nat.le_of_not_lt fun hlt => ?_
  have := wd.nlen_le hlt
  omega
set_option maxRecDepth 100000 in
set_option maxHeartbeats 1000000 in
theorem divMod_long (a b : Option Addr) (la lb ca cb u v : Nat) (w : World) (ha : Sl w a la ca (wd.dcells la (u : Int))) (hu : u < 4294967296 ^ la) (hla : la ≤ 100000000) (hb : Sl w b lb cb (wd.dcells lb (v : Int))) (hv : v < 4294967296 ^ lb) (hlb : 2 ≤ wd.nlen v) (hge : wd.nlen v ≤ wd.nlen u) :
    Calls Tryd.prog 20 #[.slice a la ca, .slice b lb cb] w (Both w (u / v) (u % v)) := by
  have hlu := wd.nlen_le hu
  have hu2 := wd.nlen_lt u
  have hv2 := wd.nlen_lt v
  obtain ⟨lu, hlu'⟩ : ∃ lu, lu = wd.nlen u := ⟨_, rfl⟩
  obtain ⟨lv, hlv'⟩ : ∃ lv, lv = wd.nlen v := ⟨_, rfl⟩
  obtain ⟨m, hm⟩ : ∃ m, m = lu - lv + 1 := ⟨_, rfl⟩
  rw [← hlu'] at hlu hu2 hge
  rw [← hlv'] at hv2 hlb hge
  have htop : 4294967296 ^ (lv - 1) ≤ v := top_le (by omega)
  have hv0 : 0 < v := Nat.lt_of_lt_of_le (wd.pow_nat _) htop
  have HT : Hid _ := htop
  have HQl : Hid (u / v < 4294967296 ^ m) := Nat.div_lt_of_lt_mul (by
    have := Nat.mul_le_mul_right (4294967296 ^ m) htop
    rw [← Nat.pow_add, show lv - 1 + m = lu by omega] at this
    omega)
  have HRl : Hid (u % v < 4294967296 ^ (lu + 1)) := by
    have := Nat.mod_lt u hv0
    have : (4294967296 : Nat) ^ lv ≤ 4294967296 ^ (lu + 1) := Nat.pow_le_pow_right (by decide) (by omega)
    unfold Hid
    omega
  have HM : Hid (m + lv = lu + 1) := by unfold Hid; omega
  have HU : Hid _ := hlu'.symm
  have HV : Hid _ := hlv'.symm
  have HU2 : Hid _ := hu2
  have HV2 : Hid _ := hv2
  have hm1 : 1 ≤ m := by omega
  clear hlu' hlv' hm htop hu2 hv2
  go_enter Tryd.func20, Tryd.ntmps20
  go_wp2_with (first
    | (go_at_call_of 34 [Value.slice a la ca]; refine (strip_to lu a la ca u _ ha hu HU.out).mono ?_; rintro e w' ⟨a1, ca1, rfl, hw, hcut1⟩; subst hw)
    | (go_at_call_of 34 [Value.slice b lb cb]; refine (strip_to lv b lb cb v _ hb hv HV.out).mono ?_; rintro e w' ⟨b1, cb1, rfl, hw, hcut2⟩; subst hw)
    | (go_at_call 41; fail))
  have sa : Sl w a1 lu ca1 (wd.dcells lu (u : Int)) := by have := hcut1.sl ha; exact this
  have sb : Sl w b1 lv cb1 (wd.dcells lv (v : Int)) := by have := hcut2.sl hb; exact this
  refine (divideLong_any a1 b1 lu lv m ca1 cb1 u v w sa HU2.out (by omega) sb HV2.out hlb HM.out hm1 HT.out).mono ?_
  rintro e w1 ⟨qb, rb, rfl, hq, hr, hbel⟩
  have HQ : Hid _ := hq
  have HR : Hid _ := hr
  clear hq hr
  obtain ⟨l1, hl1⟩ : ∃ l1, l1 = lu + 1 := ⟨_, rfl⟩
  have HL1 : Hid _ := hl1
  rw [← hl1]
  have HR1 : Hid (Own w1 w.heap.size 44 (some ⟨rb, 0, none⟩) l1 l1 (wd.dcells l1 ((u % v : Nat) : Int))) := by rw [hl1]; exact HR.out
  have HRl1 : Hid (u % v < 4294967296 ^ l1) := by rw [hl1]; exact HRl.out
  clear hl1
  go_wp2_with (go_at_call 34; fail)
  refine (strip_any (some ⟨qb, 0, none⟩) m m (u / v) w1 (Own.sl HQ.out) HQl.out).mono ?_
  rintro e w' ⟨a3, ca3, rfl, hw, hcut3⟩
  subst hw
  go_wp2_with (go_at_call 34; fail)
  refine (strip_any (some ⟨rb, 0, none⟩) l1 l1 (u % v) w1 (Own.sl HR1.out) HRl1.out).mono ?_
  rintro e w' ⟨a4, ca4, rfl, hw, hcut4⟩
  subst hw
  go_wp2
  go_ret3
  exact ⟨a3, ca3, a4, ca4, rfl, hcut3.own HQ.out, hcut4.own HR1.out, hbel⟩

/-- DivMod by a number that isn't nought. -/
theorem divMod_any (a b : Option Addr) (la lb ca cb u v : Nat) (w : World) (ha : Sl w a la ca (wd.dcells la (u : Int))) (hu : u < 4294967296 ^ la) (hla : la ≤ 100000000) (hb : Sl w b lb cb (wd.dcells lb (v : Int))) (hv : v < 4294967296 ^ lb) (h0 : 0 < v) :
    Calls Tryd.prog 20 #[.slice a la ca, .slice b lb cb] w (Both w (u / v) (u % v)) := by
  rcases Nat.lt_or_ge (wd.nlen u) (wd.nlen v) with h | h
  · exact divMod_less a b la lb ca cb u v w ha hu (by omega) hb hv h
  · rcases Nat.lt_or_ge (wd.nlen v) 2 with h2 | h2
    · have h1 : wd.nlen v = 1 := by
        rcases Nat.eq_zero_or_pos (wd.nlen v) with e | e
        · have := wd.nlen_lt v
          rw [e] at this
          simp at this
          omega
        · omega
      exact divMod_word a b la lb ca cb u v w ha hu (by omega) hb hv h1 (by omega)
    · exact divMod_long a b la lb ca cb u v w ha hu hla hb hv h2 h
end Go.Proofs.YteoepelmapjhcaaDoor
