/-
  What nat's Sub answers.
-/
import Derived.Test.YteoepelmapjhcaaDoorCmpB
import Derived.Test.YteoepelmapjhcaaDoorNatE
namespace Go.Proofs.YteoepelmapjhcaaDoor
open Go.RowKit
set_option linter.unusedVariables false

/-- What holds at the head of each round of the difference's loop. -/
def NSubRel (w : World) (u v l b : Nat) (c i : Value) (wr : World) : Prop := ∃ k : Nat, k ≤ l ∧ i = .int .i64 (k : Int) ∧ c = .int .u32 (wd.bw u v k) ∧ Own wr w.heap.size 44 (some ⟨b, 0, none⟩) l l (wd.mix l k ((u : Int) - v) 0) ∧ Below w.heap.size w wr
theorem nsub_next (w wr : World) (u v l b k : Nat) (hk : k < l) (hown : Own wr w.heap.size 44 (some ⟨b, 0, none⟩) l l (wd.mix l k ((u : Int) - v) 0)) (hb : Below w.heap.size w wr) :
    NSubRel w u v l b (.int .u32 (wd.bor (wd.dg u k) (wd.dg v k + wd.bw u v k))) (.int .i64 ((k : Int) + 1)) (wr.setCell ⟨b, k, none⟩ (.int .u32 ((wd.dg u k - wd.dg v k - wd.bw u v k) % 4294967296))) := by
  refine ⟨k + 1, by omega, by simp, by rw [wd.bw_succ], ?_, hb.setCell (seg_of_own hown).2.2 _⟩
  rw [wd.sub_digit, ← wd.mix_set]
  exact Own.set hown _ (by omega)

set_option maxHeartbeats 1000000 in
theorem sub_no (a b : Option Addr) (la lb ca cb u v : Nat) (w : World) (ha : Sl w a la ca (wd.dcells la (u : Int))) (hu : u < 4294967296 ^ la) (hb : Sl w b lb cb (wd.dcells lb (v : Int))) (hv : v < 4294967296 ^ lb) (hlt : u < v) :
    Calls Tryd.prog 11 #[.slice a la ca, .slice b lb cb] w fun e w' => e = .returned (.tuple #[.slice none 0 0, .bool false]) ∧ Below w.heap.size w w' := by
  have HC : Hid (cmpI u v = -1) := by unfold Hid cmpI; rw [if_pos (by omega)]
  clear hlt
  go_enter Tryd.func11, Tryd.ntmps11
  go_wp2_with (go_at_call 24; refine (cmp_any a b la lb ca cb u v _ ha hu hb hv).mono ?_; rw [HC.out]; rintro e w1 ⟨rfl, hbel⟩)
  go_ret2
  exact ⟨rfl, hbel⟩

set_option maxRecDepth 100000 in
set_option maxHeartbeats 1000000 in
theorem sub_yes (a b : Option Addr) (la lb ca cb u v : Nat) (w : World) (ha : Sl w a la ca (wd.dcells la (u : Int))) (hu : u < 4294967296 ^ la) (hla : la ≤ 1000000000) (hb : Sl w b lb cb (wd.dcells lb (v : Int))) (hv : v < 4294967296 ^ lb) (hle : v ≤ u) :
    Calls Tryd.prog 11 #[.slice a la ca, .slice b lb cb] w fun e w' => ∃ a' cap', e = .returned (.tuple #[.slice a' (wd.nlen (u - v)) cap', .bool true]) ∧ Own w' w.heap.size 44 a' (wd.nlen (u - v)) cap' (wd.dcells (wd.nlen (u - v)) ((u - v : Nat) : Int)) ∧ Below w.heap.size w w' := by
  have HC : ∃ c, c = cmpI (u : Int) v ∧ 0 ≤ c := ⟨_, rfl, by unfold cmpI; rw [if_neg (by omega)]; split <;> decide⟩
  obtain ⟨c, hc, hc0⟩ := HC
  have HC : Hid _ := hc
  clear hc
  have hlu := wd.nlen_le hu
  obtain ⟨i0, hi0, hz0, hz1, hz2⟩ := info_parts infoWord
  have hz0' : wd.dcells (wd.nlen u) 0 = List.replicate (wd.nlen u) (.int .u32 0) := wd.dcells_zero _
  have hmax : wd.nlen u ≤ maxLen := by unfold maxLen; omega
  have HE : Hid ((u : Int) - v = ((u - v : Nat) : Int)) := by unfold Hid; omega
  have HS : Hid (u - v < 4294967296 ^ wd.nlen u) := by have := wd.nlen_lt u; unfold Hid; omega
  clear hle
  go_enter Tryd.func11, Tryd.ntmps11
  go_wp2_with (first
    | (go_at_call 24; refine (cmp_any a b la lb ca cb u v _ ha hu hb hv).mono ?_; rw [← HC.out]; rintro e w1 ⟨rfl, hbel0⟩; have hsz := hbel0.size)
    | (go_at_call 34; refine (strip_any a la ca u _ (ha.below hbel0) hu).mono ?_; rintro e w' ⟨a1, ca1, rfl, hw, hcut1⟩; subst hw)
    | (at_make; refine make_any _ rfl (.tmp 17) (.tmp 17) 23 rfl w.heap.size 44 i0 (.int .u32 0) Tryd.underlying23 hi0 hz0 hz1 rfl .i64 .i64 _ _ (wd.nlen u) rfl rfl (by simp) (by simp) (by rw [hz2]; omega) (by omega) hsz ?_; intro w2 hown hbel1))
  rw [← hz0', ← wd.mix_zero (wd.nlen u) ((u : Int) - v)] at hown
  have hbel := hbel0.trans (hbel1.mono hsz)
  clear hbel1
  go_loopw [7, 21] (fun c i wr => NSubRel w u v (wd.nlen u) w1.heap.size c i wr) (fun _ i _ => wd.nlen u - (intOf i).toNat)
  case atStart => exact ⟨0, by omega, rfl, by rw [wd.bw_zero], hown, hbel⟩
  case round =>
    clear hown hbel
    obtain ⟨k, hk, rfl, rfl, hown, hbel⟩ := hrel
    have hc1 := hcut1.sl ha
    by_cases hlt : k < wd.nlen u
    · obtain ⟨ba, oa, rfl, hba, hseg⟩ := hc1.at (by omega)
      have c1 : wr.cell? ⟨ba, oa + k, none⟩ = some (.int .u32 (wd.dg u k)) := (hbel.cell (p := ⟨ba, oa + k, none⟩) hba).trans (hseg.cell k _ (wd.dcells_at _ _ _ hlt))
      have c3 : wr.cell? ⟨w1.heap.size, k, none⟩ = some (.int .u32 (wd.dg 0 k)) := Own.cell hown k _ (wd.mix_at _ _ _ _ _ (by omega) (Nat.le_refl _))
      have c4 : wr.frozen? ⟨w1.heap.size, k, none⟩ = false := Own.free hown k (by omega)
      obtain ⟨d0, d1⟩ := wd.dg_range u k
      obtain ⟨e0, e1⟩ := wd.dg_range v k
      obtain ⟨f0, f1⟩ := wd.bw_range u v k
      have HN : Hid _ := nsub_next w wr u v (wd.nlen u) w1.heap.size k hlt hown hbel
      have hs2 := hb.below hbel
      clear hown
      go_wp2_with (first
        | (go_at_call 36; refine (wordAt_any _ _ _ v k _ hs2 hv rfl).mono ?_; rintro e w' ⟨rfl, hw⟩; subst hw)
        | (go_at_call 35; refine (sub32_any _ _ _ _ d0 d1 e0 e1 f0 f1).mono ?_; rintro e w' ⟨rfl, hw⟩; subst hw))
      go_roundw
      case rel => exact HN.out
      case measure => simp [intOf]; omega
    · obtain rfl : k = wd.nlen u := by omega
      rw [wd.mix_full, HE.out] at hown
      go_wp2_with (go_at_call 34; refine (strip_any _ _ _ (u - v) _ hown.sl HS.out).mono ?_; rintro e w' ⟨a3, c3', rfl, hw, hcut3⟩; subst hw)
      go_ret2
      exact ⟨a3, c3', rfl, hcut3.own hown, hbel⟩
end Go.Proofs.YteoepelmapjhcaaDoor
