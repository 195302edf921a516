/-
  The laws' own cut of a number: some number of twenty words at most, in memory of its own.
-/
import Derived.Test.YteoepelmapjhcaaDoorRef3E
namespace Go.Proofs.YteoepelmapjhcaaDoor
open Go.RowKit
set_option linter.unusedVariables false

/-- Some number of twenty words at most. -/
def Cutted (w : World) (e : Ending) (w' : World) : Prop := ∃ (a : Option Addr) (cap m u : Nat), e = .returned (.slice a m cap) ∧ m ≤ 20 ∧ u < 4294967296 ^ m ∧ Own w' w.heap.size 44 a m cap (wd.dcells m (u : Int)) ∧ Below w.heap.size w w'
set_option maxRecDepth 100000 in
set_option maxHeartbeats 1000000 in
theorem short_any (a : Option Addr) (l ca u : Nat) (w : World) (ha : Sl w a l ca (wd.dcells l (u : Int))) (hu : u < 4294967296 ^ l) :
    Calls Tryd.prog 9 #[.slice a l ca] w (Cutted w) := by
  obtain ⟨i0, hi0, hz0, hz1, hz2⟩ := info_parts infoWord
  have hown0 := own_empty w w.heap.size 44 (Nat.le_refl _)
  have hB0 : Below w.heap.size w (w.alloc (.cells #[] 44)) := (Below.refl _ _).alloc (Nat.le_refl _) _
  have k1 := ha.big
  have k2 := ha.room
  unfold maxLen at k1
  by_cases hl : 20 < l
  · obtain ⟨b, o, rfl, hb, hseg⟩ := ha.at (by omega)
    have h20 := ha.take (m := 20) (by omega)
    rw [wd.dcells_take _ _ _ (by omega)] at h20
    have e20 : wd.dcells 20 (u : Int) = wd.dcells 20 ((u % 4294967296 ^ 20 : Nat) : Int) := by
      refine wd.dcells_congr ((u / 4294967296 ^ 20 : Nat) : Int) ?_
      have := Nat.mod_add_div u (4294967296 ^ 20)
      rw [← wd.pow_cast]
      rw [← Int.natCast_mul, Nat.mul_comm]
      omega
    rw [e20] at h20
    have HM : Hid (u % 4294967296 ^ 20 < 4294967296 ^ 20) := Nat.mod_lt _ (by decide)
    obtain ⟨v, hv⟩ : ∃ v, u % 4294967296 ^ 20 = v := ⟨_, rfl⟩
    rw [hv] at h20 HM
    have h20' := h20.below hB0
    clear hv e20 hu
    go_enter Tryd.func9, Tryd.ntmps9
    go_wp2_with (at_builtin; refine append_any _ rfl (.tmp 8) (.tmp 9) 23 rfl w.heap.size 44 i0 (.int .u32 0) 4 Tryd.underlying23 hi0 hz0 hz1 hz2 rfl _ 0 0 [] rfl hown0 (some ⟨b, o, none⟩) 20 ca (wd.dcells 20 (v : Int)) rfl h20' (dcells_one _ _) (by decide) (by decide) (by simp) ?_; intro a2 cap2 w2 hown hgrow)
    go_ret
    exact ⟨a2, cap2, 20, v, rfl, by omega, HM.out, by simpa using hown, hB0.grown hgrow (by simp) (fun k' hk' => by simp [Value.ownBlock] at hk'; omega)⟩
  · have hl' : ¬ (20 : Int) < l := by omega
    have ha' := ha.below hB0
    have HU : Hid _ := hu
    clear hu
    go_enter Tryd.func9, Tryd.ntmps9
    go_wp2_with (at_builtin; refine append_any _ rfl (.tmp 8) (.tmp 9) 23 rfl w.heap.size 44 i0 (.int .u32 0) 4 Tryd.underlying23 hi0 hz0 hz1 hz2 rfl _ 0 0 [] rfl hown0 a l ca (wd.dcells l (u : Int)) rfl ha' (dcells_one _ _) (by unfold maxLen; omega) (by omega) (by simp) ?_; intro a2 cap2 w2 hown hgrow)
    go_ret
    exact ⟨a2, cap2, l, u, by first | rfl | simp, by omega, HU.out, by simpa using hown, hB0.grown hgrow (by simp) (fun k' hk' => by simp [Value.ownBlock] at hk'; omega)⟩
end Go.Proofs.YteoepelmapjhcaaDoor
