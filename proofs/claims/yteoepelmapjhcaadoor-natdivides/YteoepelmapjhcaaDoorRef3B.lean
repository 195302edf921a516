/-
  What zelligeref03's Nat and Same answer.
-/
import Derived.Test.YteoepelmapjhcaaDoorRef3A
namespace Go.Proofs.YteoepelmapjhcaaDoor
open Go.RowKit
set_option linter.unusedVariables false

theorem wd_half (u : Nat) (k : Nat) : wd.dg (u : Int) k = hf.dg u (2 * k) + 65536 * hf.dg u (2 * k + 1) := by
  have h := halves u k
  omega
/-- How many words digits make. -/
theorem wd_of_hf (u : Nat) : wd.nlen u = (hf.nlen u + 1) / 2 := by
  refine wd.nlen_eq ⟨?_, ?_⟩
  · rw [← pow_halves]
    exact Nat.lt_of_lt_of_le (hf.nlen_lt u) (Nat.pow_le_pow_right (by decide) (by omega))
  · rcases (hf.nlen_is u).2 with h | h
    · exact Or.inl (by rw [h])
    · rcases Nat.eq_zero_or_pos (hf.nlen u) with h0 | h0
      · exact Or.inl (by rw [h0])
      · right
        rw [← pow_halves]
        exact Nat.le_trans (Nat.pow_le_pow_right (by decide) (by omega)) h
/-- What holds at the head of each round. -/
def NatRel (w : World) (u l : Nat) (v i : Value) (wr : World) : Prop := ∃ (k cap : Nat) (a : Option Addr), 2 * k ≤ l + 1 ∧ i = .int .i64 (2 * (k : Int)) ∧ v = .slice a k cap ∧ Own wr w.heap.size 44 a k cap (wd.dcells k (u : Int)) ∧ Below w.heap.size w wr
theorem natRel_next {w wr w2 w4 : World} {u l k cap cap' g' : Nat} {a : Option Addr} {x : Int} (hx : x = wd.dg u k) (hk : 2 * k < l) (hown : Own wr w.heap.size 44 a k cap (wd.dcells k (u : Int))) (hbel : Below w.heap.size w wr)
    (h4 : w4.ownsRow w.heap.size 44 1 (.slice (some ⟨g', 0, none⟩) (k + 1) cap') (k + 1) (wd.dcells k (u : Int) ++ [.int .u32 x]))
    (h2 : Below wr.heap.size wr w2) (hgr : w2.grownBy w4 (Value.slice a k cap).ownBlock) : NatRel w u l (.slice (some ⟨g', 0, none⟩) (k + 1) cap') (.int .i64 (2 * (k : Int) + 2)) w4 := by
  have hs := hbel.size
  refine ⟨k + 1, cap', _, by omega, by simp; omega, rfl, ?_, (hbel.trans (h2.mono hs)).grown hgr (by have := h2.size; omega) (fun k' hk' => (World.ownsRow.lt hown k' hk').1)⟩
  rw [wd.dcells_succ, ← hx]
  exact h4
set_option maxRecDepth 100000 in
set_option maxHeartbeats 1000000 in
theorem rnat_any (a : Option Addr) (ca u : Nat) (w : World) (ha : Sl w a (hf.nlen u) ca (hf.dcells (hf.nlen u) (u : Int))) (hl : hf.nlen u ≤ 1000000000) :
    Calls Tryd.prog 37 #[.slice a (hf.nlen u) ca] w fun e w' => ∃ a' cap', e = .returned (.slice a' (wd.nlen u) cap') ∧ Own w' w.heap.size 44 a' (wd.nlen u) cap' (wd.dcells (wd.nlen u) (u : Int)) ∧ Below w.heap.size w w' := by
  obtain ⟨i0, hi0, hz0, hz1, hz2⟩ := info_parts infoWord
  have hown0 := own_empty w w.heap.size 44 (Nat.le_refl _)
  obtain ⟨l, hl'⟩ : ∃ l, hf.nlen u = l := ⟨_, rfl⟩
  have HW : Hid (wd.nlen u = (l + 1) / 2) := by unfold Hid; rw [wd_of_hf, hl']
  have HT : Hid (u < 65536 ^ l) := by unfold Hid; rw [← hl']; exact hf.nlen_lt u
  rw [hl'] at ha hl ⊢
  clear hl'
  go_enter Tryd.func37, Tryd.ntmps37
  go_wp2
  go_loopw [3, 4] (fun v i wr => NatRel w u l v i wr) (fun _ i _ => l + 1 - (intOf i).toNat)
  case atStart => exact ⟨0, 0, _, by omega, rfl, rfl, hown0, (Below.refl _ _).alloc (Nat.le_refl _) _⟩
  case round =>
    clear hown0
    obtain ⟨k, cap, v, hk, rfl, rfl, hown, hbel⟩ := hrel
    have hsz := hbel.size
    by_cases hlt : 2 * k < l
    · obtain ⟨ba, oa, rfl, hba, hseg⟩ := ha.at (by omega)
      have hroom := ha.room
      have c1 : wr.cell? ⟨ba, oa + 2 * k, none⟩ = some (.int .i64 (hf.dg u (2 * k))) := (hbel.cell (p := ⟨ba, oa + 2 * k, none⟩) hba).trans (hseg.cell (2 * k) _ (hf.dcells_at _ _ _ hlt))
      obtain ⟨d0, d1⟩ := hf.dg_range u (2 * k)
      have hlt' : (2 * (k : Int)) < l := by omega
      by_cases hl2 : 2 * k + 1 < l
      · have hl2' : (2 * (k : Int)) + 1 < l := by omega
        have c2 : wr.cell? ⟨ba, oa + (2 * k + 1), none⟩ = some (.int .i64 (hf.dg u (2 * k + 1))) := (hbel.cell (p := ⟨ba, oa + (2 * k + 1), none⟩) hba).trans (hseg.cell (2 * k + 1) _ (hf.dcells_at _ _ _ hl2))
        obtain ⟨e0, e1⟩ := hf.dg_range u (2 * k + 1)
        have HN : Hid _ := fun w2 w4 g' cap' => natRel_next (x := hf.dg u (2 * k) + 65536 * hf.dg u (2 * k + 1)) (w2 := w2) (w4 := w4) (g' := g') (cap' := cap') (wd_half u k).symm hlt hown hbel
        go_wp2_with (at_builtin; refine wpList_append_lies _ rfl (.tmp 30) (.tmp 33) 23 rfl w.heap.size 44 i0 (.int .u32 0) 1 4 Tryd.underlying23 hi0 hz0 hz1 hz2 rfl (by decide) (.slice v k cap) k (wd.dcells k (u : Int)) rfl (World.ownsRow.alloc hown _) ⟨wr.heap.size, 0, none⟩ 1 1 [.int .u32 (hf.dg u (2 * k) + 65536 * hf.dg u (2 * k + 1))] rfl rfl (cell_one_new _ _ _) (ints_oneCell .u32 [hf.dg u (2 * k) + 65536 * hf.dg u (2 * k + 1)]) (by decide) (by unfold maxLen; omega) (by omega) (by simp; omega) _ rfl ?_; intro g' cap' w4 hown4 hgrow4 hat4 hlt4)
        go_roundw
        case rel => exact HN.out _ w4 g' cap' hown4 ((Below.refl _ _).alloc (Nat.le_refl _) _) hgrow4
        case measure => simp [intOf]; omega
      · have hl2' : ¬ (2 * (k : Int)) + 1 < l := by omega
        have HX : Hid (hf.dg (u : Int) (2 * k) = wd.dg u k) := by
          have : hf.dg (u : Int) (2 * k + 1) = 0 := hf.dg_over (Nat.lt_of_lt_of_le HT.out (Nat.pow_le_pow_right (by decide) (by omega)))
          have h := wd_half u k
          unfold Hid
          omega
        have HN : Hid _ := fun w2 w4 g' cap' => natRel_next (x := hf.dg u (2 * k)) (w2 := w2) (w4 := w4) (g' := g') (cap' := cap') HX.out hlt hown hbel
        go_wp2_with (at_builtin; refine wpList_append_lies _ rfl (.tmp 30) (.tmp 33) 23 rfl w.heap.size 44 i0 (.int .u32 0) 1 4 Tryd.underlying23 hi0 hz0 hz1 hz2 rfl (by decide) (.slice v k cap) k (wd.dcells k (u : Int)) rfl (World.ownsRow.alloc hown _) ⟨wr.heap.size, 0, none⟩ 1 1 [.int .u32 (hf.dg u (2 * k))] rfl rfl (cell_one_new _ _ _) (ints_oneCell .u32 [hf.dg u (2 * k)]) (by decide) (by unfold maxLen; omega) (by omega) (by simp; omega) _ rfl ?_; intro g' cap' w4 hown4 hgrow4 hat4 hlt4)
        go_roundw
        case rel => exact HN.out _ w4 g' cap' hown4 ((Below.refl _ _).alloc (Nat.le_refl _) _) hgrow4
        case measure => simp [intOf]; omega
    · have HE : Hid (wd.nlen u = k) := by unfold Hid; rw [HW.out]; omega
      have hlt' : ¬ (2 * (k : Int)) < l := by omega
      go_wp2
      go_ret
      rw [HE.out]
      exact ⟨v, cap, rfl, hown, hbel⟩
end Go.Proofs.YteoepelmapjhcaaDoor
