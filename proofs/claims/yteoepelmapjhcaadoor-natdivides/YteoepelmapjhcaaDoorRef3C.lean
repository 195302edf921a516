/-
  What zelligeref03's Same answers of a number and its digits.
-/
import Derived.Test.YteoepelmapjhcaaDoorRef3B
namespace Go.Proofs.YteoepelmapjhcaaDoor
open Go.RowKit
set_option linter.unusedVariables false

set_option maxRecDepth 100000 in
set_option maxHeartbeats 1000000 in
theorem same_yes (a b : Option Addr) (ca cb u : Nat) (w : World) (ha : Sl w a (wd.nlen u) ca (wd.dcells (wd.nlen u) (u : Int))) (hb : Sl w b (hf.nlen u) cb (hf.dcells (hf.nlen u) (u : Int))) (hl : hf.nlen u ≤ 1000000000) :
    Calls Tryd.prog 13 #[.slice a (wd.nlen u) ca, .slice b (hf.nlen u) cb] w fun e w' => e = .returned (.bool true) ∧ Below w.heap.size w w' := by
  have hm : wd.nlen u ≤ 1000000000 := by have := wd_of_hf u; omega
  go_enter Tryd.func13, Tryd.ntmps13
  go_wp2_with (go_at_call 37; refine (rnat_any b cb u _ hb hl).mono ?_; rintro e w1 ⟨a1, c1, rfl, hown, hbel⟩)
  go_loopw [6] (fun i wr => ∃ k : Nat, k ≤ wd.nlen u ∧ i = .int .i64 (k : Int) ∧ ∃ n, wr = w1.drewN n) (fun i _ => wd.nlen u - (intOf i).toNat)
  case atStart => exact ⟨0, by omega, rfl, 0, rfl⟩
  case round =>
    obtain ⟨k, hk, rfl, n, rfl⟩ := hrel
    by_cases hlt : k < wd.nlen u
    · obtain ⟨ba, oa, rfl, hba, hseg⟩ := ha.at (by omega)
      have hroom := ha.room
      obtain ⟨g, rfl, hg, hg2, hsg⟩ := Own.at hown (by omega)
      have hroom2 := (Own.sl hown).room
      have q1 : w1.cell? ⟨ba, oa + k, none⟩ = some (.int .u32 (wd.dg u k)) := (hbel.cell (p := ⟨ba, oa + k, none⟩) hba).trans (hseg.cell k _ (wd.dcells_at _ _ _ hlt))
      have q2 : w1.cell? ⟨g, k, none⟩ = some (.int .u32 (wd.dg u k)) := Own.cell hown k _ (wd.dcells_at _ _ _ hlt)
      have hne : (wd.dg (u : Int) k != wd.dg (u : Int) k) = false := by simp
      go_wp2
      go_quiet (fail)
      go_wp2
      go_roundw
      case rel => exact ⟨k + 1, by omega, by simp, _, rfl⟩
      case measure => simp [intOf]; omega
    · go_wp2
      go_ret
      exact ⟨rfl, below_drewN hbel n⟩
end Go.Proofs.YteoepelmapjhcaaDoor
