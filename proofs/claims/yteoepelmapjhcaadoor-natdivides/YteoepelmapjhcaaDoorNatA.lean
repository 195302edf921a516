/-
  What nat's strip and wordAt answer.
-/
import Derived.Test.YteoepelmapjhcaaDoorSegA
import Derived.Test.YteoepelmapjhcaaDoorDigLwd
import Derived.Test.YteoepelmapjhcaaDoorRows
import Derived.WalkKit
import Derived.WalkSpells
import Derived.Deep.QuietTactic
import Derived.BigQuiet
import Derived.RegionTactic
import Derived.ChangeAlike
namespace Go.Proofs.YteoepelmapjhcaaDoor
open Go.RowKit
set_option linter.unusedVariables false

/-- What is left of a slice when noughts at its end are cut off: nil where all is nought, else its first m. -/
def Cut (a : Option Addr) (l cap : Nat) (a' : Option Addr) (m cap' : Nat) : Prop := (m = 0 ∧ a' = none ∧ cap' = 0) ∨ (0 < m ∧ m ≤ l ∧ a' = a ∧ cap' = cap)
theorem Cut.sl {a a' : Option Addr} {l cap m cap' : Nat} {w : World} {u : Int} (h : Cut a l cap a' m cap') (hs : Sl w a l cap (wd.dcells l u)) : Sl w a' m cap' (wd.dcells m u) := by
  rcases h with ⟨rfl, rfl, rfl⟩ | ⟨h1, h2, rfl, rfl⟩
  · exact sl_nil w
  · obtain ⟨b, o, rfl, _, _⟩ := hs.at (by omega)
    have := hs.take h2
    rwa [wd.dcells_take _ _ _ h2] at this
theorem Cut.own {a a' : Option Addr} {l cap m cap' base : Nat} {T : TypeId} {w : World} {u : Int} (h : Cut a l cap a' m cap') (hs : Own w base T a l cap (wd.dcells l u)) : Own w base T a' m cap' (wd.dcells m u) := by
  rcases h with ⟨rfl, rfl, rfl⟩ | ⟨h1, h2, rfl, rfl⟩
  · exact World.ownsRow_nil _ _ _ _
  · have := Own.take hs h2
    rwa [wd.dcells_take _ _ _ h2] at this

set_option maxHeartbeats 400000 in
theorem strip_any (a : Option Addr) (l cap u : Nat) (w : World) (hs : Sl w a l cap (wd.dcells l (u : Int))) (hu : u < 4294967296 ^ l) :
    Calls Tryd.prog 34 #[.slice a l cap] w fun e w' => ∃ a' cap', e = .returned (.slice a' (wd.nlen u) cap') ∧ w = w' ∧ Cut a l cap a' (wd.nlen u) cap' := by
  have hcap := hs.big
  have hroom := hs.room
  unfold maxLen at hcap
  go_enter Tryd.func34, Tryd.ntmps34
  go_wp2
  go_loop [3] (fun i => ∃ k : Nat, k ≤ l ∧ u < 4294967296 ^ k ∧ i = .int .i64 (k : Int)) (fun i => (intOf i).toNat)
  case atStart => exact ⟨l, Nat.le_refl _, hu, rfl⟩
  case round =>
    obtain ⟨k, hk, huk, rfl⟩ := hrel
    rcases k with _ | k
    · have hz : Hid (wd.nlen u = 0) := wd.nlen_eq_zero.2 (by simpa using huk)
      go_wp2
      go_ret
      exact ⟨none, 0, by rw [hz.out]; rfl, rfl, Or.inl ⟨hz.out, rfl, rfl⟩⟩
    · obtain ⟨b, o, rfl, hb, hseg⟩ := hs.at (by omega)
      have c1 : w.cell? ⟨b, o + k, none⟩ = some (.int .u32 (wd.dg u k)) := hseg.cell k _ (wd.dcells_at _ _ _ (by omega))
      have e1 : ((k + 1 : Nat) : Int) - 1 = (k : Int) := by omega
      by_cases hd : wd.dg (u : Int) k = 0
      · have hd' : (wd.dg (u : Int) k == 0) = true := by rw [hd]; rfl
        have hn : u < 4294967296 ^ k := wd.lt_of_dg_zero huk hd
        have Hn : Hid _ := hn
        clear hd hn huk hu
        go_wp2
        go_round
        case rel => exact ⟨k, by omega, Hn.out, by go_num⟩
        case measure => simp [intOf]
      · have hd' : (wd.dg (u : Int) k == 0) = false := by simpa using hd
        have hl : wd.nlen u = k + 1 := by
          refine wd.nlen_eq ⟨huk, Or.inr ?_⟩
          rcases Nat.lt_or_ge u (4294967296 ^ k) with h | h
          · exact absurd (wd.dg_over h) hd
          · simpa using h
        have Hl : Hid _ := hl
        clear hd hl huk hu
        go_wp2
        go_ret
        exact ⟨_, cap, by rw [Hl.out]; rfl, rfl, Or.inr ⟨by rw [Hl.out]; omega, by rw [Hl.out]; omega, rfl, rfl⟩⟩

set_option maxHeartbeats 400000 in
theorem wordAt_any (a : Option Addr) (l cap u i : Nat) {iv : Int} (w : World) (hs : Sl w a l cap (wd.dcells l (u : Int))) (hu : u < 4294967296 ^ l) (hi : iv = (i : Int)) :
    Calls Tryd.prog 36 #[.slice a l cap, .int .i64 iv] w fun e w' => e = .returned (.int .u32 (wd.dg u i)) ∧ w = w' := by
  subst hi
  have hcap := hs.big
  have hroom := hs.room
  unfold maxLen at hcap
  by_cases h : i < l
  · obtain ⟨b, o, rfl, hb, hseg⟩ := hs.at (by omega)
    have c1 : w.cell? ⟨b, o + i, none⟩ = some (.int .u32 (wd.dg u i)) := hseg.cell i _ (wd.dcells_at _ _ _ (by omega))
    clear hu
    go_enter Tryd.func36, Tryd.ntmps36
    go_wp2
    go_ret
    exact ⟨rfl, rfl⟩
  · have hz : Hid (wd.dg (u : Int) i = 0) := wd.dg_over (Nat.lt_of_lt_of_le hu (Nat.pow_le_pow_right (by decide) (by omega)))
    clear hu
    go_enter Tryd.func36, Tryd.ntmps36
    go_wp2
    go_ret
    exact ⟨by rw [hz.out]; rfl, rfl⟩
end Go.Proofs.YteoepelmapjhcaaDoor
