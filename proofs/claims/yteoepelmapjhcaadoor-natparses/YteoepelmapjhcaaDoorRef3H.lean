/-
  What zelligeref03's Parse answers where there is no number.
-/
import Derived.Test.YteoepelmapjhcaaDoorRef3E
import Derived.Test.YteoepelmapjhcaaDoorParseB
namespace Go.Proofs.YteoepelmapjhcaaDoor
open Go.RowKit
set_option linter.unusedVariables false

set_option maxRecDepth 100000 in
set_option maxHeartbeats 1000000 in
theorem rparse_form (s : ByteArray) (w : World) (hs : s.size ≤ 9223372036854775807) (h : showsB (nums s) = false) :
    Calls Tryd.prog 32 #[.string s] w fun e w' => ∃ a, e = .returned (.tuple #[.slice a 0 0, .int .i64 4]) ∧ Below w.heap.size w w' := by
  have hsh : (∃ k, ∃ hk : k < s.size, ¬(48 ≤ (s[k].toNat : Int) ∧ (s[k].toNat : Int) ≤ 57)) ∨ s.size = 0 ∨ (1 < s.size ∧ ∀ h0 : 0 < s.size, (s[0].toNat : Int) = 48) := by
    refine Classical.byContradiction fun hno => ?_
    unfold showsB at h
    refine of_decide_eq_false h ⟨fun e => hno (Or.inr (Or.inl (by rw [← nums_length, e]; rfl))), fun e => hno (Or.inr (Or.inr ⟨by have := e.1; rw [nums_length] at this; exact this, fun h0 => by have := e.2; rw [nums_head s h0] at this; simpa using this⟩)), fun c hc => ?_⟩
    obtain ⟨k, hk, e⟩ := List.getElem_of_mem hc
    rw [nums_length] at hk
    have e1 := nums_at s k hk
    rw [List.getElem?_eq_getElem (by rw [nums_length]; exact hk), e] at e1
    have e2 : c = (s[k].toNat : Int) := by simpa using e1
    refine Classical.byContradiction fun hb => hno (Or.inl ⟨k, hk, ?_⟩)
    rw [← e2]
    exact hb
  clear h
  go_enter Tryd.func32, Tryd.ntmps32
  go_wp2
  go_loop [5] (fun i => ∃ k : Nat, k ≤ s.size ∧ i = .int .i64 (k : Int) ∧ Hid (∀ j (hj : j < s.size), j < k → 48 ≤ (s[j].toNat : Int) ∧ (s[j].toNat : Int) ≤ 57)) (fun i => s.size - (intOf i).toNat)
  case atStart => exact ⟨0, by omega, rfl, fun j hj h => by omega⟩
  case round =>
    obtain ⟨k, hk, rfl, HG⟩ := hrel
    by_cases hlt : k < s.size
    · by_cases d0 : 48 ≤ (s[k].toNat : Int)
      · by_cases d1 : (s[k].toNat : Int) ≤ 57
        · go_wp2
          go_round
          case rel =>
            refine ⟨k + 1, by omega, by simp, fun j hj hjk => ?_⟩
            rcases Nat.lt_or_ge j k with h | h
            · exact HG.out j hj h
            · obtain rfl : j = k := by omega
              exact ⟨d0, d1⟩
          case measure => simp [intOf]; omega
        · go_wp2
          go_ret2
          ((first | refine ⟨⟨_, rfl⟩, ?_⟩ | refine ⟨_, rfl, ?_⟩); with_reducible (repeat (first | exact Below.refl _ _ | refine Below.drew ?_ | refine Below.alloc ?_ (by simp) _)))
      · go_wp2
        go_ret2
        ((first | refine ⟨⟨_, rfl⟩, ?_⟩ | refine ⟨_, rfl, ?_⟩); with_reducible (repeat (first | exact Below.refl _ _ | refine Below.drew ?_ | refine Below.alloc ?_ (by simp) _)))
    · have hsh := hsh.resolve_left (fun ⟨j, hj, hb⟩ => hb (HG.out j hj (by omega)))
      rcases hsh with h0 | ⟨h1, h48⟩
      · obtain rfl : s = ⟨#[]⟩ := ByteArray.ext (Array.eq_empty_of_size_eq_zero h0)
        clear h0
        go_wp2
        go_ret2
        ((first | refine ⟨⟨_, rfl⟩, ?_⟩ | refine ⟨_, rfl, ?_⟩); with_reducible (repeat (first | exact Below.refl _ _ | refine Below.drew ?_ | refine Below.alloc ?_ (by simp) _)))
      · have h0 : 0 < s.size := by omega
        have he := isEmpty_no h0
        have h48 := h48 h0
        have hb : ((s[0].toNat : Int) == 48) = true := by rw [h48]; rfl
        clear h48
        go_wp2
        go_ret2
        ((first | refine ⟨⟨_, rfl⟩, ?_⟩ | refine ⟨_, rfl, ?_⟩); with_reducible (repeat (first | exact Below.refl _ _ | refine Below.drew ?_ | refine Below.alloc ?_ (by simp) _)))
set_option maxRecDepth 100000 in
set_option maxHeartbeats 1000000 in
theorem rparse_long (s : ByteArray) (w : World) (hs : s.size ≤ 9223372036854775807) (h : showsB (nums s) = true) (hl : 2000 < s.size) :
    Calls Tryd.prog 32 #[.string s] w fun e w' => ∃ a, e = .returned (.tuple #[.slice a 0 0, .int .i64 5]) ∧ Below w.heap.size w w' := by
  have h0 : 0 < s.size := by omega
  have hb : ((s[0].toNat : Int) == 48) = false := by
    unfold showsB at h
    have h2 := (of_decide_eq_true h).2.1
    rcases hb : ((s[0].toNat : Int) == 48) with _ | _
    · rfl
    · exact absurd ⟨by rw [nums_length]; omega, by rw [nums_head s h0]; simpa using hb⟩ h2
  have HD : Hid (∀ k (hk : k < s.size), 48 ≤ (s[k].toNat : Int) ∧ (s[k].toNat : Int) ≤ 57) := fun k hk => by
    unfold showsB at h
    exact (of_decide_eq_true h).2.2 _ (List.mem_of_getElem? (nums_at s k hk))
  have he := isEmpty_no h0
  clear h
  go_enter Tryd.func32, Tryd.ntmps32
  go_wp2
  go_loop [5] (fun i => ∃ k : Nat, k ≤ s.size ∧ i = .int .i64 (k : Int)) (fun i => s.size - (intOf i).toNat)
  case atStart => exact ⟨0, by omega, rfl⟩
  case round =>
    obtain ⟨k, hk, rfl⟩ := hrel
    by_cases hlt : k < s.size
    · obtain ⟨d0, d1⟩ := HD.out k hlt
      go_wp2
      go_round
      case rel => exact ⟨k + 1, by omega, by simp⟩
      case measure => simp [intOf]; omega
    · go_wp2
      go_ret2
      ((first | refine ⟨⟨_, rfl⟩, ?_⟩ | refine ⟨_, rfl, ?_⟩); with_reducible (repeat (first | exact Below.refl _ _ | refine Below.drew ?_ | refine Below.alloc ?_ (by simp) _)))
end Go.Proofs.YteoepelmapjhcaaDoor
