/-
  strings.TrimLeft at the cutset "0".
-/
import Derived.Test.YteoepelmapjhcaaDoorDecN
import Derived.Test.YteoepelmapjhcaaDoorShowA
import Derived.Lib.IndexBytes
namespace Go.Proofs.YteoepelmapjhcaaDoor
open Go.RowKit
set_option linter.unusedVariables false

/-- What holds at the head of each round. -/
def TrimRel (s : ByteArray) (v : Value) : Prop := ∃ t : ByteArray, t.size ≤ s.size ∧ (nums t).dropWhile (· == 48) = (nums s).dropWhile (· == 48) ∧ v = .string t
def strLen : Value → Nat
  | .string s => s.size
  | _ => 0
theorem strLen_str (s : ByteArray) : strLen (.string s) = s.size := rfl
theorem str_of_nums {t : ByteArray} {l : List Int} (h : nums t = l) : t = strOfNums l := by rw [← h, str_nums]
theorem size_tail (t : ByteArray) : (t.extract 1 t.size).size = t.size - 1 := by simp

set_option maxRecDepth 100000 in
set_option maxHeartbeats 1000000 in
theorem trimByte_any (s : ByteArray) (w : World) (hs : s.size ≤ 9223372036854775807) :
    Calls Tryd.prog 65 #[.string s, .int .u8 48] w fun e w' => e = .returned (.string (strOfNums ((nums s).dropWhile (· == 48)))) ∧ w = w' := by
  go_enter Tryd.func65, Tryd.ntmps65
  go_wp2
  go_loop [0] (fun v => TrimRel s v) (fun v => strLen v)
  case atStart => exact ⟨s, Nat.le_refl _, rfl, rfl⟩
  case round =>
    obtain ⟨t, ht, hd, rfl⟩ := hrel
    have HD : Hid _ := hd
    clear hd
    by_cases h0 : 0 < t.size
    · have hc := nums_cons t h0
      have HC : Hid _ := hc
      clear hc
      by_cases h48 : (t[0].toNat : Int) = 48
      · have h48' : ((t[0].toNat : Int) == 48) = true := by simpa using h48
        have HE : Hid ((nums (t.extract 1 t.size)).dropWhile (· == 48) = (nums s).dropWhile (· == 48)) := by
          have := HD.out
          rw [HC.out, List.dropWhile_cons, h48', if_pos rfl] at this
          exact this
        clear h48
        go_wp2
        go_round
        case rel => exact ⟨t.extract 1 t.size, by rw [size_tail]; omega, HE.out, rfl⟩
        case measure => rw [strLen_str, strLen_str, size_tail]; omega
      · have h48' : ((t[0].toNat : Int) == 48) = false := by simpa using h48
        have HE : Hid (nums t = (nums s).dropWhile (· == 48)) := by
          have := HD.out
          rw [HC.out, List.dropWhile_cons, h48', if_neg (by simp), ← HC.out] at this
          exact this
        clear h48
        go_wp2
        go_ret
        exact ⟨by rw [← HE.out, str_nums]; rfl, rfl⟩
    · have HE : Hid (nums t = (nums s).dropWhile (· == 48)) := by
        have h1 : nums t = [] := List.length_eq_zero_iff.1 (by rw [nums_length]; omega)
        have := HD.out
        rw [h1] at this
        unfold Hid
        rw [h1, ← this]; rfl
      go_wp2
      go_ret
      exact ⟨by rw [← HE.out, str_nums]; rfl, rfl⟩
set_option maxRecDepth 100000 in
set_option maxHeartbeats 1000000 in
theorem trimLeft_any (s : ByteArray) (w : World) (hs : s.size ≤ 9223372036854775807) (h0 : s.toList.isEmpty = false) :
    Calls Tryd.prog 52 #[.string s, .string ⟨#[48]⟩] w fun e w' => e = .returned (.string (strOfNums ((nums s).dropWhile (· == 48)))) ∧ w = w' := by
  go_enter Tryd.func52, Tryd.ntmps52
  go_wp2_with (go_at_call 65; refine (trimByte_any s _ hs).mono ?_; rintro e w' ⟨rfl, hw⟩; subst hw)
  go_ret
  exact ⟨rfl, rfl⟩
end Go.Proofs.YteoepelmapjhcaaDoor
