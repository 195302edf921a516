/-
  Joined texts, part 6:
  What zelligeref04's Show answers; and what both packages read of a text.
-/
import Derived.Test.YtpkcjgkgabemoaaDoorP5
import Derived.OpenShut
import Derived.ShutString
namespace Go.Proofs.YtpkcjgkgabemoaaDoor
open Go.RowKit
set_option linter.unusedVariables false

theorem hShow (a : Option Addr) (la ca u : Nat) (w : World) (ha : HD w a la ca u) (fu : hf.nlen u ≤ 1000000) {s : ByteArray} (hs : s = decS u) : Calls Tryd.prog 66 #[.slice a la ca] w fun e w' => e = .returned (.string s) ∧ Below w.heap.size w w' := by
  obtain ⟨ha, rfl⟩ := ha
  subst hs
  exact rshow_any a ca u w ha (by omega)
set_option maxRecDepth 100000 in
set_option maxHeartbeats 1000000 in
theorem rwShow (s : Int) (d : Option Addr) (l c : Nat) (z : Int) (w : World) (hd : RN w s d l c z) (fz : hf.nlen z.natAbs ≤ 1000000) {t : ByteArray} (ht : t = decZ z) :
    Calls Tryd.prog 36 #[.agg #[.int .i64 s, .slice d l c]] w fun e w' => e = .returned (.string t) ∧ Below w.heap.size w w' := by
  have B0 : Below w.heap.size w (w.alloc (.cells #[.int .i64 s, .slice d l c] 30)) := (Below.refl _ _).alloc (Nat.le_refl _) _
  have h0 := hd.hd.below B0
  obtain ⟨r, hr⟩ : ∃ r, r = decS z.natAbs := ⟨_, rfl⟩
  have HR : Hid _ := hr
  have hsz : ¬ 9223372036854775807 < 1 + r.size := by
    rw [hr, decS_size]
    have := dlen_few (hf.nlen_lt z.natAbs)
    omega
  by_cases hz : z < 0
  · obtain rfl : t = ⟨#[45]⟩ ++ r := by rw [ht]; unfold decZ; rw [if_pos hz, hr]
    obtain rfl : s = -1 := by rw [hd.sg]; exact sign_neg hz
    clear ht hr
    go_enter Tryd.func36, Tryd.ntmps36
    go_wp2_with (go_at_call 66; fail)
    refine (hShow d l c _ _ h0 fz HR.out).mono ?_
    rintro e w1 ⟨rfl, b1⟩
    go_wp2
    go_ret
    exact ⟨rfl, also B0 b1⟩
  · obtain rfl : t = r := by rw [ht]; unfold decZ; rw [if_neg hz, hr]
    have hs : ¬ s < 0 := by rw [hd.sg]; rcases sign_cases z with ⟨h, e⟩ | ⟨h, e⟩ | ⟨h, e⟩ <;> omega
    clear ht hr
    go_enter Tryd.func36, Tryd.ntmps36
    go_wp2_with (go_at_call 66; fail)
    refine (hShow d l c _ _ h0 fz HR.out).mono ?_
    rintro e w1 ⟨rfl, b1⟩
    go_wp2
    go_ret
    exact ⟨rfl, also B0 b1⟩

def GotHP (w : World) (N : Nat) (E : Int) (e : Ending) (w' : World) : Prop := ∃ a l c, e = .returned (.tuple #[.slice a l c, .int .i64 E]) ∧ HD w' a l c N ∧ Below w.heap.size w w'
theorem sl_none (w : World) (a : Option Addr) : Sl w a 0 0 [] := ⟨rfl, Nat.le_refl _, Nat.zero_le _, fun _ => ⟨rfl, rfl⟩, Or.inl rfl⟩
/-- Every text has a number and an error, which both functions answer. -/
theorem parse_two (u : ByteArray) (hs : u.size ≤ 2100) : ∃ (N : Nat) (E : Int), hf.nlen N ≤ 2000 ∧ (∀ w, Calls Tryd.prog 65 #[.string u] w (GotP w N E)) ∧ (∀ w, Calls Tryd.prog 37 #[.string u] w (GotHP w N E)) := by
  rcases hsh : showsB (nums u) with _ | _
  · refine ⟨0, 4, by rw [hf.nlen_zero]; omega, fun w => ?_, fun w => ?_⟩
    · refine (parse_form u w (by omega) hsh).mono ?_
      rintro e w' ⟨rfl, hw⟩
      exact ⟨none, 0, 0, rfl, nd_nil _, far_nil _ _, hw ▸ Below.refl _ _⟩
    · refine (rparse_form u w (by omega) hsh).mono ?_
      rintro e w' ⟨a, rfl, hb⟩
      exact ⟨a, 0, 0, rfl, ⟨sl_none _ _, hf.nlen_zero.symm⟩, hb⟩
  · rcases Nat.lt_or_ge 2000 u.size with hl | hl
    · refine ⟨0, 5, by rw [hf.nlen_zero]; omega, fun w => ?_, fun w => ?_⟩
      · refine (parse_long u w (by omega) hsh hl).mono ?_
        rintro e w' ⟨rfl, hw⟩
        exact ⟨none, 0, 0, rfl, nd_nil _, far_nil _ _, hw ▸ Below.refl _ _⟩
      · refine (rparse_long u w (by omega) hsh hl).mono ?_
        rintro e w' ⟨a, rfl, hb⟩
        exact ⟨a, 0, 0, rfl, ⟨sl_none _ _, hf.nlen_zero.symm⟩, hb⟩
    · refine ⟨rdN (nums u), 0, ?_, fun w => ?_, fun w => ?_⟩
      · have h1 : rdN (nums u) < 10 ^ u.size := by
          refine rdN_lt u.size _ (nums_length u) fun c hc => ?_
          unfold showsB at hsh
          exact (of_decide_eq_true hsh).2.2 c hc
        exact Nat.le_trans (hf.nlen_le (Nat.lt_of_lt_of_le h1 (Nat.pow_le_pow_left (by decide) _))) hl
      · refine (parse_num u w hsh hl).mono ?_
        rintro e w' ⟨a, cap, rfl, ho, hb⟩
        exact ⟨a, _, cap, rfl, ⟨Own.sl ho, rfl⟩, Own.far ho, hb⟩
      · refine (rparse_num u w hsh hl).mono ?_
        rintro e w' ⟨a, cap, rfl, ho, hb⟩
        exact ⟨a, _, cap, rfl, ⟨Own.sl ho, rfl⟩, hb⟩
theorem behind_size (s : ByteArray) : (behind s).size ≤ s.size := by
  unfold behind
  split
  · simp
  · exact Nat.le_refl _
end Go.Proofs.YtpkcjgkgabemoaaDoor
