/-
  wide.Show answers the decimal text of the number.
-/
import Derived.Test.YtjkbmpcchlfglaaWideD
namespace Go.Proofs.Ytjkbmpcchlfglaa
open Go.RowKit
set_option linter.unusedVariables false

theorem conv (W : World) (tb p n : Nat) (l : List Int) (h : l.length = n) (hr : Row W tb (cellsD p l)) : (convert 64 9 (.slice (some ⟨tb, p, none⟩) n n)).run Try.prog W = .ok (.string (strOfNums l)) W :=
  run_convert_bytes_arg W 64 5 Try.underlying64 Try.underlying5 tb p n n l h (fun i hi => hr.cell _ _ (cellsD_read p l i (by omega))) 9 Try.underlying9

theorem ret_string {a b : ByteArray} (h : a = b) : Ending.returned (.string a) = .returned (.string b) := by rw [h]
/-- What holds at the head of each round of Show's loop. -/
def ShowRel (w1 : World) (m : Nat) (x y f : Value) (wr : World) : Prop := ∃ p q : Nat, p ≤ 39 ∧ q = m / 10 ^ (39 - p) ∧ x = .int .u64 ((q : Int) / 18446744073709551616) ∧ y = .int .u64 ((q : Int) % 18446744073709551616) ∧ f = .int .i64 ((p : Int) + 1) ∧
  Row wr w1.heap.size (cellsD (p + 1) (digs (39 - p) m)) ∧ Below w1.heap.size w1 wr ∧ (39 - p ≤ 1 ∨ 10 ^ (39 - p - 1) ≤ m)
theorem showRel_next (w1 wr : World) (m p q n : Nat) (hp : p + 1 ≤ 39) (hq : q = m / 10 ^ (39 - (p + 1))) (hrow : Row wr w1.heap.size (cellsD (p + 1 + 1) (digs (39 - (p + 1)) m))) (hb : Below w1.heap.size w1 wr) (hgo : 39 - (p + 1) = 0 ∨ q ≠ 0) :
    ShowRel w1 m (.int .u64 ((q : Int) / 10 / 18446744073709551616)) (.int .u64 ((q : Int) / 10 % 18446744073709551616)) (.int .i64 ((p : Int) + 1)) ((wr.drewN n).setCell ⟨w1.heap.size, p + 1, none⟩ (.int .u8 (48 + (q : Int) % 10))) := by
  have e : 39 - p = 39 - (p + 1) + 1 := by omega
  refine ⟨p, q / 10, by omega, ?_, by simp, by simp, rfl, ?_, (below_drewN hb n).setCell (Nat.le_refl _) _, ?_⟩
  · rw [hq, Nat.div_div_eq_div_mul, e, Nat.pow_succ]
  · have h := (hrow.drewN n).set (p + 1) (.int .u8 (48 + (q : Int) % 10)) (by rw [cellsD_length, digs_length]; omega)
    rw [cellsD_set] at h
    rw [e, digs, ← hq]
    have e2 : ((48 : Int) + ((q % 10 : Nat) : Int)) = 48 + (q : Int) % 10 := by simp
    rw [e2]
    exact h
  · rcases hgo with h | h
    · exact Or.inl (by omega)
    · right
      have := le_of_div_ne hq h
      have e3 : 39 - p - 1 = 39 - (p + 1) := by omega
      rw [e3]; exact this
/-- What the text is when the loop is left. -/
theorem showRel_text {m p : Nat} {a : Int} (hm : a.natAbs = m) (hm' : m ≤ 170141183460469231731687303715884105728) (hp : p < 39) (hq : 0 = m / 10 ^ (39 - p)) (hl : 39 - p ≤ 1 ∨ 10 ^ (39 - p - 1) ≤ m) :
    showI a = (if a < 0 then [45] else []) ++ digs (39 - p) m := by
  unfold showI
  rw [hm, ndig_eq (by omega) (isLen_of (by omega) hq.symm hl)]

set_option maxHeartbeats 1000000 in
theorem show_any {ah al : Int} (a : Int) (ha : ah = hi a) (hl : al = lo a) (h0 : -170141183460469231731687303715884105728 ≤ a) (h1 : a < 170141183460469231731687303715884105728) (w : World) :
    Calls Try.prog 25 #[.agg #[.int .i64 ah, .int .u64 al]] w fun e w' =>
      e = .returned (.string (showS a)) ∧ Below w.heap.size w w' := by
  subst ha hl
  obtain ⟨m, hm⟩ : ∃ m, a.natAbs = m := ⟨_, rfl⟩
  have hm' : m ≤ 170141183460469231731687303715884105728 := by omega
  have Hm : Hid (a.natAbs = m) := hm
  go_enter Try.func25, Try.ntmps25
  go_wp2_with (go_at_call 35; refine (magnitude_any a m Hm.out rfl rfl h0 h1 _).mono ?_; rintro e w1 ⟨rfl, hb⟩; obtain ⟨hc, hf⟩ := bcell hb)
  have hz : w.heap.size < w1.heap.size := by have := hb.size; simp at this; omega
  have hbw : Below w.heap.size w w1 := ((Below.refl _ _).alloc (Nat.le_refl _) _).trans (hb.mono (by simp))
  go_loopw [3, 4, 6] (fun x y f wr => ShowRel w1 m x y f wr) (fun _ _ f _ => (intOf f).toNat)
  case atStart =>
    refine ⟨39, m, by omega, by simp, rfl, rfl, rfl, ?_, (Below.refl _ _).alloc (Nat.le_refl _) _, Or.inl (by omega)⟩
    exact Row.new _ _ _
  case round =>
    obtain ⟨p, q, hp, hq0, rfl, rfl, rfl, hrow, hbr, hlen0⟩ := hrel
    have hq : Hid _ := hq0
    have hlen : Hid _ := hlen0
    have hqm : q ≤ m := by rw [hq0]; exact Nat.div_le_self _ _
    clear hq0 hlen0
    by_cases c3 : p < 39 ∧ q = 0
    · obtain ⟨c1, rfl⟩ := c3
      have hbx : wr.cell? ⟨w.heap.size, 0, none⟩ = some (.int .i64 (hi a)) := by rw [hbr.cell (p := ⟨w.heap.size, 0, none⟩) hz, hc _ _ (by simp)]; simp
      have T : Hid _ := showRel_text Hm.out hm' c1 hq.out hlen.out
      by_cases hneg : a < 0
      · have g := hi_neg a h0 hneg
        have hfr : wr.frozen? ⟨w1.heap.size, p, none⟩ = false := hrow.free _ (by rw [cellsD_length]; omega)
        have hce : wr.cell? ⟨w1.heap.size, p, none⟩ = some (.int .u8 0) := hrow.cell _ _ (cellsD_at _ _)
        have hsl := slice40 w1.heap.size p (40 - p) (p : Int) rfl (by omega) (by omega)
        have hrw := hrow.set p (.int .u8 45) (by rw [cellsD_length]; omega)
        rw [cellsD_set] at hrw
        have hcv := conv _ w1.heap.size p (40 - p) _ (by simp [digs_length]; omega) hrw
        have c2 : ((p : Int) + 1 == 40) = false := by simp; omega
        go_wp2
        go_ret
        exact ⟨ret_string (by rw [showS, T.out, if_pos hneg]; rfl), (hbw.trans (hbr.mono (by omega))).setCell (by exact Nat.le_of_lt hz) _⟩
      · have g := hi_pos a (by omega) h1
        have hsl := slice40 w1.heap.size (p + 1) (39 - p) ((p : Int) + 1) (by simp) (by omega) (by omega)
        have hcv := conv _ w1.heap.size (p + 1) (39 - p) _ (by simp [digs_length]) hrow
        have c2 : ((p : Int) + 1 == 40) = false := by simp; omega
        go_wp2
        go_ret
        exact ⟨ret_string (by rw [showS, T.out, if_neg (by omega)]; rfl), hbw.trans (hbr.mono (by omega))⟩
    · have hp1 : 1 ≤ p := by
        rcases Nat.lt_or_ge 0 p with h | h
        · exact h
        · exfalso
          have e : p = 0 := by omega
          subst e
          have := hq.out
          rw [pow39 m _ hm' (by omega)] at this
          omega
      obtain ⟨p, rfl⟩ : ∃ p', p = p' + 1 := ⟨p - 1, by omega⟩
      have hfr : wr.frozen? ⟨w1.heap.size, p + 1, none⟩ = false := hrow.free _ (by rw [cellsD_length]; omega)
      have hce : wr.cell? ⟨w1.heap.size, p + 1, none⟩ = some (.int .u8 0) := hrow.cell _ _ (cellsD_at _ _)
      by_cases c1 : p + 1 = 39
      · have hn := fun n => showRel_next w1 wr m p q n hp hq.out hrow hbr (by omega)
        obtain rfl : p = 38 := by omega
        go_wp2_with (go_at_call 36; refine (divTen_num q (by first | rfl | (simp at c5; omega)) rfl (by omega) _).mono ?_; rintro e w' ⟨rfl, n, rfl⟩)
        go_roundw
        case rel => exact hn _
        case measure => simp [intOf]
      · have c2 : ((p : Int) + 1 + 1 == 40) = false := by simp; omega
        have hn := fun n => showRel_next w1 wr m p q n hp hq.out hrow hbr (by omega)
        by_cases c5 : ((q : Int) / 18446744073709551616 == 0) = true
        · have c6 : ((q : Int) % 18446744073709551616 == 0) = false := by simp at c5 ⊢; omega
          go_wp2_with (go_at_call 36; refine (divTen_num q (by first | rfl | (simp at c5; omega)) rfl (by omega) _).mono ?_; rintro e w' ⟨rfl, n, rfl⟩)
          all_goals
            go_roundw
            case rel => exact hn _
            case measure => simp [intOf]; omega
        · have c6 : ((q : Int) / 18446744073709551616 == 0) = false := by simpa using c5
          go_wp2_with (go_at_call 36; refine (divTen_num q (by first | rfl | (simp at c5; omega)) rfl (by omega) _).mono ?_; rintro e w' ⟨rfl, n, rfl⟩)
          all_goals
            go_roundw
            case rel => exact hn _
            case measure => simp [intOf]; omega
end Go.Proofs.Ytjkbmpcchlfglaa
