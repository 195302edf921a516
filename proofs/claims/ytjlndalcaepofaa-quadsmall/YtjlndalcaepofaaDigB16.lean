/-
  What the document's own sum and negation of digits answer.
-/
import Derived.Test.YtjlndalcaepofaaRefA
import Derived.Test.YtjlndalcaepofaaMem
import Derived.Test.YtjlndalcaepofaaRows
import Derived.WalkKit
import Derived.WalkSpells
import Derived.Deep.QuietTactic
import Derived.BigQuiet
import Derived.RegionTactic
import Derived.ChangeAlike
namespace Go.Proofs.Ytjlndalcaepofaa.d16
open Go.Proofs.Ytjlndalcaepofaa
open Go.RowKit
set_option linter.unusedVariables false

theorem makeD (w : World) : (Instr.makeSlice 25 (.int .i64 16) (.int .i64 16)).run Try.prog w = .ok (.slice (some ⟨w.heap.size, 0, none⟩) 16 16) (w.alloc (.cells #[.int .i64 0, .int .i64 0, .int .i64 0, .int .i64 0, .int .i64 0, .int .i64 0, .int .i64 0, .int .i64 0, .int .i64 0, .int .i64 0, .int .i64 0, .int .i64 0, .int .i64 0, .int .i64 0, .int .i64 0, .int .i64 0] 3)) := by kernel_rfl
theorem zeroD : dcells 16 0 = [.int .i64 0, .int .i64 0, .int .i64 0, .int .i64 0, .int .i64 0, .int .i64 0, .int .i64 0, .int .i64 0, .int .i64 0, .int .i64 0, .int .i64 0, .int .i64 0, .int .i64 0, .int .i64 0, .int .i64 0, .int .i64 0] := by simp [dcells, dg, List.range, List.range.loop]
/-- A number's digits, in a block of the call's own. -/
structure Made (w w' : World) (b : Nat) (v : Int) : Prop where
  row : Row w' b (dcells 16 v)
  old : w.heap.size ≤ b
  size : b < w'.heap.size
  below : Below w.heap.size w w'

/-- What holds at the head of each round of the sum's loop. -/
def AddRel (w : World) (x y : Int) (c i : Value) (wr : World) : Prop := ∃ k : Nat, k ≤ 16 ∧ i = .int .i64 (k : Int) ∧ c = .int .i64 (carry x y k) ∧ Row wr w.heap.size (mix 16 k (x + y) 0) ∧ Below w.heap.size w wr ∧ w.heap.size < wr.heap.size
theorem addRel_next (w wr : World) (x y : Int) (k n : Nat) (hk : k < 16) (hrow : Row wr w.heap.size (mix 16 k (x + y) 0)) (hb : Below w.heap.size w wr) (hs : w.heap.size < wr.heap.size) :
    AddRel w x y (.int .i64 ((carry x y k + dg x k + dg y k) / 256)) (.int .i64 ((k : Int) + 1)) ((wr.drewN n).setCell ⟨w.heap.size, k, none⟩ (.int .i64 ((carry x y k + dg x k + dg y k) % 256))) := by
  refine ⟨k + 1, by omega, by simp, by rw [carry_succ], ?_, (below_drewN hb n).setCell (Nat.le_refl _) _, ?_⟩
  · rw [add_digit, ← mix_set]
    exact (hrow.drewN n).set k _ (by rw [mix_length]; exact hk)
  · simpa using hs

set_option maxHeartbeats 400000 in
theorem radd_any (x y : Int) (ba bb : Nat) {ca cb : Nat} (w : World) (ra : Row w ba (dcells 16 x)) (rb : Row w bb (dcells 16 y)) (ha : ba < w.heap.size) (hb : bb < w.heap.size) :
    Calls Try.prog 12 #[.slice (some ⟨ba, 0, none⟩) 16 ca, .slice (some ⟨bb, 0, none⟩) 16 cb] w fun e w' => ∃ b, e = .returned (.slice (some ⟨b, 0, none⟩) 16 16) ∧ Made w w' b (x + y) := by
  have hmk := makeD
  go_enter Try.func12, Try.ntmps12
  go_wp2
  clear hmk
  go_loopw [6, 7] (fun c i wr => AddRel w x y c i wr) (fun _ i _ => 16 - (intOf i).toNat)
  case atStart =>
    refine ⟨0, by omega, rfl, by rw [carry_zero], ?_, (Below.refl _ _).alloc (Nat.le_refl _) _, by simp⟩
    rw [mix_zero, zeroD]
    exact Row.new _ _ _
  case round =>
    obtain ⟨k, hk, rfl, rfl, hrow, hbr, hsz⟩ := hrel
    by_cases hlt : k < 16
    · have c1 : wr.cell? ⟨ba, k, none⟩ = some (.int .i64 (dg x k)) := (hbr.cell (p := ⟨ba, k, none⟩) ha).trans (ra.cell k _ (dcells_at _ _ _ hlt))
      have c2 : wr.cell? ⟨bb, k, none⟩ = some (.int .i64 (dg y k)) := (hbr.cell (p := ⟨bb, k, none⟩) hb).trans (rb.cell k _ (dcells_at _ _ _ hlt))
      have c3 : wr.cell? ⟨w.heap.size, k, none⟩ = some (.int .i64 (dg 0 k)) := hrow.cell k _ (mix_at _ _ _ _ _ hlt (Nat.le_refl _))
      have c4 : wr.frozen? ⟨w.heap.size, k, none⟩ = false := hrow.free k (by rw [mix_length]; exact hlt)
      have hl : (k : Int) < 16 := by omega
      obtain ⟨d0, d1⟩ := dg_range x k
      obtain ⟨e0, e1⟩ := dg_range y k
      obtain ⟨f0, f1⟩ := carry_range x y k
      have hn := fun n => addRel_next w wr x y k n hlt hrow hbr hsz
      go_wp2
      go_quiet (fail)
      go_wp2
      go_roundw
      case rel => exact hn _
      case measure => simp [intOf]; omega
    · obtain rfl : k = 16 := by omega
      rw [mix_full] at hrow
      go_wp2
      go_ret
      exact ⟨_, rfl, hrow, Nat.le_refl _, hsz, hbr⟩

/-- What holds at the head of each round of the negation's loop. -/
def NegRel (w : World) (x : Int) (bo bn : Nat) (i : Value) (wr : World) : Prop := ∃ k : Nat, k ≤ 16 ∧ i = .int .i64 (k : Int) ∧ bo ≠ bn ∧ w.heap.size ≤ bo ∧ w.heap.size ≤ bn ∧ bo < wr.heap.size ∧ bn < wr.heap.size ∧
  Row wr bo (mix 16 k (-1 - x) 0) ∧ Row wr bn (dcells 16 0) ∧ Below w.heap.size w wr
theorem negRel_next (w wr : World) (x : Int) (bo bn k n : Nat) (hk : k < 16) (hne : bo ≠ bn) (h1 : w.heap.size ≤ bo) (h2 : w.heap.size ≤ bn) (h3 : bo < wr.heap.size) (h4 : bn < wr.heap.size) (hrow : Row wr bo (mix 16 k (-1 - x) 0)) (hone : Row wr bn (dcells 16 0)) (hb : Below w.heap.size w wr) :
    NegRel w x bo bn (.int .i64 ((k : Int) + 1)) (wr.setCell ⟨bo, k, none⟩ (.int .i64 (255 - dg x k))) := by
  refine ⟨k + 1, by omega, by simp, hne, h1, h2, by simpa using h3, by simpa using h4, ?_, hone.other _ hne, hb.setCell h1 _⟩
  rw [neg_digit, ← mix_set]
  exact hrow.set k _ (by rw [mix_length]; exact hk)
theorem oneD : (dcells 16 0).set 0 (.int .i64 1) = dcells 16 1 := by rw [zeroD]; simp [dcells, dg, List.range, List.range.loop]

theorem negStart (w : World) (x : Int) (t : TypeId) : NegRel w x w.heap.size (w.heap.size + 1) (.int .i64 0)
    (((w.alloc (.cells #[.int .i64 0, .int .i64 0, .int .i64 0, .int .i64 0, .int .i64 0, .int .i64 0, .int .i64 0, .int .i64 0, .int .i64 0, .int .i64 0, .int .i64 0, .int .i64 0, .int .i64 0, .int .i64 0, .int .i64 0, .int .i64 0] t)).alloc (.cells #[.int .i64 0, .int .i64 0, .int .i64 0, .int .i64 0, .int .i64 0, .int .i64 0, .int .i64 0, .int .i64 0, .int .i64 0, .int .i64 0, .int .i64 0, .int .i64 0, .int .i64 0, .int .i64 0, .int .i64 0, .int .i64 0] t)).drew) := by
  have h2 := Row.new (w.alloc (.cells (dcells 16 0).toArray t)) (dcells 16 0) t
  rw [World.size_alloc] at h2
  have h1 := (Row.new w (dcells 16 0) t).alloc (.cells (dcells 16 0).toArray t) (by rw [World.size_alloc]; omega)
  rw [zeroD] at h1 h2
  refine ⟨0, by omega, rfl, by omega, by omega, by omega, by simp; omega, by simp, ?_, ?_, (((Below.refl _ _).alloc (Nat.le_refl _) _).alloc (by simp) _).drew⟩
  · rw [mix_zero, zeroD]; exact h1.drew
  · rw [zeroD]; exact h2.drew
theorem negStart' (w : World) (x : Int) (t : TypeId) : NegRel w x (w.heap.size + 1) w.heap.size (.int .i64 0)
    (((w.alloc (.cells #[.int .i64 0, .int .i64 0, .int .i64 0, .int .i64 0, .int .i64 0, .int .i64 0, .int .i64 0, .int .i64 0, .int .i64 0, .int .i64 0, .int .i64 0, .int .i64 0, .int .i64 0, .int .i64 0, .int .i64 0, .int .i64 0] t)).alloc (.cells #[.int .i64 0, .int .i64 0, .int .i64 0, .int .i64 0, .int .i64 0, .int .i64 0, .int .i64 0, .int .i64 0, .int .i64 0, .int .i64 0, .int .i64 0, .int .i64 0, .int .i64 0, .int .i64 0, .int .i64 0, .int .i64 0] t)).drew) := by
  obtain ⟨k, hk, e3, h1, h2, h3, h4, h5, r1, r2, hb⟩ := negStart w x t
  simp only [Value.int.injEq, true_and] at e3
  obtain rfl : k = 0 := by omega
  rw [mix_zero] at r1
  exact ⟨0, hk, rfl, Ne.symm h1, h3, h2, h5, h4, by rw [mix_zero]; exact r2, r1, hb⟩

theorem neg_last (x : Int) (bo bn : Nat) (w wr : World) (hne : bo ≠ bn) (h2 : w.heap.size ≤ bn) (h3 : bo < wr.heap.size) (h4 : bn < wr.heap.size) (hrow : Row wr bo (dcells 16 (-1 - x))) (hone : Row wr bn (dcells 16 0)) (hbr : Below w.heap.size w wr) :
    Calls Try.prog 12 #[.slice (some ⟨bo, 0, none⟩) 16 16, .slice (some ⟨bn, 0, none⟩) 16 16] (wr.setCell ⟨bn, 0, none⟩ (.int .i64 1)) fun e w' => ∃ b, e = .returned (.slice (some ⟨b, 0, none⟩) 16 16) ∧ Made w w' b (-x) := by
  have hone' := hone.set 0 (.int .i64 1) (by rw [dcells_length]; decide)
  rw [oneD] at hone'
  have hrow' := hrow.other (i := 0) (.int .i64 1) (Ne.symm hne)
  have hE : -1 - x + 1 = -x := by omega
  have H := radd_any (ca := 16) (cb := 16) (-1 - x) 1 bo bn _ hrow' hone' (by simpa using h3) (by simpa using h4)
  rw [hE] at H
  refine H.mono ?_
  rintro e w' ⟨b, rfl, hm⟩
  have hbw := hbr.setCell (p := ⟨bn, 0, none⟩) h2 (.int .i64 1)
  exact ⟨b, rfl, hm.row, Nat.le_trans hbw.size hm.old, hm.size, hbw.trans (hm.below.mono hbw.size)⟩

set_option maxHeartbeats 1000000 in
theorem rneg_any (x : Int) (ba : Nat) {cap : Nat} (w : World) (ra : Row w ba (dcells 16 x)) (ha : ba < w.heap.size) :
    Calls Try.prog 14 #[.slice (some ⟨ba, 0, none⟩) 16 cap] w fun e w' => ∃ b, e = .returned (.slice (some ⟨b, 0, none⟩) 16 16) ∧ Made w w' b (-x) := by
  have hmk := makeD
  go_enter Try.func14, Try.ntmps14
  go_wp2
  go_region
  · go_wp2
    clear hmk
    go_loopw [5] (fun i wr => NegRel w x w.heap.size (w.heap.size + 1) i wr) (fun i _ => 16 - (intOf i).toNat)
    case atStart => exact negStart w x 3
    case round =>
      obtain ⟨k, hk, rfl, hne, h1, h2, h3, h4, hrow, hone, hbr⟩ := hrel
      by_cases hlt : k < 16
      · have c1 : wr.cell? ⟨ba, k, none⟩ = some (.int .i64 (dg x k)) := (hbr.cell (p := ⟨ba, k, none⟩) ha).trans (ra.cell k _ (dcells_at _ _ _ hlt))
        have c3 : wr.cell? ⟨w.heap.size, k, none⟩ = some (.int .i64 (dg 0 k)) := hrow.cell k _ (mix_at _ _ _ _ _ hlt (Nat.le_refl _))
        have c4 : wr.frozen? ⟨w.heap.size, k, none⟩ = false := hrow.free k (by rw [mix_length]; exact hlt)
        have hl : (k : Int) < 16 := by omega
        obtain ⟨d0, d1⟩ := dg_range x k
        have hn := negRel_next w wr x w.heap.size (w.heap.size + 1) k 0 hlt hne h1 h2 h3 h4 hrow hone hbr
        go_wp2
        go_roundw
        case rel => exact hn
        case measure => simp [intOf]; omega
      · obtain rfl : k = 16 := by omega
        rw [mix_full] at hrow
        have c3 : wr.cell? ⟨(w.heap.size + 1), 0, none⟩ = some (.int .i64 (dg 0 0)) := hone.cell 0 _ (dcells_at _ _ _ (by decide))
        have c4 : wr.frozen? ⟨(w.heap.size + 1), 0, none⟩ = false := hone.free 0 (by rw [dcells_length]; decide)
        go_wp2_with (go_at_call 12; refine (neg_last x w.heap.size (w.heap.size + 1) w wr hne h2 h3 h4 hrow hone hbr).mono ?_; rintro e w' ⟨b, rfl, hm⟩)
        go_ret
        exact ⟨b, rfl, hm⟩
  · go_wp2
    clear hmk
    go_loopw [5] (fun i wr => NegRel w x (w.heap.size + 1) w.heap.size i wr) (fun i _ => 16 - (intOf i).toNat)
    case atStart => exact negStart' w x 3
    case round =>
      obtain ⟨k, hk, rfl, hne, h1, h2, h3, h4, hrow, hone, hbr⟩ := hrel
      by_cases hlt : k < 16
      · have c1 : wr.cell? ⟨ba, k, none⟩ = some (.int .i64 (dg x k)) := (hbr.cell (p := ⟨ba, k, none⟩) ha).trans (ra.cell k _ (dcells_at _ _ _ hlt))
        have c3 : wr.cell? ⟨(w.heap.size + 1), k, none⟩ = some (.int .i64 (dg 0 k)) := hrow.cell k _ (mix_at _ _ _ _ _ hlt (Nat.le_refl _))
        have c4 : wr.frozen? ⟨(w.heap.size + 1), k, none⟩ = false := hrow.free k (by rw [mix_length]; exact hlt)
        have hl : (k : Int) < 16 := by omega
        obtain ⟨d0, d1⟩ := dg_range x k
        have hn := negRel_next w wr x (w.heap.size + 1) w.heap.size k 0 hlt hne h1 h2 h3 h4 hrow hone hbr
        go_wp2
        go_roundw
        case rel => exact hn
        case measure => simp [intOf]; omega
      · obtain rfl : k = 16 := by omega
        rw [mix_full] at hrow
        have c3 : wr.cell? ⟨w.heap.size, 0, none⟩ = some (.int .i64 (dg 0 0)) := hone.cell 0 _ (dcells_at _ _ _ (by decide))
        have c4 : wr.frozen? ⟨w.heap.size, 0, none⟩ = false := hone.free 0 (by rw [dcells_length]; decide)
        go_wp2_with (go_at_call 12; refine (neg_last x (w.heap.size + 1) w.heap.size w wr hne h2 h3 h4 hrow hone hbr).mono ?_; rintro e w' ⟨b, rfl, hm⟩)
        go_ret
        exact ⟨b, rfl, hm⟩
end Go.Proofs.Ytjlndalcaepofaa.d16
