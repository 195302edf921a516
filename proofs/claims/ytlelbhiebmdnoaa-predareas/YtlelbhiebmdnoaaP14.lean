
/-
  Joined texts, part 14:
  What the document's own sum and negation of digits answer.
  What the document's own sum and negation of digits answer.
  A number's 32 digits out of its four words.
  A number's 16 digits out of its two words.
  What the document's own sign and order of digits answer.
  A number of 128 bits as 32 digits: its 16, and its sign's behind them.
  A number's four words out of its 32 digits.
  The laws' own look and cut of layer 4.
  What the document's own sign and order of digits answer.
  What the reference's Quad answers (layer 4).
  The law's wide: a number of 128 bits as a whole number.
-/
import Derived.Test.YtlelbhiebmdnoaaP13
import Derived.Test.YtlelbhiebmdnoaaP5
import Derived.Test.YtlelbhiebmdnoaaP1
import Derived.Test.YtlelbhiebmdnoaaRows
import Derived.WalkKit
import Derived.WalkSpells
import Derived.Deep.QuietTactic
import Derived.BigQuiet
import Derived.RegionTactic
import Derived.ChangeAlike
import Derived.Deep.RegionWith
import Derived.Deep.AppendLies
import Derived.ArgAppend
import Derived.OwnWalk
import Derived.Test.YtlelbhiebmdnoaaP3
import Derived.Test.YtlelbhiebmdnoaaP7
import Derived.Test.YtlelbhiebmdnoaaP8
namespace Go.Proofs.Ytlelbhiebmdnoaa.lq.d16
open Go.Proofs.Ytlelbhiebmdnoaa.lq
open Go.RowKit
set_option linter.unusedVariables false

theorem makeD (w : World) : (Instr.makeSlice 24 (.int .i64 16) (.int .i64 16)).run Try.prog w = .ok (.slice (some ⟨w.heap.size, 0, none⟩) 16 16) (w.alloc (.cells #[.int .i64 0, .int .i64 0, .int .i64 0, .int .i64 0, .int .i64 0, .int .i64 0, .int .i64 0, .int .i64 0, .int .i64 0, .int .i64 0, .int .i64 0, .int .i64 0, .int .i64 0, .int .i64 0, .int .i64 0, .int .i64 0] 3)) := by kernel_rfl
theorem zeroD : dcells 16 0 = [.int .i64 0, .int .i64 0, .int .i64 0, .int .i64 0, .int .i64 0, .int .i64 0, .int .i64 0, .int .i64 0, .int .i64 0, .int .i64 0, .int .i64 0, .int .i64 0, .int .i64 0, .int .i64 0, .int .i64 0, .int .i64 0] := by simp [dcells, dg, List.range, List.range.loop]
/-- A number's digits, in a block of the call's own. -/
structure Made (w w' : World) (b : Nat) (v : Int) : Prop where
  row : Row w' b (dcells 16 v)
  old : w.heap.size ≤ b
  size : b < w'.heap.size
  below : Below w.heap.size w w'

/-- What holds at the head of each round of the sum's loop. -/
def AddRel (w : World) (x y : Int) (c i : Value) (wr : World) : Prop := ∃ k : Nat, k ≤ 16 ∧ i = .int .i64 (k : Int) ∧ c = .int .i64 (carry x y k) ∧ Row wr w.heap.size (mix 16 k (x + y) 0) ∧ Below w.heap.size w wr ∧ w.heap.size < wr.heap.size
theorem addRel_next (w wr : World) (x y : Int) (k n : Nat) (hk : k < 16) (hrow : Row wr w.heap.size (mix 16 k (x + y) 0)) (hb : Below w.heap.size w wr) (hs : w.heap.size < wr.heap.size) :
    AddRel w x y (.int .i64 ((carry x y k + dg x k + dg y k) / 256)) (.int .i64 ((k : Int) + 1)) ((wr.drewN n).setCell ⟨w.heap.size, k, none⟩ (.int .i64 ((carry x y k + dg x k + dg y k) % 256))) := by
  refine ⟨k + 1, by omega, by simp, by rw [carry_succ], ?_, (below_drewN hb n).setCell (Nat.le_refl _) _, ?_⟩
  · rw [add_digit, ← mix_set]
    exact (hrow.drewN n).set k _ (by rw [mix_length]; exact hk)
  · simpa using hs

set_option maxHeartbeats 400000 in
theorem radd_any (x y : Int) (ba bb : Nat) {ca cb : Nat} (w : World) (ra : Row w ba (dcells 16 x)) (rb : Row w bb (dcells 16 y)) (ha : ba < w.heap.size) (hb : bb < w.heap.size) :
    Calls Try.prog 65 #[.slice (some ⟨ba, 0, none⟩) 16 ca, .slice (some ⟨bb, 0, none⟩) 16 cb] w fun e w' => ∃ b, e = .returned (.slice (some ⟨b, 0, none⟩) 16 16) ∧ Made w w' b (x + y) := by
  have hmk := makeD
  go_enter Try.func65, Try.ntmps65
  go_wp2
  clear hmk
  go_loopw [6, 7] (fun c i wr => AddRel w x y c i wr) (fun _ i _ => 16 - (intOf i).toNat)
  case atStart =>
    refine ⟨0, by omega, rfl, by rw [carry_zero], ?_, (Below.refl _ _).alloc (Nat.le_refl _) _, by simp⟩
    rw [mix_zero, zeroD]
    exact Row.new _ _ _
  case round =>
    obtain ⟨k, hk, rfl, rfl, hrow, hbr, hsz⟩ := hrel
    by_cases hlt : k < 16
    · have c1 : wr.cell? ⟨ba, k, none⟩ = some (.int .i64 (dg x k)) := (hbr.cell (p := ⟨ba, k, none⟩) ha).trans (ra.cell k _ (dcells_at _ _ _ hlt))
      have c2 : wr.cell? ⟨bb, k, none⟩ = some (.int .i64 (dg y k)) := (hbr.cell (p := ⟨bb, k, none⟩) hb).trans (rb.cell k _ (dcells_at _ _ _ hlt))
      have c3 : wr.cell? ⟨w.heap.size, k, none⟩ = some (.int .i64 (dg 0 k)) := hrow.cell k _ (mix_at _ _ _ _ _ hlt (Nat.le_refl _))
      have c4 : wr.frozen? ⟨w.heap.size, k, none⟩ = false := hrow.free k (by rw [mix_length]; exact hlt)
      have hl : (k : Int) < 16 := by omega
      obtain ⟨d0, d1⟩ := dg_range x k
      obtain ⟨e0, e1⟩ := dg_range y k
      obtain ⟨f0, f1⟩ := carry_range x y k
      have hn := fun n => addRel_next w wr x y k n hlt hrow hbr hsz
      go_wp2
      go_quiet (fail)
      go_wp2
      go_roundw
      case rel => exact hn _
      case measure => simp [intOf]; omega
    · obtain rfl : k = 16 := by omega
      rw [mix_full] at hrow
      go_wp2
      go_ret
      exact ⟨_, rfl, hrow, Nat.le_refl _, hsz, hbr⟩

/-- What holds at the head of each round of the negation's loop. -/
def NegRel (w : World) (x : Int) (bo bn : Nat) (i : Value) (wr : World) : Prop := ∃ k : Nat, k ≤ 16 ∧ i = .int .i64 (k : Int) ∧ bo ≠ bn ∧ w.heap.size ≤ bo ∧ w.heap.size ≤ bn ∧ bo < wr.heap.size ∧ bn < wr.heap.size ∧
  Row wr bo (mix 16 k (-1 - x) 0) ∧ Row wr bn (dcells 16 0) ∧ Below w.heap.size w wr
theorem negRel_next (w wr : World) (x : Int) (bo bn k n : Nat) (hk : k < 16) (hne : bo ≠ bn) (h1 : w.heap.size ≤ bo) (h2 : w.heap.size ≤ bn) (h3 : bo < wr.heap.size) (h4 : bn < wr.heap.size) (hrow : Row wr bo (mix 16 k (-1 - x) 0)) (hone : Row wr bn (dcells 16 0)) (hb : Below w.heap.size w wr) :
    NegRel w x bo bn (.int .i64 ((k : Int) + 1)) (wr.setCell ⟨bo, k, none⟩ (.int .i64 (255 - dg x k))) := by
  refine ⟨k + 1, by omega, by simp, hne, h1, h2, by simpa using h3, by simpa using h4, ?_, hone.other _ hne, hb.setCell h1 _⟩
  rw [neg_digit, ← mix_set]
  exact hrow.set k _ (by rw [mix_length]; exact hk)
theorem oneD : (dcells 16 0).set 0 (.int .i64 1) = dcells 16 1 := by rw [zeroD]; simp [dcells, dg, List.range, List.range.loop]

theorem negStart (w : World) (x : Int) (t : TypeId) : NegRel w x w.heap.size (w.heap.size + 1) (.int .i64 0)
    (((w.alloc (.cells #[.int .i64 0, .int .i64 0, .int .i64 0, .int .i64 0, .int .i64 0, .int .i64 0, .int .i64 0, .int .i64 0, .int .i64 0, .int .i64 0, .int .i64 0, .int .i64 0, .int .i64 0, .int .i64 0, .int .i64 0, .int .i64 0] t)).alloc (.cells #[.int .i64 0, .int .i64 0, .int .i64 0, .int .i64 0, .int .i64 0, .int .i64 0, .int .i64 0, .int .i64 0, .int .i64 0, .int .i64 0, .int .i64 0, .int .i64 0, .int .i64 0, .int .i64 0, .int .i64 0, .int .i64 0] t)).drew) := by
  have h2 := Row.new (w.alloc (.cells (dcells 16 0).toArray t)) (dcells 16 0) t
  rw [World.size_alloc] at h2
  have h1 := (Row.new w (dcells 16 0) t).alloc (.cells (dcells 16 0).toArray t) (by rw [World.size_alloc]; omega)
  rw [zeroD] at h1 h2
  refine ⟨0, by omega, rfl, by omega, by omega, by omega, by simp; omega, by simp, ?_, ?_, (((Below.refl _ _).alloc (Nat.le_refl _) _).alloc (by simp) _).drew⟩
  · rw [mix_zero, zeroD]; exact h1.drew
  · rw [zeroD]; exact h2.drew
theorem negStart' (w : World) (x : Int) (t : TypeId) : NegRel w x (w.heap.size + 1) w.heap.size (.int .i64 0)
    (((w.alloc (.cells #[.int .i64 0, .int .i64 0, .int .i64 0, .int .i64 0, .int .i64 0, .int .i64 0, .int .i64 0, .int .i64 0, .int .i64 0, .int .i64 0, .int .i64 0, .int .i64 0, .int .i64 0, .int .i64 0, .int .i64 0, .int .i64 0] t)).alloc (.cells #[.int .i64 0, .int .i64 0, .int .i64 0, .int .i64 0, .int .i64 0, .int .i64 0, .int .i64 0, .int .i64 0, .int .i64 0, .int .i64 0, .int .i64 0, .int .i64 0, .int .i64 0, .int .i64 0, .int .i64 0, .int .i64 0] t)).drew) := by
  obtain ⟨k, hk, e3, h1, h2, h3, h4, h5, r1, r2, hb⟩ := negStart w x t
  simp only [Value.int.injEq, true_and] at e3
  obtain rfl : k = 0 := by omega
  rw [mix_zero] at r1
  exact ⟨0, hk, rfl, Ne.symm h1, h3, h2, h5, h4, by rw [mix_zero]; exact r2, r1, hb⟩

theorem neg_last (x : Int) (bo bn : Nat) (w wr : World) (hne : bo ≠ bn) (h2 : w.heap.size ≤ bn) (h3 : bo < wr.heap.size) (h4 : bn < wr.heap.size) (hrow : Row wr bo (dcells 16 (-1 - x))) (hone : Row wr bn (dcells 16 0)) (hbr : Below w.heap.size w wr) :
    Calls Try.prog 65 #[.slice (some ⟨bo, 0, none⟩) 16 16, .slice (some ⟨bn, 0, none⟩) 16 16] (wr.setCell ⟨bn, 0, none⟩ (.int .i64 1)) fun e w' => ∃ b, e = .returned (.slice (some ⟨b, 0, none⟩) 16 16) ∧ Made w w' b (-x) := by
  have hone' := hone.set 0 (.int .i64 1) (by rw [dcells_length]; decide)
  rw [oneD] at hone'
  have hrow' := hrow.other (i := 0) (.int .i64 1) (Ne.symm hne)
  have hE : -1 - x + 1 = -x := by omega
  have H := radd_any (ca := 16) (cb := 16) (-1 - x) 1 bo bn _ hrow' hone' (by simpa using h3) (by simpa using h4)
  rw [hE] at H
  refine H.mono ?_
  rintro e w' ⟨b, rfl, hm⟩
  have hbw := hbr.setCell (p := ⟨bn, 0, none⟩) h2 (.int .i64 1)
  exact ⟨b, rfl, hm.row, Nat.le_trans hbw.size hm.old, hm.size, hbw.trans (hm.below.mono hbw.size)⟩

set_option maxHeartbeats 1000000 in
theorem rneg_any (x : Int) (ba : Nat) {cap : Nat} (w : World) (ra : Row w ba (dcells 16 x)) (ha : ba < w.heap.size) :
    Calls Try.prog 45 #[.slice (some ⟨ba, 0, none⟩) 16 cap] w fun e w' => ∃ b, e = .returned (.slice (some ⟨b, 0, none⟩) 16 16) ∧ Made w w' b (-x) := by
  have hmk := makeD
  go_enter Try.func45, Try.ntmps45
  go_wp2
  go_region
  · go_wp2
    clear hmk
    go_loopw [5] (fun i wr => NegRel w x w.heap.size (w.heap.size + 1) i wr) (fun i _ => 16 - (intOf i).toNat)
    case atStart => exact negStart w x 3
    case round =>
      obtain ⟨k, hk, rfl, hne, h1, h2, h3, h4, hrow, hone, hbr⟩ := hrel
      by_cases hlt : k < 16
      · have c1 : wr.cell? ⟨ba, k, none⟩ = some (.int .i64 (dg x k)) := (hbr.cell (p := ⟨ba, k, none⟩) ha).trans (ra.cell k _ (dcells_at _ _ _ hlt))
        have c3 : wr.cell? ⟨w.heap.size, k, none⟩ = some (.int .i64 (dg 0 k)) := hrow.cell k _ (mix_at _ _ _ _ _ hlt (Nat.le_refl _))
        have c4 : wr.frozen? ⟨w.heap.size, k, none⟩ = false := hrow.free k (by rw [mix_length]; exact hlt)
        have hl : (k : Int) < 16 := by omega
        obtain ⟨d0, d1⟩ := dg_range x k
        have hn := negRel_next w wr x w.heap.size (w.heap.size + 1) k 0 hlt hne h1 h2 h3 h4 hrow hone hbr
        go_wp2
        go_roundw
        case rel => exact hn
        case measure => simp [intOf]; omega
      · obtain rfl : k = 16 := by omega
        rw [mix_full] at hrow
        have c3 : wr.cell? ⟨(w.heap.size + 1), 0, none⟩ = some (.int .i64 (dg 0 0)) := hone.cell 0 _ (dcells_at _ _ _ (by decide))
        have c4 : wr.frozen? ⟨(w.heap.size + 1), 0, none⟩ = false := hone.free 0 (by rw [dcells_length]; decide)
        go_wp2_with (go_at_call 65; refine (neg_last x w.heap.size (w.heap.size + 1) w wr hne h2 h3 h4 hrow hone hbr).mono ?_; rintro e w' ⟨b, rfl, hm⟩)
        go_ret
        exact ⟨b, rfl, hm⟩
  · go_wp2
    clear hmk
    go_loopw [5] (fun i wr => NegRel w x (w.heap.size + 1) w.heap.size i wr) (fun i _ => 16 - (intOf i).toNat)
    case atStart => exact negStart' w x 3
    case round =>
      obtain ⟨k, hk, rfl, hne, h1, h2, h3, h4, hrow, hone, hbr⟩ := hrel
      by_cases hlt : k < 16
      · have c1 : wr.cell? ⟨ba, k, none⟩ = some (.int .i64 (dg x k)) := (hbr.cell (p := ⟨ba, k, none⟩) ha).trans (ra.cell k _ (dcells_at _ _ _ hlt))
        have c3 : wr.cell? ⟨(w.heap.size + 1), k, none⟩ = some (.int .i64 (dg 0 k)) := hrow.cell k _ (mix_at _ _ _ _ _ hlt (Nat.le_refl _))
        have c4 : wr.frozen? ⟨(w.heap.size + 1), k, none⟩ = false := hrow.free k (by rw [mix_length]; exact hlt)
        have hl : (k : Int) < 16 := by omega
        obtain ⟨d0, d1⟩ := dg_range x k
        have hn := negRel_next w wr x (w.heap.size + 1) w.heap.size k 0 hlt hne h1 h2 h3 h4 hrow hone hbr
        go_wp2
        go_roundw
        case rel => exact hn
        case measure => simp [intOf]; omega
      · obtain rfl : k = 16 := by omega
        rw [mix_full] at hrow
        have c3 : wr.cell? ⟨w.heap.size, 0, none⟩ = some (.int .i64 (dg 0 0)) := hone.cell 0 _ (dcells_at _ _ _ (by decide))
        have c4 : wr.frozen? ⟨w.heap.size, 0, none⟩ = false := hone.free 0 (by rw [dcells_length]; decide)
        go_wp2_with (go_at_call 65; refine (neg_last x (w.heap.size + 1) w.heap.size w wr hne h2 h3 h4 hrow hone hbr).mono ?_; rintro e w' ⟨b, rfl, hm⟩)
        go_ret
        exact ⟨b, rfl, hm⟩
end Go.Proofs.Ytlelbhiebmdnoaa.lq.d16

namespace Go.Proofs.Ytlelbhiebmdnoaa.lq.d32
open Go.Proofs.Ytlelbhiebmdnoaa.lq
open Go.RowKit
set_option linter.unusedVariables false

theorem makeD (w : World) : (Instr.makeSlice 24 (.int .i64 32) (.int .i64 32)).run Try.prog w = .ok (.slice (some ⟨w.heap.size, 0, none⟩) 32 32) (w.alloc (.cells #[.int .i64 0, .int .i64 0, .int .i64 0, .int .i64 0, .int .i64 0, .int .i64 0, .int .i64 0, .int .i64 0, .int .i64 0, .int .i64 0, .int .i64 0, .int .i64 0, .int .i64 0, .int .i64 0, .int .i64 0, .int .i64 0, .int .i64 0, .int .i64 0, .int .i64 0, .int .i64 0, .int .i64 0, .int .i64 0, .int .i64 0, .int .i64 0, .int .i64 0, .int .i64 0, .int .i64 0, .int .i64 0, .int .i64 0, .int .i64 0, .int .i64 0, .int .i64 0] 3)) := by kernel_rfl
theorem zeroD : dcells 32 0 = [.int .i64 0, .int .i64 0, .int .i64 0, .int .i64 0, .int .i64 0, .int .i64 0, .int .i64 0, .int .i64 0, .int .i64 0, .int .i64 0, .int .i64 0, .int .i64 0, .int .i64 0, .int .i64 0, .int .i64 0, .int .i64 0, .int .i64 0, .int .i64 0, .int .i64 0, .int .i64 0, .int .i64 0, .int .i64 0, .int .i64 0, .int .i64 0, .int .i64 0, .int .i64 0, .int .i64 0, .int .i64 0, .int .i64 0, .int .i64 0, .int .i64 0, .int .i64 0] := by simp [dcells, dg, List.range, List.range.loop]
/-- A number's digits, in a block of the call's own. -/
structure Made (w w' : World) (b : Nat) (v : Int) : Prop where
  row : Row w' b (dcells 32 v)
  old : w.heap.size ≤ b
  size : b < w'.heap.size
  below : Below w.heap.size w w'

/-- What holds at the head of each round of the sum's loop. -/
def AddRel (w : World) (x y : Int) (c i : Value) (wr : World) : Prop := ∃ k : Nat, k ≤ 32 ∧ i = .int .i64 (k : Int) ∧ c = .int .i64 (carry x y k) ∧ Row wr w.heap.size (mix 32 k (x + y) 0) ∧ Below w.heap.size w wr ∧ w.heap.size < wr.heap.size
theorem addRel_next (w wr : World) (x y : Int) (k n : Nat) (hk : k < 32) (hrow : Row wr w.heap.size (mix 32 k (x + y) 0)) (hb : Below w.heap.size w wr) (hs : w.heap.size < wr.heap.size) :
    AddRel w x y (.int .i64 ((carry x y k + dg x k + dg y k) / 256)) (.int .i64 ((k : Int) + 1)) ((wr.drewN n).setCell ⟨w.heap.size, k, none⟩ (.int .i64 ((carry x y k + dg x k + dg y k) % 256))) := by
  refine ⟨k + 1, by omega, by simp, by rw [carry_succ], ?_, (below_drewN hb n).setCell (Nat.le_refl _) _, ?_⟩
  · rw [add_digit, ← mix_set]
    exact (hrow.drewN n).set k _ (by rw [mix_length]; exact hk)
  · simpa using hs

set_option maxHeartbeats 400000 in
theorem radd_any (x y : Int) (ba bb : Nat) {ca cb : Nat} (w : World) (ra : Row w ba (dcells 32 x)) (rb : Row w bb (dcells 32 y)) (ha : ba < w.heap.size) (hb : bb < w.heap.size) :
    Calls Try.prog 65 #[.slice (some ⟨ba, 0, none⟩) 32 ca, .slice (some ⟨bb, 0, none⟩) 32 cb] w fun e w' => ∃ b, e = .returned (.slice (some ⟨b, 0, none⟩) 32 32) ∧ Made w w' b (x + y) := by
  have hmk := makeD
  go_enter Try.func65, Try.ntmps65
  go_wp2
  clear hmk
  go_loopw [6, 7] (fun c i wr => AddRel w x y c i wr) (fun _ i _ => 32 - (intOf i).toNat)
  case atStart =>
    refine ⟨0, by omega, rfl, by rw [carry_zero], ?_, (Below.refl _ _).alloc (Nat.le_refl _) _, by simp⟩
    rw [mix_zero, zeroD]
    exact Row.new _ _ _
  case round =>
    obtain ⟨k, hk, rfl, rfl, hrow, hbr, hsz⟩ := hrel
    by_cases hlt : k < 32
    · have c1 : wr.cell? ⟨ba, k, none⟩ = some (.int .i64 (dg x k)) := (hbr.cell (p := ⟨ba, k, none⟩) ha).trans (ra.cell k _ (dcells_at _ _ _ hlt))
      have c2 : wr.cell? ⟨bb, k, none⟩ = some (.int .i64 (dg y k)) := (hbr.cell (p := ⟨bb, k, none⟩) hb).trans (rb.cell k _ (dcells_at _ _ _ hlt))
      have c3 : wr.cell? ⟨w.heap.size, k, none⟩ = some (.int .i64 (dg 0 k)) := hrow.cell k _ (mix_at _ _ _ _ _ hlt (Nat.le_refl _))
      have c4 : wr.frozen? ⟨w.heap.size, k, none⟩ = false := hrow.free k (by rw [mix_length]; exact hlt)
      have hl : (k : Int) < 32 := by omega
      obtain ⟨d0, d1⟩ := dg_range x k
      obtain ⟨e0, e1⟩ := dg_range y k
      obtain ⟨f0, f1⟩ := carry_range x y k
      have hn := fun n => addRel_next w wr x y k n hlt hrow hbr hsz
      go_wp2
      go_quiet (fail)
      go_wp2
      go_roundw
      case rel => exact hn _
      case measure => simp [intOf]; omega
    · obtain rfl : k = 32 := by omega
      rw [mix_full] at hrow
      go_wp2
      go_ret
      exact ⟨_, rfl, hrow, Nat.le_refl _, hsz, hbr⟩

/-- What holds at the head of each round of the negation's loop. -/
def NegRel (w : World) (x : Int) (bo bn : Nat) (i : Value) (wr : World) : Prop := ∃ k : Nat, k ≤ 32 ∧ i = .int .i64 (k : Int) ∧ bo ≠ bn ∧ w.heap.size ≤ bo ∧ w.heap.size ≤ bn ∧ bo < wr.heap.size ∧ bn < wr.heap.size ∧
  Row wr bo (mix 32 k (-1 - x) 0) ∧ Row wr bn (dcells 32 0) ∧ Below w.heap.size w wr
theorem negRel_next (w wr : World) (x : Int) (bo bn k n : Nat) (hk : k < 32) (hne : bo ≠ bn) (h1 : w.heap.size ≤ bo) (h2 : w.heap.size ≤ bn) (h3 : bo < wr.heap.size) (h4 : bn < wr.heap.size) (hrow : Row wr bo (mix 32 k (-1 - x) 0)) (hone : Row wr bn (dcells 32 0)) (hb : Below w.heap.size w wr) :
    NegRel w x bo bn (.int .i64 ((k : Int) + 1)) (wr.setCell ⟨bo, k, none⟩ (.int .i64 (255 - dg x k))) := by
  refine ⟨k + 1, by omega, by simp, hne, h1, h2, by simpa using h3, by simpa using h4, ?_, hone.other _ hne, hb.setCell h1 _⟩
  rw [neg_digit, ← mix_set]
  exact hrow.set k _ (by rw [mix_length]; exact hk)
theorem oneD : (dcells 32 0).set 0 (.int .i64 1) = dcells 32 1 := by rw [zeroD]; simp [dcells, dg, List.range, List.range.loop]

theorem negStart (w : World) (x : Int) (t : TypeId) : NegRel w x w.heap.size (w.heap.size + 1) (.int .i64 0)
    (((w.alloc (.cells #[.int .i64 0, .int .i64 0, .int .i64 0, .int .i64 0, .int .i64 0, .int .i64 0, .int .i64 0, .int .i64 0, .int .i64 0, .int .i64 0, .int .i64 0, .int .i64 0, .int .i64 0, .int .i64 0, .int .i64 0, .int .i64 0, .int .i64 0, .int .i64 0, .int .i64 0, .int .i64 0, .int .i64 0, .int .i64 0, .int .i64 0, .int .i64 0, .int .i64 0, .int .i64 0, .int .i64 0, .int .i64 0, .int .i64 0, .int .i64 0, .int .i64 0, .int .i64 0] t)).alloc (.cells #[.int .i64 0, .int .i64 0, .int .i64 0, .int .i64 0, .int .i64 0, .int .i64 0, .int .i64 0, .int .i64 0, .int .i64 0, .int .i64 0, .int .i64 0, .int .i64 0, .int .i64 0, .int .i64 0, .int .i64 0, .int .i64 0, .int .i64 0, .int .i64 0, .int .i64 0, .int .i64 0, .int .i64 0, .int .i64 0, .int .i64 0, .int .i64 0, .int .i64 0, .int .i64 0, .int .i64 0, .int .i64 0, .int .i64 0, .int .i64 0, .int .i64 0, .int .i64 0] t)).drew) := by
  have h2 := Row.new (w.alloc (.cells (dcells 32 0).toArray t)) (dcells 32 0) t
  rw [World.size_alloc] at h2
  have h1 := (Row.new w (dcells 32 0) t).alloc (.cells (dcells 32 0).toArray t) (by rw [World.size_alloc]; omega)
  rw [zeroD] at h1 h2
  refine ⟨0, by omega, rfl, by omega, by omega, by omega, by simp; omega, by simp, ?_, ?_, (((Below.refl _ _).alloc (Nat.le_refl _) _).alloc (by simp) _).drew⟩
  · rw [mix_zero, zeroD]; exact h1.drew
  · rw [zeroD]; exact h2.drew
theorem negStart' (w : World) (x : Int) (t : TypeId) : NegRel w x (w.heap.size + 1) w.heap.size (.int .i64 0)
    (((w.alloc (.cells #[.int .i64 0, .int .i64 0, .int .i64 0, .int .i64 0, .int .i64 0, .int .i64 0, .int .i64 0, .int .i64 0, .int .i64 0, .int .i64 0, .int .i64 0, .int .i64 0, .int .i64 0, .int .i64 0, .int .i64 0, .int .i64 0, .int .i64 0, .int .i64 0, .int .i64 0, .int .i64 0, .int .i64 0, .int .i64 0, .int .i64 0, .int .i64 0, .int .i64 0, .int .i64 0, .int .i64 0, .int .i64 0, .int .i64 0, .int .i64 0, .int .i64 0, .int .i64 0] t)).alloc (.cells #[.int .i64 0, .int .i64 0, .int .i64 0, .int .i64 0, .int .i64 0, .int .i64 0, .int .i64 0, .int .i64 0, .int .i64 0, .int .i64 0, .int .i64 0, .int .i64 0, .int .i64 0, .int .i64 0, .int .i64 0, .int .i64 0, .int .i64 0, .int .i64 0, .int .i64 0, .int .i64 0, .int .i64 0, .int .i64 0, .int .i64 0, .int .i64 0, .int .i64 0, .int .i64 0, .int .i64 0, .int .i64 0, .int .i64 0, .int .i64 0, .int .i64 0, .int .i64 0] t)).drew) := by
  obtain ⟨k, hk, e3, h1, h2, h3, h4, h5, r1, r2, hb⟩ := negStart w x t
  simp only [Value.int.injEq, true_and] at e3
  obtain rfl : k = 0 := by omega
  rw [mix_zero] at r1
  exact ⟨0, hk, rfl, Ne.symm h1, h3, h2, h5, h4, by rw [mix_zero]; exact r2, r1, hb⟩

theorem neg_last (x : Int) (bo bn : Nat) (w wr : World) (hne : bo ≠ bn) (h2 : w.heap.size ≤ bn) (h3 : bo < wr.heap.size) (h4 : bn < wr.heap.size) (hrow : Row wr bo (dcells 32 (-1 - x))) (hone : Row wr bn (dcells 32 0)) (hbr : Below w.heap.size w wr) :
    Calls Try.prog 65 #[.slice (some ⟨bo, 0, none⟩) 32 32, .slice (some ⟨bn, 0, none⟩) 32 32] (wr.setCell ⟨bn, 0, none⟩ (.int .i64 1)) fun e w' => ∃ b, e = .returned (.slice (some ⟨b, 0, none⟩) 32 32) ∧ Made w w' b (-x) := by
  have hone' := hone.set 0 (.int .i64 1) (by rw [dcells_length]; decide)
  rw [oneD] at hone'
  have hrow' := hrow.other (i := 0) (.int .i64 1) (Ne.symm hne)
  have hE : -1 - x + 1 = -x := by omega
  have H := radd_any (ca := 32) (cb := 32) (-1 - x) 1 bo bn _ hrow' hone' (by simpa using h3) (by simpa using h4)
  rw [hE] at H
  refine H.mono ?_
  rintro e w' ⟨b, rfl, hm⟩
  have hbw := hbr.setCell (p := ⟨bn, 0, none⟩) h2 (.int .i64 1)
  exact ⟨b, rfl, hm.row, Nat.le_trans hbw.size hm.old, hm.size, hbw.trans (hm.below.mono hbw.size)⟩

set_option maxHeartbeats 1000000 in
theorem rneg_any (x : Int) (ba : Nat) {cap : Nat} (w : World) (ra : Row w ba (dcells 32 x)) (ha : ba < w.heap.size) :
    Calls Try.prog 45 #[.slice (some ⟨ba, 0, none⟩) 32 cap] w fun e w' => ∃ b, e = .returned (.slice (some ⟨b, 0, none⟩) 32 32) ∧ Made w w' b (-x) := by
  have hmk := makeD
  go_enter Try.func45, Try.ntmps45
  go_wp2
  go_region
  · go_wp2
    clear hmk
    go_loopw [5] (fun i wr => NegRel w x w.heap.size (w.heap.size + 1) i wr) (fun i _ => 32 - (intOf i).toNat)
    case atStart => exact negStart w x 3
    case round =>
      obtain ⟨k, hk, rfl, hne, h1, h2, h3, h4, hrow, hone, hbr⟩ := hrel
      by_cases hlt : k < 32
      · have c1 : wr.cell? ⟨ba, k, none⟩ = some (.int .i64 (dg x k)) := (hbr.cell (p := ⟨ba, k, none⟩) ha).trans (ra.cell k _ (dcells_at _ _ _ hlt))
        have c3 : wr.cell? ⟨w.heap.size, k, none⟩ = some (.int .i64 (dg 0 k)) := hrow.cell k _ (mix_at _ _ _ _ _ hlt (Nat.le_refl _))
        have c4 : wr.frozen? ⟨w.heap.size, k, none⟩ = false := hrow.free k (by rw [mix_length]; exact hlt)
        have hl : (k : Int) < 32 := by omega
        obtain ⟨d0, d1⟩ := dg_range x k
        have hn := negRel_next w wr x w.heap.size (w.heap.size + 1) k 0 hlt hne h1 h2 h3 h4 hrow hone hbr
        go_wp2
        go_roundw
        case rel => exact hn
        case measure => simp [intOf]; omega
      · obtain rfl : k = 32 := by omega
        rw [mix_full] at hrow
        have c3 : wr.cell? ⟨(w.heap.size + 1), 0, none⟩ = some (.int .i64 (dg 0 0)) := hone.cell 0 _ (dcells_at _ _ _ (by decide))
        have c4 : wr.frozen? ⟨(w.heap.size + 1), 0, none⟩ = false := hone.free 0 (by rw [dcells_length]; decide)
        go_wp2_with (go_at_call 65; refine (neg_last x w.heap.size (w.heap.size + 1) w wr hne h2 h3 h4 hrow hone hbr).mono ?_; rintro e w' ⟨b, rfl, hm⟩)
        go_ret
        exact ⟨b, rfl, hm⟩
  · go_wp2
    clear hmk
    go_loopw [5] (fun i wr => NegRel w x (w.heap.size + 1) w.heap.size i wr) (fun i _ => 32 - (intOf i).toNat)
    case atStart => exact negStart' w x 3
    case round =>
      obtain ⟨k, hk, rfl, hne, h1, h2, h3, h4, hrow, hone, hbr⟩ := hrel
      by_cases hlt : k < 32
      · have c1 : wr.cell? ⟨ba, k, none⟩ = some (.int .i64 (dg x k)) := (hbr.cell (p := ⟨ba, k, none⟩) ha).trans (ra.cell k _ (dcells_at _ _ _ hlt))
        have c3 : wr.cell? ⟨(w.heap.size + 1), k, none⟩ = some (.int .i64 (dg 0 k)) := hrow.cell k _ (mix_at _ _ _ _ _ hlt (Nat.le_refl _))
        have c4 : wr.frozen? ⟨(w.heap.size + 1), k, none⟩ = false := hrow.free k (by rw [mix_length]; exact hlt)
        have hl : (k : Int) < 32 := by omega
        obtain ⟨d0, d1⟩ := dg_range x k
        have hn := negRel_next w wr x (w.heap.size + 1) w.heap.size k 0 hlt hne h1 h2 h3 h4 hrow hone hbr
        go_wp2
        go_roundw
        case rel => exact hn
        case measure => simp [intOf]; omega
      · obtain rfl : k = 32 := by omega
        rw [mix_full] at hrow
        have c3 : wr.cell? ⟨w.heap.size, 0, none⟩ = some (.int .i64 (dg 0 0)) := hone.cell 0 _ (dcells_at _ _ _ (by decide))
        have c4 : wr.frozen? ⟨w.heap.size, 0, none⟩ = false := hone.free 0 (by rw [dcells_length]; decide)
        go_wp2_with (go_at_call 65; refine (neg_last x (w.heap.size + 1) w.heap.size w wr hne h2 h3 h4 hrow hone hbr).mono ?_; rintro e w' ⟨b, rfl, hm⟩)
        go_ret
        exact ⟨b, rfl, hm⟩
end Go.Proofs.Ytlelbhiebmdnoaa.lq.d32

namespace Go.Proofs.Ytlelbhiebmdnoaa.lq
open Go.RowKit
set_option linter.unusedVariables false

theorem mask8 (x : Int) (h0 : 0 ≤ x) (h1 : x < 18446744073709551616) : bits .and .u64 x 255 = x % 256 := by
  obtain ⟨n, rfl⟩ := Int.eq_ofNat_of_zero_le h0
  have h := bits_and_u64_nat n 255 (by omega) (by omega)
  have e : n &&& 255 = n % 256 := Nat.and_two_pow_sub_one_eq_mod n 8
  rw [e] at h
  exact h.trans (by omega)
theorem div_le (x : Int) (k : Nat) (h0 : 0 ≤ x) : 0 ≤ x / 256 ^ k ∧ x / 256 ^ k ≤ x := by
  have hp := p256 k
  exact ⟨Int.ediv_nonneg h0 (Int.le_of_lt hp), Int.ediv_le_self _ h0⟩
theorem pow8 (k : Nat) : (2 : Int) ^ (8 * k) = 256 ^ k := by rw [Int.pow_mul]; rfl
theorem pow64 (j : Nat) : (18446744073709551616 : Int) ^ j = 256 ^ (8 * j) := by rw [Int.pow_mul]; rfl
theorem dg_small (v : Int) (k : Nat) (hk : k < 8) : dg (v % 18446744073709551616) k = dg v k :=
  dg_congr (i := 8) (-(v / 18446744073709551616)) (by have e : (256 : Int) ^ 8 = 18446744073709551616 := by decide
                                                      rw [e]; omega) hk
/-- Digit i of a number is a digit of one of its words. -/
theorem word_dg (v : Int) (i : Nat) : q.dg v (i / 8) / 256 ^ (i % 8) % 256 = dg v i := by
  have e := dg_small (v / 18446744073709551616 ^ (i / 8)) (i % 8) (by omega)
  have e1 : q.dg v (i / 8) / 256 ^ (i % 8) % 256 = dg (v / 18446744073709551616 ^ (i / 8) % 18446744073709551616) (i % 8) := rfl
  rw [e1, e]
  unfold dg
  have hp := p256 (8 * (i / 8))
  have e2 := Int.ediv_ediv (x := v) (y := 256 ^ (8 * (i / 8))) (z := 256 ^ (i % 8))
  rw [if_neg (by omega)] at e2
  rw [pow64, e2, ← Int.pow_add, show 8 * (i / 8) + i % 8 = i by omega]
  simp
theorem of_word (v : Int) (i : Nat) : wrap64 (bits .and .u64 (q.dg v (i / 8) / 2 ^ (8 * (i % 8))) 255) = dg v i := by
  obtain ⟨l0, l1⟩ := q.dg_range v (i / 8)
  obtain ⟨d0, d1⟩ := div_le (q.dg v (i / 8)) (i % 8) l0
  rw [pow8, mask8 _ d0 (by omega), word_dg]
  have := dg_range v i
  unfold wrap64; omega

/-- What holds at the head of each round of Of's loop. -/
structure QOfRel (w : World) (a : Int) (k : Nat) (wr : World) : Prop where
  ra : Row wr w.heap.size (q.dcells 4 a)
  rl : Row wr (w.heap.size + 1) (mix 32 k a 0)
  bel : Below w.heap.size w wr
  size : w.heap.size + 1 < wr.heap.size
theorem qofRel_start (w : World) (a : Int) (t t' : TypeId) : QOfRel w a 0 ((w.alloc (.cells #[.int .u64 (q.dg a 0), .int .u64 (q.dg a 1), .int .u64 (q.dg a 2), .int .u64 (q.dg a 3)] t)).alloc (.cells (dcells 32 0).toArray t')) := by
  have h0 := (Row.new w [.int .u64 (q.dg a 0), .int .u64 (q.dg a 1), .int .u64 (q.dg a 2), .int .u64 (q.dg a 3)] t).alloc (.cells (dcells 32 0).toArray t') (by simp)
  have h1 := Row.new (w.alloc (.cells #[.int .u64 (q.dg a 0), .int .u64 (q.dg a 1), .int .u64 (q.dg a 2), .int .u64 (q.dg a 3)] t)) (dcells 32 0) t'
  rw [World.size_alloc] at h1
  exact ⟨h0.cells (qcells a).symm, h1.cells (mix_zero _ _ _).symm, ((Below.refl _ _).alloc (Nat.le_refl _) _).alloc (by simp) _, by simp⟩
theorem qofRel_next {w wr : World} {a : Int} {k : Nat} (h : QOfRel w a k wr) (hk : k < 32) : QOfRel w a (k + 1) (wr.setCell ⟨w.heap.size + 1, k, none⟩ (.int .i64 (dg a k))) :=
  ⟨h.ra.other _ (by omega), (h.rl.set k _ (by rw [mix_length]; exact hk)).cells (mix_set _ _ _ _), h.bel.setCell (by show _ ≤ w.heap.size + 1; omega) _, by simpa using h.size⟩

set_option maxHeartbeats 400000 in
theorem rqof_any {a0 a1 a2 a3 : Int} (a : Int) (ha : Wd a a0 a1 a2 a3) (w : World) :
    Calls Try.prog 43 #[.agg #[.int .u64 a0, .int .u64 a1, .int .u64 a2, .int .u64 a3]] w fun e w' => ∃ b, e = .returned (.slice (some ⟨b, 0, none⟩) 32 32) ∧ d32.Made w w' b a := by
  obtain ⟨rfl, rfl, rfl, rfl⟩ := ha
  have hmk := d32.makeD
  go_enter Try.func43, Try.ntmps43
  go_wp2
  clear hmk
  go_loopw [4] (fun i wr => ∃ k : Nat, k ≤ 32 ∧ i = .int .i64 (k : Int) ∧ QOfRel w a k wr) (fun i _ => 32 - (intOf i).toNat)
  case atStart =>
    have h := qofRel_start w a 49 3
    rw [d32.zeroD] at h
    exact ⟨0, by omega, rfl, h⟩
  case round =>
    obtain ⟨k, hk, rfl, hr⟩ := hrel
    by_cases hlt : k < 32
    · have c1 : wr.cell? ⟨w.heap.size, k / 8, none⟩ = some (.int .u64 (q.dg a (k / 8))) := hr.ra.cell (k / 8) _ (q.dcells_at _ _ _ (by omega))
      have c3 : wr.cell? ⟨w.heap.size + 1, k, none⟩ = some (.int .i64 (dg 0 k)) := hr.rl.cell k _ (mix_at _ _ _ _ _ hlt (Nat.le_refl _))
      have c4 : wr.frozen? ⟨w.heap.size + 1, k, none⟩ = false := hr.rl.free k (by rw [mix_length]; exact hlt)
      have hl : (k : Int) < 32 := by omega
      have hl8 : (k : Int) / 8 < 4 := by omega
      have hl0 : 0 ≤ (k : Int) / 8 := by omega
      have ht : ((k : Int) / 8).toNat = k / 8 := by omega
      have hn := qofRel_next hr hlt
      have f1 := of_word a k
      clear hr
      go_wp2
      go_roundw
      case rel => exact ⟨k + 1, by omega, by simp, hn⟩
      case measure => simp [intOf]; omega
    · obtain rfl : k = 32 := by omega
      have rl := hr.rl.cells (mix_full _ _ _)
      obtain ⟨ra, _, bel, size⟩ := hr
      clear ra
      go_wp2
      go_ret
      exact ⟨_, rfl, rl, by omega, size, bel⟩
end Go.Proofs.Ytlelbhiebmdnoaa.lq

namespace Go.Proofs.Ytlelbhiebmdnoaa.lq.d16
open Go.Proofs.Ytlelbhiebmdnoaa.lq
open Go.RowKit
set_option linter.unusedVariables false

theorem dg_up (v : Int) (k : Nat) : dg (v / 18446744073709551616) k = dg v (8 + k) := by
  unfold dg
  have e : (256 : Int) ^ (8 + k) = 18446744073709551616 * 256 ^ k := by rw [Int.pow_add]; rfl
  rw [e]
  have := Int.ediv_ediv (x := v) (y := 18446744073709551616) (z := 256 ^ k)
  rw [if_neg (by omega)] at this
  rw [this]; simp
theorem of_dg_lo (a : Int) (k : Nat) (hk : k < 8) : wrap64 (bits .and .u64 (lo a / 2 ^ (8 * k)) 255) = dg a k := by
  obtain ⟨l0, l1⟩ := lo_range a
  obtain ⟨d0, d1⟩ := div_le (lo a) k l0
  rw [pow8, mask8 _ d0 (by omega)]
  have e : lo a / 256 ^ k % 256 = dg a k := dg_small a k hk
  rw [e]
  have := dg_range a k
  unfold wrap64; omega
theorem of_dg_hi (a : Int) (k : Nat) (hk : k < 8) : wrap64 (bits .and .u64 (IntKind.u64.wrap (hi a) / 2 ^ (8 * k)) 255) = dg a (8 + k) := by
  have e1 : IntKind.u64.wrap (hi a) = a / 18446744073709551616 % 18446744073709551616 := by rw [IntKind.wrap_u64]; unfold hi; omega
  rw [e1, pow8]
  obtain ⟨d0, d1⟩ := div_le (a / 18446744073709551616 % 18446744073709551616) k (by omega)
  rw [mask8 _ d0 (by omega)]
  have e : a / 18446744073709551616 % 18446744073709551616 / 256 ^ k % 256 = dg a (8 + k) := (dg_small (a / 18446744073709551616) k hk).trans (dg_up a k)
  rw [e]
  have := dg_range a (8 + k)
  unfold wrap64; omega

def ofP (i j : Nat) : Bool := decide (j < i) || (decide (8 ≤ j) && decide (j < 8 + i))
/-- What holds at the head of each round of Of's loop. -/
def OfRel (w : World) (a : Int) (i : Value) (wr : World) : Prop := ∃ k : Nat, k ≤ 8 ∧ i = .int .i64 (k : Int) ∧ Row wr (w.heap.size + 1) (fill 16 (ofP k) a 0) ∧ Below (w.heap.size + 1) (w.alloc (.cells #[.int .i64 (hi a), .int .u64 (lo a)] 31)) wr ∧ w.heap.size + 1 < wr.heap.size
theorem ofRel_next (w wr : World) (a : Int) (k : Nat) (hk : k < 8) (hrow : Row wr (w.heap.size + 1) (fill 16 (ofP k) a 0)) (hb : Below (w.heap.size + 1) (w.alloc (.cells #[.int .i64 (hi a), .int .u64 (lo a)] 31)) wr) (hs : w.heap.size + 1 < wr.heap.size) :
    OfRel w a (.int .i64 ((k : Int) + 1)) ((wr.setCell ⟨w.heap.size + 1, k, none⟩ (.int .i64 (dg a k))).setCell ⟨w.heap.size + 1, 8 + k, none⟩ (.int .i64 (dg a (8 + k)))) := by
  refine ⟨k + 1, by omega, by simp, ?_, (hb.setCell (Nat.le_refl _) _).setCell (Nat.le_refl _) _, by simpa using hs⟩
  have h := (hrow.set k (.int .i64 (dg a k)) (by rw [fill_length]; omega)).set (8 + k) (.int .i64 (dg a (8 + k))) (by rw [List.length_set, fill_length]; omega)
  rw [fill_set, fill_set] at h
  have e : fill 16 (fun j => (ofP k j || j == k) || j == 8 + k) a 0 = fill 16 (ofP (k + 1)) a 0 := by
    refine fill_congr fun j _ => ?_
    have : ((ofP k j || j == k) || j == 8 + k) = ofP (k + 1) j := by rw [Bool.eq_iff_iff]; simp [ofP]; omega
    rw [this]
  rw [e] at h
  exact h
theorem ofRel_last (a : Int) : fill 16 (ofP 8) a 0 = dcells 16 a := by
  rw [← mix_full 16 a 0]
  refine fill_congr fun j hj => ?_
  have : ofP 8 j = decide (j < 16) := by rw [Bool.eq_iff_iff]; simp [ofP]; omega
  rw [this]
theorem ofRel_first (a : Int) : fill 16 (ofP 0) a 0 = dcells 16 0 := by
  rw [← mix_zero 16 a 0]
  refine fill_congr fun j hj => ?_
  have : ofP 0 j = decide (j < 0) := by rw [Bool.eq_iff_iff]; simp [ofP]
  rw [this]

set_option maxHeartbeats 400000 in
theorem rof_any {ah al : Int} (a : Int) (ha : ah = hi a) (hl : al = lo a) (w : World) :
    Calls Try.prog 48 #[.agg #[.int .i64 ah, .int .u64 al]] w fun e w' => ∃ b, e = .returned (.slice (some ⟨b, 0, none⟩) 16 16) ∧ Made w w' b a := by
  subst ha hl
  have hmk := makeD
  go_enter Try.func48, Try.ntmps48
  go_wp2
  clear hmk
  go_loopw [4] (fun i wr => OfRel w a i wr) (fun i _ => 8 - (intOf i).toNat)
  case atStart =>
    refine ⟨0, by omega, rfl, ?_, (Below.refl _ _).alloc (by simp) _, by simp⟩
    rw [ofRel_first, zeroD]
    have h := Row.new (w.alloc (.cells #[.int .i64 (hi a), .int .u64 (lo a)] 31)) (dcells 16 0) 3
    rw [World.size_alloc, zeroD] at h
    exact h
  case round =>
    obtain ⟨k, hk, rfl, hrow, hbr, hsz⟩ := hrel
    by_cases hlt : k < 8
    · have b0 : wr.cell? ⟨w.heap.size, 0, none⟩ = some (.int .i64 (hi a)) := by rw [hbr.cell (p := ⟨w.heap.size, 0, none⟩) (by simp)]; simp
      have b1 : wr.cell? ⟨w.heap.size, 1, none⟩ = some (.int .u64 (lo a)) := by rw [hbr.cell (p := ⟨w.heap.size, 1, none⟩) (by simp)]; simp
      have c1 : wr.cell? ⟨w.heap.size + 1, k, none⟩ = some (.int .i64 (dg 0 k)) := hrow.cell k _ (by rw [fill_at _ _ _ _ _ (by omega)]; simp [ofP]; omega)
      have c2 : wr.frozen? ⟨w.heap.size + 1, k, none⟩ = false := hrow.free k (by rw [fill_length]; omega)
      have c3 : wr.cell? ⟨w.heap.size + 1, 8 + k, none⟩ = some (.int .i64 (dg 0 (8 + k))) := hrow.cell (8 + k) _ (by rw [fill_at _ _ _ _ _ (by omega)]; simp [ofP]; omega)
      have c5 : ∀ v, (wr.setCell ⟨w.heap.size + 1, k, none⟩ v).cell? ⟨w.heap.size + 1, 8 + k, none⟩ = some (.int .i64 (dg 0 (8 + k))) := fun v => by
        rw [World.cell?_setCell_other _ _ _ _ (by intro q; simp only [Addr.mk.injEq] at q; omega)]; exact c3
      have c4 : wr.frozen? ⟨w.heap.size + 1, 8 + k, none⟩ = false := hrow.free (8 + k) (by rw [fill_length]; omega)
      have hl : (k : Int) < 8 := by omega
      have f1 := of_dg_lo a k hlt
      have f2 := of_dg_hi a k hlt
      have hn := ofRel_next w wr a k hlt hrow hbr hsz
      clear c3
      go_wp2
      go_roundw
      case rel => exact hn
      case measure => simp [intOf]; omega
    · obtain rfl : k = 8 := by omega
      rw [ofRel_last] at hrow
      go_wp2
      go_ret
      exact ⟨_, rfl, hrow, by omega, hsz, ((Below.refl _ _).alloc (Nat.le_refl _) _).trans (hbr.mono (by omega))⟩

end Go.Proofs.Ytlelbhiebmdnoaa.lq.d16

namespace Go.Proofs.Ytlelbhiebmdnoaa.lq.d16
open Go.Proofs.Ytlelbhiebmdnoaa.lq
open Go.RowKit
set_option linter.unusedVariables false

theorem dg15 (v : Int) (h0 : -170141183460469231731687303715884105728 ≤ v) (h1 : v < 170141183460469231731687303715884105728) : 128 ≤ dg v 15 ↔ v < 0 := by
  have e : (256 : Int) ^ 15 = 1329227995784915872903807060280344576 := by decide
  unfold dg; rw [e]; omega
theorem below_yes (v : Int) (b : Nat) {cap : Nat} (w : World) (r : Row w b (dcells 16 v)) (h : 128 ≤ dg v 15) :
    Calls Try.prog 44 #[.slice (some ⟨b, 0, none⟩) 16 cap] w fun e w' => e = .returned (.bool true) ∧ w' = w := by
  have c : w.cell? ⟨b, 15, none⟩ = some (.int .i64 (dg v 15)) := r.cell 15 _ (dcells_at _ _ _ (by decide))
  go_enter Try.func44, Try.ntmps44
  go_wp2
  go_ret
  exact ⟨rfl, rfl⟩
theorem below_no (v : Int) (b : Nat) {cap : Nat} (w : World) (r : Row w b (dcells 16 v)) (h : ¬ 128 ≤ dg v 15) :
    Calls Try.prog 44 #[.slice (some ⟨b, 0, none⟩) 16 cap] w fun e w' => e = .returned (.bool false) ∧ w' = w := by
  have c : w.cell? ⟨b, 15, none⟩ = some (.int .i64 (dg v 15)) := r.cell 15 _ (dcells_at _ _ _ (by decide))
  have hd : decide (128 ≤ dg v 15) = false := by simpa using h
  go_enter Try.func44, Try.ntmps44
  go_wp2
  go_ret
  exact ⟨rfl, rfl⟩

theorem div_step (x : Int) (k : Nat) : x / 256 ^ k = x / 256 ^ (k + 1) * 256 + dg x k := by
  have e : x / 256 ^ (k + 1) = x / 256 ^ k / 256 := by
    have hp := p256 k
    rw [Int.pow_succ, Int.ediv_ediv, if_neg (by omega)]; omega
  rw [e]; unfold dg; omega
end Go.Proofs.Ytlelbhiebmdnoaa.lq.d16

namespace Go.Proofs.Ytlelbhiebmdnoaa.lq
open Go.RowKit
set_option linter.unusedVariables false

theorem infoInt : (Try.prog.info? 3).map (fun i => (i.zero, i.size, i.bytes)) = some (some (.int .i64 0), 1, 8) := by kernel_rfl
/-- How long a slice is. -/
def slen : Value → Nat
  | .slice _ n _ => n
  | _ => 0
theorem slen_slice (a : Option Addr) (n c : Nat) : slen (.slice a n c) = n := rfl
theorem dcells_succ (t : Nat) (a : Int) : dcells (t + 1) a = dcells t a ++ [.int .i64 (dg a t)] := by
  unfold dcells; rw [List.range_succ, List.map_append]; rfl
theorem pow_big (t : Nat) (h : 16 ≤ t) : (340282366920938463463374607431768211456 : Int) ≤ 256 ^ t := by
  obtain ⟨d, rfl⟩ : ∃ d, t = 16 + d := ⟨t - 16, by omega⟩
  have e : (256 : Int) ^ 16 = 340282366920938463463374607431768211456 := by decide
  rw [Int.pow_add, e]
  have := p256 d
  have := Int.mul_le_mul_of_nonneg_left (show (1 : Int) ≤ 256 ^ d by omega) (show (0 : Int) ≤ 340282366920938463463374607431768211456 by decide)
  omega
theorem up_neg (a : Int) (h0 : -170141183460469231731687303715884105728 ≤ a) (h1 : a < 0) (t : Nat) (ht : 16 ≤ t) : (255 : Int) = dg a t := by
  have := pow_big t ht
  have e : a / 256 ^ t = -1 := by
    rw [show a = (a + 256 ^ t) + (-1) * 256 ^ t by omega, Int.add_mul_ediv_right _ _ (Int.ne_of_gt (p256 t)), Int.ediv_eq_zero_of_lt (by omega) (by omega)]
    rfl
  unfold dg; rw [e]; decide
theorem up_pos (a : Int) (h0 : 0 ≤ a) (h1 : a < 170141183460469231731687303715884105728) (t : Nat) (ht : 16 ≤ t) : (0 : Int) = dg a t := by
  have := pow_big t ht
  unfold dg; rw [Int.ediv_eq_zero_of_lt h0 (by omega)]; decide
theorem own_row {w : World} {base e n g cap : Nat} {xs : List Value} (h : w.ownsRow base e 1 (.slice (some ⟨g, 0, none⟩) n cap) n xs) : Row w g xs ∧ base ≤ g ∧ (0 < n → g < w.heap.size) := by
  obtain ⟨hl, h | ⟨g', cap', cur, hv, hb, hg, h1, h2, h3, h4⟩⟩ := h
  · cases h.1
  · cases hv
    refine ⟨?_, hb, fun hn => ?_⟩
    · intro j u hu
      have hj : j < n := by
        have := (List.getElem?_eq_some_iff.1 hu).1
        omega
      rw [← h4, Nat.mul_one, List.getElem?_take, if_pos hj] at hu
      refine ⟨by simp [World.cell?, hg]; simpa using hu, by simp [World.frozen?, hg]⟩
    · rcases Nat.lt_or_ge g w.heap.size with h | h
      · exact h
      · rw [Array.getElem?_eq_none h] at hg; cases hg

/-- What holds at the head of each round of Long's loop. -/
def LongRel (w : World) (a : Int) (v : Value) (wr : World) : Prop := ∃ t : Nat, 16 ≤ t ∧ t ≤ 32 ∧ Below w.heap.size w wr ∧
  ((t = 16 ∧ ∃ b, v = .slice (some ⟨b, 0, none⟩) 16 16 ∧ Row wr b (dcells 16 a) ∧ w.heap.size ≤ b ∧ b < wr.heap.size) ∨ (16 < t ∧ wr.ownsRow w.heap.size 3 1 v t (dcells t a)))
theorem hold16 {wr : World} {b : Nat} {a : Int} (r : Row wr b (dcells 16 a)) (hb : b < wr.heap.size) (o : Obj) : ∀ b' : Addr, some (⟨b, 0, none⟩ : Addr) = some b' → ∀ j u, (dcells 16 a)[j]? = some u → (wr.alloc o).cell? (b'.add j) = some u := by
  intro b' e j u hu
  cases e
  rw [Addr.add_lit, Nat.zero_add]
  exact (r.alloc o hb).cell j u hu
theorem longRel_first {w wr w1 : World} {a d : Int} {v : Value} (t : TypeId) (hd : d = dg a 16) (bel : Below w.heap.size w wr) (h : w1.ownsRow (wr.alloc (.cells #[.int .i64 d] t)).heap.size 3 1 v (16 + 1) (dcells 16 a ++ [.int .i64 d])) (hg : (wr.alloc (.cells #[.int .i64 d] t)).grownBy w1 none) : LongRel w a v w1 := by
  subst hd
  rw [← dcells_succ] at h
  have hs := bel.size
  refine ⟨17, by omega, by omega, (bel.alloc hs _).grown hg (by simp; omega) (fun k hk => by cases hk), Or.inr ⟨by omega, ?_⟩⟩
  obtain ⟨hl, h' | ⟨g, cap, cur, hv, hb, h1, h2, h3, h4, h5⟩⟩ := h
  · exact ⟨hl, Or.inl h'⟩
  · exact ⟨hl, Or.inr ⟨g, cap, cur, hv, by simp at hb; omega, h1, h2, h3, h4, h5⟩⟩
theorem longRel_more {w wr w1 : World} {a d : Int} {t g g' cap cap' : Nat} (t' : TypeId) (ht : 16 < t) (ht2 : t < 32) (hd : d = dg a t) (bel : Below w.heap.size w wr) (ho : wr.ownsRow w.heap.size 3 1 (.slice (some ⟨g, 0, none⟩) t cap) t (dcells t a))
    (h : w1.ownsRow w.heap.size 3 1 (.slice (some ⟨g', 0, none⟩) (t + 1) cap') (t + 1) (dcells t a ++ [.int .i64 d])) (hg : (wr.alloc (.cells #[.int .i64 d] t')).grownBy w1 (Value.slice (some ⟨g, 0, none⟩) t cap).ownBlock) : LongRel w a (.slice (some ⟨g', 0, none⟩) (t + 1) cap') w1 := by
  subst hd
  rw [← dcells_succ] at h
  have hs := bel.size
  refine ⟨t + 1, by omega, by omega, (bel.alloc hs _).grown hg (by simp; omega) (fun k hk => ?_), Or.inr ⟨by omega, h⟩⟩
  simp [Value.ownBlock] at hk
  subst hk
  exact (own_row ho).2.1

set_option maxHeartbeats 1000000 in
theorem long_neg (a : Int) (h0 : -170141183460469231731687303715884105728 ≤ a) (h1 : a < 170141183460469231731687303715884105728) (hneg : a < 0) (w : World) :
    Calls Try.prog 25 #[.agg #[.int .i64 (hi a), .int .u64 (lo a)]] w fun e w' => ∃ b cap, e = .returned (.slice (some ⟨b, 0, none⟩) 32 cap) ∧ d32.Made w w' b a := by
  have HB : Hid (128 ≤ dg a 15) := (d16.dg15 a h0 h1).2 hneg
  have UP : Hid _ := fun t ht => up_neg a h0 hneg t ht
  obtain ⟨i0, hi0, hz0, hz1, hz2⟩ := info_parts infoInt
  clear h0 h1 hneg
  go_enter Try.func25, Try.ntmps25
  go_wp2_with (first
    | (go_at_call 48; refine (d16.rof_any a rfl rfl _).mono ?_; rintro e w1 ⟨b, rfl, hm⟩)
    | (go_at_call 44; refine (d16.below_yes a b _ hm.row (by have := HB.out; omega)).mono ?_; rintro e w2 ⟨rfl, hw⟩; have hw := hw.symm; subst hw))
  go_loopw [3] (fun v wr => LongRel w a v wr) (fun v _ => 32 - slen v)
  case atStart => exact ⟨16, by omega, by omega, ((Below.refl _ _).alloc (Nat.le_refl _) _).trans (hm.below.mono (by simp)), Or.inl ⟨rfl, b, rfl, hm.row, by have := hm.old; simp at this; omega, hm.size⟩⟩
  case round =>
    clear hm HB
    obtain ⟨t, ht, ht2, bel, ⟨rfl, b', rfl, row, hb1, hb2⟩ | ⟨h17, hown⟩⟩ := hrel
    · have hold := hold16 row hb2
      have HF : Hid _ := fun v w1 h hg => longRel_first (w := w) (wr := wr) (w1 := w1) (a := a) (d := 255) (v := v) 3 (UP.out 16 (by omega)) bel h hg
      clear row
      go_wp2_with (first
        | (at_builtin; refine wpList_append_grows _ rfl (.tmp 12) (.tmp 14) 51 rfl 3 i0 (.int .i64 0) 1 8 Try.underlying51 hi0 hz0 hz1 hz2 rfl (by decide) (some ⟨b', 0, none⟩) 16 16 (dcells 16 a) rfl (by intro e; cases e) (by rw [dcells_length]) (hold _) ⟨wr.heap.size, 0, none⟩ 1 1 [.int .i64 255] rfl rfl (cell_one_new _ _ _) (ints_oneCell .i64 [255]) (by decide) (by decide) (by decide) ?_; intro v1 w1 hown1 hgrow1)
        | go_in)
      go_roundw
      case rel => exact HF.out v1 w1 hown1 hgrow1
      case measure =>
        obtain ⟨g, cap, rfl, _, _⟩ := hown1.form (by omega)
        rw [slen_slice, slen_slice]; decide
    · obtain ⟨g, cap, rfl, hg1, hg2⟩ := hown.form (by omega)
      by_cases hlt : t < 32
      · have hl : (t : Int) < 32 := by omega
        have HF : Hid _ := fun g' cap' w1 h hg => longRel_more (w := w) (wr := wr) (w1 := w1) (a := a) (d := 255) (g := g) (g' := g') (cap := cap) (cap' := cap') 3 h17 hlt (UP.out t (by omega)) bel hown h hg
        have hs := bel.size
        go_wp2_with (first
          | (at_builtin; refine wpList_append_lies _ rfl (.tmp 12) (.tmp 14) 51 rfl w.heap.size 3 i0 (.int .i64 0) 1 8 Try.underlying51 hi0 hz0 hz1 hz2 rfl (by decide) (.slice (some ⟨g, 0, none⟩) t cap) t (dcells t a) rfl (hown.alloc _) ⟨wr.heap.size, 0, none⟩ 1 1 [.int .i64 255] rfl rfl (cell_one_new _ _ _) (ints_oneCell .i64 [255]) (by decide) (by unfold maxLen; omega) (by omega) (by simp; omega) _ rfl ?_; intro g' cap' w1 hown1 hgrow1 hat1 hlt1)
          | go_in)
        go_roundw
        case rel => exact HF.out g' cap' w1 hown1 hgrow1
        case measure => rw [slen_slice, slen_slice]; omega
      · obtain rfl : t = 32 := by omega
        obtain ⟨row, ho1, ho2⟩ := own_row hown
        go_wp2
        go_ret
        exact ⟨g, cap, rfl, row, ho1, ho2 (by omega), bel⟩
set_option maxHeartbeats 1000000 in
theorem long_pos (a : Int) (h0 : -170141183460469231731687303715884105728 ≤ a) (h1 : a < 170141183460469231731687303715884105728) (hneg : 0 ≤ a) (w : World) :
    Calls Try.prog 25 #[.agg #[.int .i64 (hi a), .int .u64 (lo a)]] w fun e w' => ∃ b cap, e = .returned (.slice (some ⟨b, 0, none⟩) 32 cap) ∧ d32.Made w w' b a := by
  have HB : Hid (¬ 128 ≤ dg a 15) := fun h => by have := (d16.dg15 a h0 h1).1 h; omega
  have UP : Hid _ := fun t ht => up_pos a hneg h1 t ht
  obtain ⟨i0, hi0, hz0, hz1, hz2⟩ := info_parts infoInt
  clear h0 h1 hneg
  go_enter Try.func25, Try.ntmps25
  go_wp2_with (first
    | (go_at_call 48; refine (d16.rof_any a rfl rfl _).mono ?_; rintro e w1 ⟨b, rfl, hm⟩)
    | (go_at_call 44; refine (d16.below_no a b _ hm.row (by have := HB.out; omega)).mono ?_; rintro e w2 ⟨rfl, hw⟩; have hw := hw.symm; subst hw))
  go_loopw [3] (fun v wr => LongRel w a v wr) (fun v _ => 32 - slen v)
  case atStart => exact ⟨16, by omega, by omega, ((Below.refl _ _).alloc (Nat.le_refl _) _).trans (hm.below.mono (by simp)), Or.inl ⟨rfl, b, rfl, hm.row, by have := hm.old; simp at this; omega, hm.size⟩⟩
  case round =>
    clear hm HB
    obtain ⟨t, ht, ht2, bel, ⟨rfl, b', rfl, row, hb1, hb2⟩ | ⟨h17, hown⟩⟩ := hrel
    · have hold := hold16 row hb2
      have HF : Hid _ := fun v w1 h hg => longRel_first (w := w) (wr := wr) (w1 := w1) (a := a) (d := 0) (v := v) 3 (UP.out 16 (by omega)) bel h hg
      clear row
      go_wp2_with (first
        | (at_builtin; refine wpList_append_grows _ rfl (.tmp 12) (.tmp 14) 51 rfl 3 i0 (.int .i64 0) 1 8 Try.underlying51 hi0 hz0 hz1 hz2 rfl (by decide) (some ⟨b', 0, none⟩) 16 16 (dcells 16 a) rfl (by intro e; cases e) (by rw [dcells_length]) (hold _) ⟨wr.heap.size, 0, none⟩ 1 1 [.int .i64 0] rfl rfl (cell_one_new _ _ _) (ints_oneCell .i64 [0]) (by decide) (by decide) (by decide) ?_; intro v1 w1 hown1 hgrow1)
        | go_in)
      go_roundw
      case rel => exact HF.out v1 w1 hown1 hgrow1
      case measure =>
        obtain ⟨g, cap, rfl, _, _⟩ := hown1.form (by omega)
        rw [slen_slice, slen_slice]; decide
    · obtain ⟨g, cap, rfl, hg1, hg2⟩ := hown.form (by omega)
      by_cases hlt : t < 32
      · have hl : (t : Int) < 32 := by omega
        have HF : Hid _ := fun g' cap' w1 h hg => longRel_more (w := w) (wr := wr) (w1 := w1) (a := a) (d := 0) (g := g) (g' := g') (cap := cap) (cap' := cap') 3 h17 hlt (UP.out t (by omega)) bel hown h hg
        have hs := bel.size
        go_wp2_with (first
          | (at_builtin; refine wpList_append_lies _ rfl (.tmp 12) (.tmp 14) 51 rfl w.heap.size 3 i0 (.int .i64 0) 1 8 Try.underlying51 hi0 hz0 hz1 hz2 rfl (by decide) (.slice (some ⟨g, 0, none⟩) t cap) t (dcells t a) rfl (hown.alloc _) ⟨wr.heap.size, 0, none⟩ 1 1 [.int .i64 0] rfl rfl (cell_one_new _ _ _) (ints_oneCell .i64 [0]) (by decide) (by unfold maxLen; omega) (by omega) (by simp; omega) _ rfl ?_; intro g' cap' w1 hown1 hgrow1 hat1 hlt1)
          | go_in)
        go_roundw
        case rel => exact HF.out g' cap' w1 hown1 hgrow1
        case measure => rw [slen_slice, slen_slice]; omega
      · obtain rfl : t = 32 := by omega
        obtain ⟨row, ho1, ho2⟩ := own_row hown
        go_wp2
        go_ret
        exact ⟨g, cap, rfl, row, ho1, ho2 (by omega), bel⟩
theorem rlong_any {ah al : Int} (a : Int) (ha : ah = hi a) (hal : al = lo a) (h0 : -170141183460469231731687303715884105728 ≤ a) (h1 : a < 170141183460469231731687303715884105728) (w : World) :
    Calls Try.prog 25 #[.agg #[.int .i64 ah, .int .u64 al]] w fun e w' => ∃ b cap, e = .returned (.slice (some ⟨b, 0, none⟩) 32 cap) ∧ d32.Made w w' b a := by
  subst ha hal
  rcases Int.lt_or_le a 0 with h | h
  · exact long_neg a h0 h1 h w
  · exact long_pos a h0 h1 h w
end Go.Proofs.Ytlelbhiebmdnoaa.lq

namespace Go.Proofs.Ytlelbhiebmdnoaa.lq
open Go.RowKit
set_option linter.unusedVariables false

/-- Four words, each as far as the digits from place k on make it. -/
def qpart (k : Nat) (v : Int) : List Value := (List.range 4).map fun j => .int .u64 (q.dg v j / 256 ^ (k - 8 * j))
theorem qpart_at (k : Nat) (v : Int) (j : Nat) (h : j < 4) : (qpart k v)[j]? = some (.int .u64 (q.dg v j / 256 ^ (k - 8 * j))) := by simp [qpart, h]
theorem qpart_length (k : Nat) (v : Int) : (qpart k v).length = 4 := by simp [qpart]
theorem pow_ge (u : Int) (t : Nat) (h0 : 0 ≤ u) (h1 : u < 18446744073709551616) (ht : 8 ≤ t) : u / 256 ^ t = 0 := by
  obtain ⟨d, rfl⟩ : ∃ d, t = 8 + d := ⟨t - 8, by omega⟩
  refine Int.ediv_eq_zero_of_lt h0 ?_
  have hd := p256 d
  have e : (256 : Int) ^ 8 = 18446744073709551616 := by decide
  rw [Int.pow_add, e]
  have := Int.mul_le_mul_of_nonneg_left (show (1 : Int) ≤ 256 ^ d by omega) (show (0 : Int) ≤ 18446744073709551616 by decide)
  omega
theorem qpart_start (v : Int) : qpart 32 v = q.dcells 4 0 := by
  unfold qpart q.dcells
  refine List.map_congr_left fun j hj => ?_
  have : j < 4 := by simpa using hj
  obtain ⟨a, b⟩ := q.dg_range v j
  rw [pow_ge _ _ a b (by omega), qdg_0]
theorem qpart_end (v : Int) : qpart 0 v = q.dcells 4 v := by
  unfold qpart q.dcells
  refine List.map_congr_left fun j hj => ?_
  simp
theorem qpart_set (k : Nat) (v : Int) (hk : k < 32) : (qpart (k + 1) v).set (k / 8) (.int .u64 (q.dg v (k / 8) / 256 ^ (k % 8))) = qpart k v := by
  refine List.ext_getElem? fun j => ?_
  rw [List.getElem?_set]
  by_cases e : k / 8 = j
  · subst e
    rw [if_pos rfl, if_pos (by rw [qpart_length]; omega), qpart_at _ _ _ (by omega), show k - 8 * (k / 8) = k % 8 by omega]
  · rw [if_neg e]
    by_cases h : j < 4
    · rw [qpart_at _ _ _ h, qpart_at _ _ _ h]
      obtain ⟨a, b⟩ := q.dg_range v j
      rcases Nat.lt_or_ge j (k / 8) with l | l
      · rw [pow_ge _ _ a b (by omega), pow_ge _ _ a b (by omega)]
      · rw [show k + 1 - 8 * j = 0 by omega, show k - 8 * j = 0 by omega]
    · rw [List.getElem?_eq_none (by rw [qpart_length]; omega), List.getElem?_eq_none (by rw [qpart_length]; omega)]
theorem word_step (u : Int) (t : Nat) (h0 : 0 ≤ u) : u / 256 ^ (t + 1) * 256 + u / 256 ^ t % 256 = u / 256 ^ t ∧ 0 ≤ u / 256 ^ (t + 1) ∧ u / 256 ^ t ≤ u := by
  have e : u / 256 ^ (t + 1) = u / 256 ^ t / 256 := by
    have hp := p256 t
    rw [Int.pow_succ, Int.ediv_ediv, if_neg (by omega)]; omega
  have := div_le u t h0
  rw [e]; omega

structure QQRel (w : World) (v : Int) (k : Nat) (wr : World) : Prop where
  rz : Row wr w.heap.size (q.dcells 4 0)
  ro : Row wr (w.heap.size + 1) (qpart k v)
  bel : Below w.heap.size w wr
  size : w.heap.size + 1 < wr.heap.size
theorem qqRel_start (w : World) (v : Int) (t : TypeId) : QQRel w v 32 ((w.alloc (.cells #[.int .u64 0, .int .u64 0, .int .u64 0, .int .u64 0] t)).alloc (.cells #[.int .u64 0, .int .u64 0, .int .u64 0, .int .u64 0] t)) := by
  have h0 := (Row.new w [.int .u64 0, .int .u64 0, .int .u64 0, .int .u64 0] t).alloc (.cells #[.int .u64 0, .int .u64 0, .int .u64 0, .int .u64 0] t) (by simp)
  have h1 := Row.new (w.alloc (.cells #[.int .u64 0, .int .u64 0, .int .u64 0, .int .u64 0] t)) [.int .u64 0, .int .u64 0, .int .u64 0, .int .u64 0] t
  rw [World.size_alloc] at h1
  exact ⟨h0.cells qcells_0.symm, h1.cells (by rw [qpart_start, qcells_0]), ((Below.refl _ _).alloc (Nat.le_refl _) _).alloc (by simp) _, by simp⟩
theorem qqRel_next {w wr : World} {v d : Int} {k : Nat} (h : QQRel w v (k + 1) wr) (hk : k < 32) (e : d = q.dg v (k / 8) / 256 ^ (k % 8)) : QQRel w v k ((wr.setCell ⟨w.heap.size + 1, k / 8, none⟩ (.int .u64 d)).drew) := by
  subst e
  exact ⟨(h.rz.other _ (by omega)).drew, ((h.ro.set (k / 8) _ (by rw [qpart_length]; omega)).cells (qpart_set _ _ hk)).drew, (h.bel.setCell (by show _ ≤ w.heap.size + 1; omega) _).drew, by simpa using h.size⟩

set_option maxHeartbeats 1000000 in
theorem rquad_any (v : Int) (b : Nat) {cap : Nat} (w : World) (r : Row w b (dcells 32 v)) (hb : b < w.heap.size) :
    Calls Try.prog 24 #[.slice (some ⟨b, 0, none⟩) 32 cap] w fun e w' => e = .returned (.agg #[.int .u64 (q.dg (v) 0), .int .u64 (q.dg (v) 1), .int .u64 (q.dg (v) 2), .int .u64 (q.dg (v) 3)]) ∧ Below w.heap.size w w' := by
  go_enter Try.func24, Try.ntmps24
  go_wp2
  go_loopw [4] (fun i wr => ∃ k : Nat, k ≤ 32 ∧ i = .int .i64 ((k : Int) - 1) ∧ QQRel w v k wr) (fun i _ => (intOf i + 1).toNat)
  case atStart => exact ⟨32, by omega, rfl, qqRel_start w v 49⟩
  case round =>
    obtain ⟨k, hk, rfl, hr⟩ := hrel
    rcases k with _ | k
    · obtain ⟨rz, ro, bel, size⟩ := hr
      obtain ⟨c0, c1, c2, c3, _, _, _, _⟩ := row4 (ro.cells ((qpart_end v).trans (qcells v)))
      obtain ⟨z0, z1, z2, z3, y0, y1, y2, y3⟩ := row4 (rz.cells qcells_0)
      clear rz ro
      go_wp2
      refine bodyPost_ret (v := .agg #[.int .u64 (q.dg (v) 0), .int .u64 (q.dg (v) 1), .int .u64 (q.dg (v) 2), .int .u64 (q.dg (v) 3)]) (by simp [results, Try.results24, go_sem, *]) rfl ⟨rfl, ?_⟩
      exact (((bel.setCell (Nat.le_refl _) _).setCell (Nat.le_refl _) _).setCell (Nat.le_refl _) _).setCell (Nat.le_refl _) _
    · have hi' : (((k + 1 : Nat) : Int) - 1) = (k : Int) := by omega
      rw [hi']
      clear hi'
      have c1 : wr.cell? ⟨b, k, none⟩ = some (.int .i64 (dg v k)) := (hr.bel.cell (p := ⟨b, k, none⟩) hb).trans (r.cell k _ (dcells_at _ _ _ (by omega)))
      have c2 := hr.ro.cell (k / 8) _ (qpart_at (k + 1) v (k / 8) (by omega))
      have c3 : wr.frozen? ⟨w.heap.size + 1, k / 8, none⟩ = false := hr.ro.free (k / 8) (by rw [qpart_length]; omega)
      rw [show k + 1 - 8 * (k / 8) = k % 8 + 1 by omega] at c2
      obtain ⟨u0, u1⟩ := q.dg_range v (k / 8)
      obtain ⟨s0, s1, s2⟩ := word_step (q.dg v (k / 8)) (k % 8) u0
      rw [word_dg] at s0
      have HN : Hid _ := fun d e => qqRel_next (d := d) hr (by omega) e
      generalize hX : q.dg v (k / 8) / 256 ^ (k % 8 + 1) = X at *
      have s3 : X * 256 + dg v k ≤ 18446744073709551615 := by omega
      have HE : Hid _ := s0
      obtain ⟨d0, d1⟩ := dg_range v k
      have hl : (k : Int) < 32 := by omega
      have hl8 : (k : Int) / 8 < 4 := by omega
      have hl0 : 0 ≤ (k : Int) / 8 := by omega
      have ht : ((k : Int) / 8).toNat = k / 8 := by omega
      clear hr s0 s2 hX u0 u1
      go_wp2
      go_region
      go_wp2
      go_roundw
      case rel => exact ⟨k, by omega, by simp, HN.out _ HE.out⟩
      case measure => simp [intOf]
end Go.Proofs.Ytlelbhiebmdnoaa.lq

namespace Go.Proofs.Ytlelbhiebmdnoaa
open Go.RowKit
set_option linter.unusedVariables false

theorem wp_append_any {P : Program} {w : World} {o : Oper} {a : Act} {K : Act → World → Prop} {Q : Exit → Act → World → Prop} (s x : Operand) (t : TypeId)
    (ho : o.op = .call { callee := .builtin .append, args := #[s, x], argTypes := #[t, t] })
    (base : Nat) (e : TypeId) (i : TypeInfo) (z : Value) (bytes : Nat) (ht : P.underlying t = some (.slice e)) (hi : P.info? e = some i) (hz : i.zero = some z)
    (hsize : i.size = 1) (hby : i.bytes = bytes) (hzs : z.cells.size = 1)
    (a0 : Option Addr) (n0 c0 : Nat) (xs : List Value) (hs : a.eval s = .slice a0 n0 c0) (hown : Own w base e a0 n0 c0 xs)
    (ao : Option Addr) (m c : Nat) (news : List Value) (hx : a.eval x = .slice ao m c) (hsl : Sl w ao m c news) (h1 : ∀ u ∈ news, u.oneCell' = true)
    (h63 : n0 + m ≤ maxLen) (hbytes : (n0 + m) * bytes ≤ 140737488355328) (hbase : base ≤ w.heap.size)
    (h : ∀ a' cap' w', Own w' base e a' (n0 + m) cap' (xs ++ news) → w.grownBy w' (Value.slice a0 n0 c0).ownBlock → K (a.put o.dst (.slice a' (n0 + m) cap')) w') : o.wp P a w K Q := by
  cases ao with
  | none =>
    obtain ⟨rfl, rfl⟩ := hsl.nil rfl
    obtain rfl : news = [] := List.eq_nil_of_length_eq_zero hsl.len
    have hrun := run_append_owned_none (P := P) (w := w) base t o.type e i 1 ht hi _ n0 xs hown
    unfold Oper.wp
    simp [execOp, ho, resolve, invoke, builtin, hs, hx, hrun, Result.andThen]
    exact h a0 c0 w (by simpa using hown) (World.grownBy.refl _ _)
  | some ad =>
    obtain ⟨v', w', hr, h2, h3, _, _⟩ := run_append_own_at (P := P) w base t o.type e i z 1 bytes ht hi hz hsize hby hzs (by decide) _ n0 xs hown ad m c news (by rw [hsl.len]; omega) (by
      intro j u hu
      have hj := (List.getElem?_eq_some_iff.1 hu).1
      obtain ⟨b, off, e1, hb, hseg⟩ := hsl.at (by have := hsl.len; omega)
      cases e1
      rw [Addr.add_lit]
      exact hseg.cell j u hu) h1 h63 hbytes hbase
    obtain ⟨a', cap', rfl, h4⟩ := Own.form h2
    unfold Oper.wp execOp
    simp only [ho, resolve, invoke, builtin, Sem.run_bind, Sem.run_pure, Result.andThen_ok, List.map_toArray, List.map_cons, List.map_nil, hs, hx, hr]
    exact h a' cap' w' h4 h3
theorem step_append_any {P : Program} {w : World} {ops : Array Oper} {o : Oper} {a : Act} {K : Act → World → Prop} {Q : Exit → Act → World → Prop} {E : Prop} (hgd : o.guard = none) (s x : Operand) (t : TypeId)
    (ho : o.op = .call { callee := .builtin .append, args := #[s, x], argTypes := #[t, t] })
    (base : Nat) (e : TypeId) (i : TypeInfo) (z : Value) (bytes : Nat) (ht : P.underlying t = some (.slice e)) (hi : P.info? e = some i) (hz : i.zero = some z)
    (hsize : i.size = 1) (hby : i.bytes = bytes) (hzs : z.cells.size = 1)
    (a0 : Option Addr) (n0 c0 : Nat) (xs : List Value) (hs : a.eval s = .slice a0 n0 c0) (hown : Own w base e a0 n0 c0 xs)
    (ao : Option Addr) (m c : Nat) (news : List Value) (hx : a.eval x = .slice ao m c) (hsl : Sl w ao m c news) (h1 : ∀ u ∈ news, u.oneCell' = true)
    (h63 : n0 + m ≤ maxLen) (hbytes : (n0 + m) * bytes ≤ 140737488355328) (hbase : base ≤ w.heap.size)
    (h : ∀ a' cap' w', Own w' base e a' (n0 + m) cap' (xs ++ news) → w.grownBy w' (Value.slice a0 n0 c0).ownBlock → K (a.put o.dst (.slice a' (n0 + m) cap')) w') :
    if Region.wanted o (yielded ops a.tmps) = true then Oper.wp P o a w K Q else E := by
  have hw : Region.wanted o (yielded ops a.tmps) = true := by simp [Region.wanted, hgd]
  rw [if_pos hw]
  exact wp_append_any s x t ho base e i z bytes ht hi hz hsize hby hzs a0 n0 c0 xs hs hown ao m c news hx hsl h1 h63 hbytes hbase h
theorem eown (w : World) (base : Nat) (T : TypeId) (hb : base ≤ w.heap.size) : Own (w.alloc (.cells #[] T)) base T (some ⟨w.heap.size, 0, none⟩) 0 0 [] := World.ownsRow_lit w #[] 0 hb (by decide) rfl
theorem Bx.grown {w w' : World} {b g : Nat} {x y : Value} (h : Bx w b x y) (hg : w.grownBy w' (some g)) (hne : b ≠ g) : Bx w' b x y := by
  have hlt : b < w.heap.size := by
    refine Nat.lt_of_not_le fun hle => ?_
    have := h.c0
    unfold World.cell? at this
    rw [Array.getElem?_eq_none hle] at this
    simp at this
  exact ⟨(hg.cell_far ⟨b, 0, none⟩ hlt (by simpa using hne)).trans h.c0, (hg.cell_far ⟨b, 1, none⟩ hlt (by simpa using hne)).trans h.c1, (hg.frozen_far ⟨b, 0, none⟩ hlt (by simpa using hne)).trans h.f0, (hg.frozen_far ⟨b, 1, none⟩ hlt (by simpa using hne)).trans h.f1⟩
end Go.Proofs.Ytlelbhiebmdnoaa

namespace Go.Proofs.Ytlelbhiebmdnoaa.lq.d32
open Go.Proofs.Ytlelbhiebmdnoaa.lq
open Go.RowKit
set_option linter.unusedVariables false

theorem dg15 (v : Int) (h0 : -57896044618658097711785492504343953926634992332820282019728792003956564819968 ≤ v) (h1 : v < 57896044618658097711785492504343953926634992332820282019728792003956564819968) : 128 ≤ dg v 31 ↔ v < 0 := by
  have e : (256 : Int) ^ 31 = 452312848583266388373324160190187140051835877600158453279131187530910662656 := by decide
  unfold dg; rw [e]; omega
theorem below_yes (v : Int) (b : Nat) {cap : Nat} (w : World) (r : Row w b (dcells 32 v)) (h : 128 ≤ dg v 31) :
    Calls Try.prog 44 #[.slice (some ⟨b, 0, none⟩) 32 cap] w fun e w' => e = .returned (.bool true) ∧ w' = w := by
  have c : w.cell? ⟨b, 31, none⟩ = some (.int .i64 (dg v 31)) := r.cell 31 _ (dcells_at _ _ _ (by decide))
  go_enter Try.func44, Try.ntmps44
  go_wp2
  go_ret
  exact ⟨rfl, rfl⟩
theorem below_no (v : Int) (b : Nat) {cap : Nat} (w : World) (r : Row w b (dcells 32 v)) (h : ¬ 128 ≤ dg v 31) :
    Calls Try.prog 44 #[.slice (some ⟨b, 0, none⟩) 32 cap] w fun e w' => e = .returned (.bool false) ∧ w' = w := by
  have c : w.cell? ⟨b, 31, none⟩ = some (.int .i64 (dg v 31)) := r.cell 31 _ (dcells_at _ _ _ (by decide))
  have hd : decide (128 ≤ dg v 31) = false := by simpa using h
  go_enter Try.func44, Try.ntmps44
  go_wp2
  go_ret
  exact ⟨rfl, rfl⟩

theorem div_step (x : Int) (k : Nat) : x / 256 ^ k = x / 256 ^ (k + 1) * 256 + dg x k := by
  have e : x / 256 ^ (k + 1) = x / 256 ^ k / 256 := by
    have hp := p256 k
    rw [Int.pow_succ, Int.ediv_ediv, if_neg (by omega)]; omega
  rw [e]; unfold dg; omega
end Go.Proofs.Ytlelbhiebmdnoaa.lq.d32

namespace Go.Proofs.Ytlelbhiebmdnoaa
open Go.RowKit
set_option linter.unusedVariables false

theorem half2 (u : Int) (k : Nat) : hf.dg u k = lq.dg u (2 * k) + 256 * lq.dg u (2 * k + 1) := by
  unfold hf.dg lq.dg
  have e : (256 : Int) ^ (2 * k) = 65536 ^ k := by rw [Int.pow_mul]; rfl
  have e2 : (256 : Int) ^ (2 * k + 1) = 65536 ^ k * 256 := by rw [Int.pow_succ, e]
  have hp : (0 : Int) < 65536 ^ k := Int.pow_pos (by decide)
  rw [e, e2]
  have : u / (65536 ^ k * 256) = u / 65536 ^ k / 256 := by rw [Int.ediv_ediv, if_neg (by omega)]; omega
  rw [this]
  omega
def RqRel (w : World) (B b U : Nat) (v i : Value) (wr : World) : Prop := ∃ (k j cap : Nat) (a : Option Addr), k ≤ 16 ∧ j = 2 * k ∧ i = .int .i64 (j : Int) ∧ v = .slice a k cap ∧ Own wr B 3 a k cap (hf.dcells k (U : Int)) ∧ Row wr b (lq.dcells 32 (U : Int)) ∧ Bx wr (w.heap.size + 1) (.int .i64 0) (.slice none 0 0) ∧ Below w.heap.size w wr ∧ B ≤ wr.heap.size
theorem Bx.grownP {w w' : World} {b : Nat} {x y : Value} {o : Option Nat} (h : Bx w b x y) (hg : w.grownBy w' o) (hne : ∀ g, o = some g → b ≠ g) : Bx w' b x y := by
  cases o with
  | none => exact h.on (Below.to hg)
  | some g => exact h.grown hg (hne g rfl)
theorem Row.grownP {w w' : World} {b : Nat} {xs : List Value} {o : Option Nat} (h : Row w b xs) (hb : b < w.heap.size) (hg : w.grownBy w' o) (hne : ∀ g, o = some g → b ≠ g) : Row w' b xs := by
  cases o with
  | none => exact h.below (Below.to hg) hb
  | some g =>
    intro j u hu
    have hn : b ≠ g := hne g rfl
    exact ⟨(hg.cell_far ⟨b, j, none⟩ hb (by simpa using hn)).trans (h j u hu).1, (hg.frozen_far ⟨b, j, none⟩ hb (by simpa using hn)).trans (h j u hu).2⟩
theorem keepC {n i j : Nat} {v1 v2 : Value} {w0 w w' : World} (h : w.cell? ⟨n, i, none⟩ = some v1 ∧ w.cell? ⟨n, j, none⟩ = some v2 ∧ Below w0.heap.size w0 w) (hb : Below w.heap.size w w') : w'.cell? ⟨n, i, none⟩ = some v1 ∧ w'.cell? ⟨n, j, none⟩ = some v2 ∧ Below w0.heap.size w0 w' :=
  ⟨cell_on hb h.1, cell_on hb h.2.1, also h.2.2 hb⟩
theorem sl_one (w : World) (y : Int) : Sl (w.alloc (.cells #[.int .i64 y] 3)) (some ⟨w.heap.size, 0, none⟩) 1 1 [.int .i64 y] := Own.sl (T := 3) (base := w.heap.size) (World.ownsRow_lit w _ 1 (Nat.le_refl _) (by decide) rfl)
set_option maxRecDepth 100000 in
set_option maxHeartbeats 800000 in
theorem rwQuad (x : Int) (h1 : -57896044618658097711785492504343953926634992332820282019728792003956564819968 ≤ x) (h2 : x < 57896044618658097711785492504343953926634992332820282019728792003956564819968) (w : World) :
    Calls Try.prog 23 #[.agg #[.int .u64 (lq.q.dg x 0), .int .u64 (lq.q.dg x 1), .int .u64 (lq.q.dg x 2), .int .u64 (lq.q.dg x 3)]] w (GotR w (fun _ => True) x) := by
  obtain ⟨i0, hi0, hz0, hz1, hz2⟩ := info_parts infoInt
  have HO : Hid _ := lq.rqof_any x (lq.wd_self x)
  obtain ⟨U, hU⟩ : ∃ U, U = x.natAbs := ⟨_, rfl⟩
  have HU16 : Hid (U < 65536 ^ 16) := by unfold Hid; rw [show (65536 : Nat) ^ 16 = 115792089237316195423570985008687907853269984665640564039457584007913129639936 from rfl]; omega
  have hD := lq.d32.dg15 x h1 h2
  have HU : Hid _ := hU
  have B0 : Below w.heap.size w ((w.alloc (.cells #[.int .u64 (lq.q.dg x 0), .int .u64 (lq.q.dg x 1), .int .u64 (lq.q.dg x 2), .int .u64 (lq.q.dg x 3)] 49)).alloc (.cells #[.int .i64 0, .slice none 0 0] 27)) := ((Below.refl _ _).alloc (Nat.le_refl _) _).alloc (by simp) _
  have xz := bx_new (w.alloc (.cells #[.int .u64 (lq.q.dg x 0), .int .u64 (lq.q.dg x 1), .int .u64 (lq.q.dg x 2), .int .u64 (lq.q.dg x 3)] 49)) (.int .i64 0) (.slice none 0 0) 27
  rw [World.size_alloc] at xz
  by_cases hx : x < 0
  · have HB : Hid (128 ≤ lq.dg x 31) := hD.2 hx
    have HX : Hid (-x = (U : Int)) := by unfold Hid; omega
    have HR : Hid (x ≠ 0 → (-1 : Int) = x.sign) := fun _ => (sign_neg hx).symm
    clear hD h1 h2 hU
    go_enter Try.func23, Try.ntmps23
    go_wp2_with (go_at_call 43; fail)
    refine (HO.out _).mono ?_
    rintro e w1 ⟨b1, rfl, m1⟩
    go_wp2_with (go_at_call 44; fail)
    refine (lq.d32.below_yes x b1 w1 m1.row HB.out).mono ?_
    rintro e w1' ⟨rfl, hw⟩; have hw := hw.symm; subst hw
    go_wp2_with (go_at_call 45; fail)
    refine (lq.d32.rneg_any x b1 w1 m1.row m1.size).mono ?_
    rintro e w2 ⟨b, rfl, m2⟩
    have row2 : Row w2 b (lq.dcells 32 (U : Int)) := by rw [← HX.out]; exact m2.row
    have B2 := also (also B0 m1.below) m2.below
    have xz2 := (xz.on m1.below).on m2.below
    have hbs := m2.size
    have hbo : w.heap.size + 1 < b := Nat.lt_of_lt_of_le (Nat.lt_of_lt_of_le (by simp) m1.below.size) m2.old
    have HST : Hid (RqRel w w2.heap.size b U (.slice (some ⟨w2.heap.size, 0, none⟩) 0 0) (.int .i64 0) (w2.alloc (.cells #[] 3))) := ⟨0, 0, 0, _, by omega, rfl, rfl, rfl, eown w2 w2.heap.size 3 (Nat.le_refl _), row2.alloc _ hbs, xz2.on ((Below.refl _ _).alloc (Nat.le_refl _) _), also B2 ((Below.refl _ _).alloc (Nat.le_refl _) _), by simp⟩
    clear row2 B2 xz2 xz B0
    go_wp2
    go_loopw [5, 6] (fun v i wr => RqRel w w2.heap.size b U v i wr) (fun _ i _ => 32 - (intOf i).toNat)
    case atStart => exact HST.out
    case round =>
      obtain ⟨k, j, cap, v, hk, hj, rfl, rfl, hown, row, xz, hbel, hsz1⟩ := hrel
      clear HST
      by_cases hlt : j < 32
      · obtain ⟨p0, p1⟩ := lq.dg_range (U : Int) j
        obtain ⟨q0, q1⟩ := lq.dg_range (U : Int) (j + 1)
        have hj1 : j + 1 < 32 := by omega
        have c0 := row.cell j _ (lq.dcells_at 32 (U : Int) j hlt)
        have c1 := row.cell (j + 1) _ (lq.dcells_at 32 (U : Int) (j + 1) hj1)
        have hd := half2 (U : Int) k
        rw [← hj] at hd
        have HS : Hid _ := hf.dcells_succ k (U : Int)
        obtain ⟨y0, e0⟩ : ∃ y, y = lq.dg (U : Int) j := ⟨_, rfl⟩
        obtain ⟨y1, e1⟩ : ∃ y, y = lq.dg (U : Int) (j + 1) := ⟨_, rfl⟩
        rw [← e0] at p0 p1 c0 hd
        rw [← e1] at q0 q1 c1 hd
        have HD0 : Hid _ := hd
        have HE0 : Hid _ := e0
        have HE1 : Hid _ := e1
        have HJ : Hid _ := hj
        have hk16 : k < 16 := by omega
        clear hd e0 e1 hj
        have E1 : IntKind.i64.wrap ((j : Int) + 1) = ((j + 1 : Nat) : Int) := by rw [IntKind.wrap_i64]; omega
        have E2 : IntKind.i64.wrap (256 * y1) = 256 * y1 := by rw [IntKind.wrap_i64]; omega
        have E3 : IntKind.i64.wrap (y0 + 256 * y1) = y0 + 256 * y1 := by rw [IntKind.wrap_i64]; omega
        have hj2 : (j : Int) + 1 < 32 := by omega
        have hj3 : 0 ≤ (j : Int) + 1 := by omega
        go_wp2
        refine wp_region_held_drew (S := (fun w' => w'.cell? ⟨b, j, none⟩ = some (.int .i64 y0) ∧ w'.cell? ⟨b, j + 1, none⟩ = some (.int .i64 y1) ∧ Below w.heap.size w w')) (by kernel_rfl) ?_ (fun hHeld => ?_)
        · first | exact ⟨c0, c1, hbel⟩ | exact ⟨c0, c1, hbel.drew⟩ | exact keepC hHeld ((Below.refl _ _).alloc (Nat.le_refl _) _)
        refine take_yes (i := 0) (v := ?vn0) rfl (by kernel_rfl) (by kernel_rfl) (by kernel_rfl) (fun _ _ _ h => h) (by rfl) (by assumption) ?hyn0 ?restn0
        case hyn0 => (intro w hSw; (try dsimp only at hSw); first | (go_simp; done) | (go_simp; with_reducible rfl))
        simp only [Act.put, List.setIfInBounds_toArray, List.set_cons_zero, List.set_cons_succ]
        refine take_yes (i := 1) (v := ?vn1) rfl (by kernel_rfl) (by kernel_rfl) (by kernel_rfl) (fun _ _ _ h => h) (by rfl) (by assumption) ?hyn1 ?restn1
        case hyn1 => (intro w hSw; (try dsimp only at hSw); first | (go_simp; done) | (go_simp; with_reducible rfl))
        simp only [Act.put, List.setIfInBounds_toArray, List.set_cons_zero, List.set_cons_succ]
        refine take_yes (i := 2) (v := ?vn2) rfl (by kernel_rfl) (by kernel_rfl) (by kernel_rfl) (fun _ _ _ h => h) (by rfl) (by assumption) ?hyn2 ?restn2
        case hyn2 => (intro w hSw; (try dsimp only at hSw); first | (go_simp; done) | (go_simp; with_reducible rfl))
        simp only [Act.put, List.setIfInBounds_toArray, List.set_cons_zero, List.set_cons_succ]
        refine take_yes (i := 3) (v := ?vn3) rfl (by kernel_rfl) (by kernel_rfl) (by kernel_rfl) (fun _ _ _ h => h) (by rfl) (by assumption) ?hyn3 ?restn3
        case hyn3 => (intro w hSw; (try dsimp only at hSw); first | (go_simp; done) | (go_simp; with_reducible rfl))
        simp only [Act.put, List.setIfInBounds_toArray, List.set_cons_zero, List.set_cons_succ]
        refine take_yes (i := 4) (v := ?vn4) rfl (by kernel_rfl) (by kernel_rfl) (by kernel_rfl) (fun _ _ _ h => h) (by rfl) (by assumption) ?hyn4 ?restn4
        case hyn4 => (intro w hSw; (try dsimp only at hSw); first | (go_simp; done) | (go_simp; with_reducible rfl))
        simp only [Act.put, List.setIfInBounds_toArray, List.set_cons_zero, List.set_cons_succ]
        refine take_yes (i := 5) (v := ?vn5) rfl (by kernel_rfl) (by kernel_rfl) (by kernel_rfl) (fun _ _ _ h => h) (by rfl) (by assumption) ?hyn5 ?restn5
        case hyn5 => (intro w hSw; (try dsimp only at hSw); first | (go_simp; done) | (go_simp; with_reducible rfl))
        simp only [Act.put, List.setIfInBounds_toArray, List.set_cons_zero, List.set_cons_succ]
        refine take_yes (i := 6) (v := ?vn6) rfl (by kernel_rfl) (by kernel_rfl) (by kernel_rfl) (fun _ _ _ h => h) (by rfl) (by assumption) ?hyn6 ?restn6
        case hyn6 => (intro w hSw; (try dsimp only at hSw); first | (go_simp; done) | (go_simp; with_reducible rfl))
        simp only [Act.put, List.setIfInBounds_toArray, List.set_cons_zero, List.set_cons_succ]
        refine take_yes (i := 7) (v := ?vn7) rfl (by kernel_rfl) (by kernel_rfl) (by kernel_rfl) (fun _ _ _ h => h) (by rfl) (by assumption) ?hyn7 ?restn7
        case hyn7 => (intro w hSw; (try dsimp only at hSw); first | (go_simp; done) | (go_simp; with_reducible rfl))
        simp only [Act.put, List.setIfInBounds_toArray, List.set_cons_zero, List.set_cons_succ]
        refine take_yes (i := 8) (v := ?vn8) rfl (by kernel_rfl) (by kernel_rfl) (by kernel_rfl) (fun _ _ _ h => h) (by rfl) (by assumption) ?hyn8 ?restn8
        case hyn8 => (intro w hSw; (try dsimp only at hSw); first | (go_simp; done) | (go_simp; with_reducible rfl))
        simp only [Act.put, List.setIfInBounds_toArray, List.set_cons_zero, List.set_cons_succ]
        refine take_yes (i := 9) (v := ?vn9) rfl (by kernel_rfl) (by kernel_rfl) (by kernel_rfl) (fun _ _ _ h => h) (by rfl) (by assumption) ?hyn9 ?restn9
        case hyn9 => (intro w hSw; (try dsimp only at hSw); first | (go_simp; done) | (go_simp; with_reducible rfl))
        simp only [Act.put, List.setIfInBounds_toArray, List.set_cons_zero, List.set_cons_succ]
        refine take_yes (i := 10) (v := ?vn10) rfl (by kernel_rfl) (by kernel_rfl) (by kernel_rfl) (fun _ _ _ h => h) (by rfl) (by assumption) ?hyn10 ?restn10
        case hyn10 => (intro w hSw; (try dsimp only at hSw); first | (go_simp; done) | (go_simp; with_reducible rfl))
        simp only [Act.put, List.setIfInBounds_toArray, List.set_cons_zero, List.set_cons_succ]
        refine take_yes (i := 11) (v := ?vn11) rfl (by kernel_rfl) (by kernel_rfl) (by kernel_rfl) (fun _ _ _ h => h) (by rfl) (by assumption) ?hyn11 ?restn11
        case hyn11 => (intro w hSw; (try dsimp only at hSw); first | (go_simp; done) | (go_simp; with_reducible rfl))
        simp only [Act.put, List.setIfInBounds_toArray, List.set_cons_zero, List.set_cons_succ]
        refine take_call (i := 12) rfl (by kernel_rfl) (fun K hK => ?_)
        go_simp
        refine hK.out _ _ ?_ (fun hHeld => ?_)
        · first | exact ⟨c0, c1, hbel⟩ | exact ⟨c0, c1, hbel.drew⟩ | exact keepC hHeld ((Below.refl _ _).alloc (Nat.le_refl _) _)
        clear hK K
        have hsl := sl_one wr.drew (y0 + 256 * y1)
        have bel3 : Below wr.heap.size wr (wr.drew.alloc (.cells #[.int .i64 (y0 + 256 * y1)] 3)) := (Below.refl _ _).drew.alloc (Nat.le_refl _) _
        have hown' := Own.below hown bel3
        refine take_call (i := 13) rfl (by kernel_rfl) (fun K hK => ?_)
        refine step_append_any rfl (.tmp 18) (.tmp 30) 24 rfl w2.heap.size 3 i0 (.int .i64 0) 8 Try.underlying24 hi0 hz0 hz1 hz2 rfl v k cap _ rfl hown' _ 1 1 [.int .i64 (y0 + 256 * y1)] rfl hsl (by intro u hu; simp at hu; subst hu; rfl) (by unfold maxLen; omega) (by omega) (Nat.le_trans hsz1 (by simp)) ?_; intro a2 cap2 w4 hown4 hgrow4; have hne : ∀ g, (Value.slice v k cap).ownBlock = some g → w2.heap.size ≤ g := fun g hg => (World.ownsRow.lt hown' g hg).1; have row4 := Row.grownP (row.below bel3 (Nat.lt_of_lt_of_le hbs hsz1)) (Nat.lt_of_lt_of_le hbs (Nat.le_trans hsz1 bel3.size)) hgrow4 (fun g hg => by have := hne g hg; omega); have bel4 := (also hbel bel3).grown hgrow4 (also hbel bel3).size (fun g hg => by have := hne g hg; have := hbel.size; omega); have xz4 := Bx.grownP (xz.on bel3) hgrow4 (fun g hg => by have := hne g hg; omega)
        refine hK.out _ _ ?_ (fun hHeld => ?_)
        · exact ⟨row4.cell _ _ (by rw [HE0.out]; exact lq.dcells_at _ _ _ hlt), row4.cell _ _ (by rw [HE1.out]; exact lq.dcells_at _ _ _ hj1), bel4⟩
        clear hK K
        refine take_yes (i := 14) (v := ?vn14) rfl (by kernel_rfl) (by kernel_rfl) (by kernel_rfl) (fun _ _ _ h => h) (by rfl) (by assumption) ?hyn14 ?restn14
        case hyn14 => (intro w hSw; (try dsimp only at hSw); first | (go_simp; done) | (go_simp; with_reducible rfl))
        simp only [Act.put, List.setIfInBounds_toArray, List.set_cons_zero, List.set_cons_succ]
        refine wpAnyH_done (by kernel_rfl) ?_ _
        go_wp2
        go_roundw
        case rel => exact ⟨k + 1, j + 2, cap2, a2, by omega, by have := HJ.out; omega, by simp, rfl, by rw [HS.out, HD0.out]; exact hown4, row4, xz4, bel4, Nat.le_trans hsz1 (Nat.le_trans bel3.size hgrow4.size)⟩
        case measure => simp [intOf]; omega
      · obtain rfl : k = 16 := by omega
        obtain rfl : j = 32 := by omega
        have hf0 := Own.far hown
        go_wp2_with (go_at_call 47; fail)
        refine (rtrim_own v 16 cap U w2.heap.size wr hown HU16.out).mono ?_
        rintro e w5 ⟨rfl, hw, hown5⟩; subst hw
        have hf5 := Own.far hown5
        go_wp2_with (go_at_call 46; fail)
        refine (rwMake (-1) v (hf.nlen U) cap U x wr ⟨Own.sl hown5, rfl⟩ HU.out HR.out).mono ?_
        rintro e w6 ⟨s6, d6, l6, c6, rfl, h6, f6, b6⟩
        obtain ⟨k0, k1, k2, k3⟩ := xz.on b6
        have hsz0 := hbel.size
        go_wp2
        exact bodyPost_ret (v := .agg #[.int .i64 s6, .slice d6 l6 c6]) (by simp [results, Try.results23, go_sem, *]) rfl (endR _ (by omega) (also hbel b6) h6 (f6 _ (by omega) (hf5 _ (by omega))) (fun i hi _ => f6 i (by omega) (hf5 i (by omega))) _ _)
  · have HB : Hid (¬ 128 ≤ lq.dg x 31) := fun h => hx (hD.1 h)
    have HX : Hid (x = (U : Int)) := by unfold Hid; omega
    have HR : Hid (x ≠ 0 → (1 : Int) = x.sign) := fun h => (sign_pos (by omega)).symm
    clear hD h1 h2 hU
    go_enter Try.func23, Try.ntmps23
    go_wp2_with (go_at_call 43; fail)
    refine (HO.out _).mono ?_
    rintro e w2 ⟨b, rfl, m1⟩
    go_wp2_with (go_at_call 44; fail)
    refine (lq.d32.below_no x b w2 m1.row (fun h => by have := HB.out; omega)).mono ?_
    rintro e w1' ⟨rfl, hw⟩; have hw := hw.symm; subst hw
    have row2 : Row w2 b (lq.dcells 32 (U : Int)) := by rw [← HX.out]; exact m1.row
    have B2 := also B0 m1.below
    have xz2 := xz.on m1.below
    have hbs := m1.size
    have hbo : w.heap.size + 1 < b := Nat.lt_of_lt_of_le (by simp) m1.old
    have HST : Hid (RqRel w w2.heap.size b U (.slice (some ⟨w2.heap.size, 0, none⟩) 0 0) (.int .i64 0) (w2.alloc (.cells #[] 3))) := ⟨0, 0, 0, _, by omega, rfl, rfl, rfl, eown w2 w2.heap.size 3 (Nat.le_refl _), row2.alloc _ hbs, xz2.on ((Below.refl _ _).alloc (Nat.le_refl _) _), also B2 ((Below.refl _ _).alloc (Nat.le_refl _) _), by simp⟩
    clear row2 B2 xz2 xz B0
    go_wp2
    go_loopw [5, 6] (fun v i wr => RqRel w w2.heap.size b U v i wr) (fun _ i _ => 32 - (intOf i).toNat)
    case atStart => exact HST.out
    case round =>
      obtain ⟨k, j, cap, v, hk, hj, rfl, rfl, hown, row, xz, hbel, hsz1⟩ := hrel
      clear HST
      by_cases hlt : j < 32
      · obtain ⟨p0, p1⟩ := lq.dg_range (U : Int) j
        obtain ⟨q0, q1⟩ := lq.dg_range (U : Int) (j + 1)
        have hj1 : j + 1 < 32 := by omega
        have c0 := row.cell j _ (lq.dcells_at 32 (U : Int) j hlt)
        have c1 := row.cell (j + 1) _ (lq.dcells_at 32 (U : Int) (j + 1) hj1)
        have hd := half2 (U : Int) k
        rw [← hj] at hd
        have HS : Hid _ := hf.dcells_succ k (U : Int)
        obtain ⟨y0, e0⟩ : ∃ y, y = lq.dg (U : Int) j := ⟨_, rfl⟩
        obtain ⟨y1, e1⟩ : ∃ y, y = lq.dg (U : Int) (j + 1) := ⟨_, rfl⟩
        rw [← e0] at p0 p1 c0 hd
        rw [← e1] at q0 q1 c1 hd
        have HD0 : Hid _ := hd
        have HE0 : Hid _ := e0
        have HE1 : Hid _ := e1
        have HJ : Hid _ := hj
        have hk16 : k < 16 := by omega
        clear hd e0 e1 hj
        have E1 : IntKind.i64.wrap ((j : Int) + 1) = ((j + 1 : Nat) : Int) := by rw [IntKind.wrap_i64]; omega
        have E2 : IntKind.i64.wrap (256 * y1) = 256 * y1 := by rw [IntKind.wrap_i64]; omega
        have E3 : IntKind.i64.wrap (y0 + 256 * y1) = y0 + 256 * y1 := by rw [IntKind.wrap_i64]; omega
        have hj2 : (j : Int) + 1 < 32 := by omega
        have hj3 : 0 ≤ (j : Int) + 1 := by omega
        go_wp2
        refine wp_region_held_drew (S := (fun w' => w'.cell? ⟨b, j, none⟩ = some (.int .i64 y0) ∧ w'.cell? ⟨b, j + 1, none⟩ = some (.int .i64 y1) ∧ Below w.heap.size w w')) (by kernel_rfl) ?_ (fun hHeld => ?_)
        · first | exact ⟨c0, c1, hbel⟩ | exact ⟨c0, c1, hbel.drew⟩ | exact keepC hHeld ((Below.refl _ _).alloc (Nat.le_refl _) _)
        refine take_yes (i := 0) (v := ?vp0) rfl (by kernel_rfl) (by kernel_rfl) (by kernel_rfl) (fun _ _ _ h => h) (by rfl) (by assumption) ?hyp0 ?restp0
        case hyp0 => (intro w hSw; (try dsimp only at hSw); first | (go_simp; done) | (go_simp; with_reducible rfl))
        simp only [Act.put, List.setIfInBounds_toArray, List.set_cons_zero, List.set_cons_succ]
        refine take_yes (i := 1) (v := ?vp1) rfl (by kernel_rfl) (by kernel_rfl) (by kernel_rfl) (fun _ _ _ h => h) (by rfl) (by assumption) ?hyp1 ?restp1
        case hyp1 => (intro w hSw; (try dsimp only at hSw); first | (go_simp; done) | (go_simp; with_reducible rfl))
        simp only [Act.put, List.setIfInBounds_toArray, List.set_cons_zero, List.set_cons_succ]
        refine take_yes (i := 2) (v := ?vp2) rfl (by kernel_rfl) (by kernel_rfl) (by kernel_rfl) (fun _ _ _ h => h) (by rfl) (by assumption) ?hyp2 ?restp2
        case hyp2 => (intro w hSw; (try dsimp only at hSw); first | (go_simp; done) | (go_simp; with_reducible rfl))
        simp only [Act.put, List.setIfInBounds_toArray, List.set_cons_zero, List.set_cons_succ]
        refine take_yes (i := 3) (v := ?vp3) rfl (by kernel_rfl) (by kernel_rfl) (by kernel_rfl) (fun _ _ _ h => h) (by rfl) (by assumption) ?hyp3 ?restp3
        case hyp3 => (intro w hSw; (try dsimp only at hSw); first | (go_simp; done) | (go_simp; with_reducible rfl))
        simp only [Act.put, List.setIfInBounds_toArray, List.set_cons_zero, List.set_cons_succ]
        refine take_yes (i := 4) (v := ?vp4) rfl (by kernel_rfl) (by kernel_rfl) (by kernel_rfl) (fun _ _ _ h => h) (by rfl) (by assumption) ?hyp4 ?restp4
        case hyp4 => (intro w hSw; (try dsimp only at hSw); first | (go_simp; done) | (go_simp; with_reducible rfl))
        simp only [Act.put, List.setIfInBounds_toArray, List.set_cons_zero, List.set_cons_succ]
        refine take_yes (i := 5) (v := ?vp5) rfl (by kernel_rfl) (by kernel_rfl) (by kernel_rfl) (fun _ _ _ h => h) (by rfl) (by assumption) ?hyp5 ?restp5
        case hyp5 => (intro w hSw; (try dsimp only at hSw); first | (go_simp; done) | (go_simp; with_reducible rfl))
        simp only [Act.put, List.setIfInBounds_toArray, List.set_cons_zero, List.set_cons_succ]
        refine take_yes (i := 6) (v := ?vp6) rfl (by kernel_rfl) (by kernel_rfl) (by kernel_rfl) (fun _ _ _ h => h) (by rfl) (by assumption) ?hyp6 ?restp6
        case hyp6 => (intro w hSw; (try dsimp only at hSw); first | (go_simp; done) | (go_simp; with_reducible rfl))
        simp only [Act.put, List.setIfInBounds_toArray, List.set_cons_zero, List.set_cons_succ]
        refine take_yes (i := 7) (v := ?vp7) rfl (by kernel_rfl) (by kernel_rfl) (by kernel_rfl) (fun _ _ _ h => h) (by rfl) (by assumption) ?hyp7 ?restp7
        case hyp7 => (intro w hSw; (try dsimp only at hSw); first | (go_simp; done) | (go_simp; with_reducible rfl))
        simp only [Act.put, List.setIfInBounds_toArray, List.set_cons_zero, List.set_cons_succ]
        refine take_yes (i := 8) (v := ?vp8) rfl (by kernel_rfl) (by kernel_rfl) (by kernel_rfl) (fun _ _ _ h => h) (by rfl) (by assumption) ?hyp8 ?restp8
        case hyp8 => (intro w hSw; (try dsimp only at hSw); first | (go_simp; done) | (go_simp; with_reducible rfl))
        simp only [Act.put, List.setIfInBounds_toArray, List.set_cons_zero, List.set_cons_succ]
        refine take_yes (i := 9) (v := ?vp9) rfl (by kernel_rfl) (by kernel_rfl) (by kernel_rfl) (fun _ _ _ h => h) (by rfl) (by assumption) ?hyp9 ?restp9
        case hyp9 => (intro w hSw; (try dsimp only at hSw); first | (go_simp; done) | (go_simp; with_reducible rfl))
        simp only [Act.put, List.setIfInBounds_toArray, List.set_cons_zero, List.set_cons_succ]
        refine take_yes (i := 10) (v := ?vp10) rfl (by kernel_rfl) (by kernel_rfl) (by kernel_rfl) (fun _ _ _ h => h) (by rfl) (by assumption) ?hyp10 ?restp10
        case hyp10 => (intro w hSw; (try dsimp only at hSw); first | (go_simp; done) | (go_simp; with_reducible rfl))
        simp only [Act.put, List.setIfInBounds_toArray, List.set_cons_zero, List.set_cons_succ]
        refine take_yes (i := 11) (v := ?vp11) rfl (by kernel_rfl) (by kernel_rfl) (by kernel_rfl) (fun _ _ _ h => h) (by rfl) (by assumption) ?hyp11 ?restp11
        case hyp11 => (intro w hSw; (try dsimp only at hSw); first | (go_simp; done) | (go_simp; with_reducible rfl))
        simp only [Act.put, List.setIfInBounds_toArray, List.set_cons_zero, List.set_cons_succ]
        refine take_call (i := 12) rfl (by kernel_rfl) (fun K hK => ?_)
        go_simp
        refine hK.out _ _ ?_ (fun hHeld => ?_)
        · first | exact ⟨c0, c1, hbel⟩ | exact ⟨c0, c1, hbel.drew⟩ | exact keepC hHeld ((Below.refl _ _).alloc (Nat.le_refl _) _)
        clear hK K
        have hsl := sl_one wr.drew (y0 + 256 * y1)
        have bel3 : Below wr.heap.size wr (wr.drew.alloc (.cells #[.int .i64 (y0 + 256 * y1)] 3)) := (Below.refl _ _).drew.alloc (Nat.le_refl _) _
        have hown' := Own.below hown bel3
        refine take_call (i := 13) rfl (by kernel_rfl) (fun K hK => ?_)
        refine step_append_any rfl (.tmp 18) (.tmp 30) 24 rfl w2.heap.size 3 i0 (.int .i64 0) 8 Try.underlying24 hi0 hz0 hz1 hz2 rfl v k cap _ rfl hown' _ 1 1 [.int .i64 (y0 + 256 * y1)] rfl hsl (by intro u hu; simp at hu; subst hu; rfl) (by unfold maxLen; omega) (by omega) (Nat.le_trans hsz1 (by simp)) ?_; intro a2 cap2 w4 hown4 hgrow4; have hne : ∀ g, (Value.slice v k cap).ownBlock = some g → w2.heap.size ≤ g := fun g hg => (World.ownsRow.lt hown' g hg).1; have row4 := Row.grownP (row.below bel3 (Nat.lt_of_lt_of_le hbs hsz1)) (Nat.lt_of_lt_of_le hbs (Nat.le_trans hsz1 bel3.size)) hgrow4 (fun g hg => by have := hne g hg; omega); have bel4 := (also hbel bel3).grown hgrow4 (also hbel bel3).size (fun g hg => by have := hne g hg; have := hbel.size; omega); have xz4 := Bx.grownP (xz.on bel3) hgrow4 (fun g hg => by have := hne g hg; omega)
        refine hK.out _ _ ?_ (fun hHeld => ?_)
        · exact ⟨row4.cell _ _ (by rw [HE0.out]; exact lq.dcells_at _ _ _ hlt), row4.cell _ _ (by rw [HE1.out]; exact lq.dcells_at _ _ _ hj1), bel4⟩
        clear hK K
        refine take_yes (i := 14) (v := ?vp14) rfl (by kernel_rfl) (by kernel_rfl) (by kernel_rfl) (fun _ _ _ h => h) (by rfl) (by assumption) ?hyp14 ?restp14
        case hyp14 => (intro w hSw; (try dsimp only at hSw); first | (go_simp; done) | (go_simp; with_reducible rfl))
        simp only [Act.put, List.setIfInBounds_toArray, List.set_cons_zero, List.set_cons_succ]
        refine wpAnyH_done (by kernel_rfl) ?_ _
        go_wp2
        go_roundw
        case rel => exact ⟨k + 1, j + 2, cap2, a2, by omega, by have := HJ.out; omega, by simp, rfl, by rw [HS.out, HD0.out]; exact hown4, row4, xz4, bel4, Nat.le_trans hsz1 (Nat.le_trans bel3.size hgrow4.size)⟩
        case measure => simp [intOf]; omega
      · obtain rfl : k = 16 := by omega
        obtain rfl : j = 32 := by omega
        have hf0 := Own.far hown
        go_wp2_with (go_at_call 47; fail)
        refine (rtrim_own v 16 cap U w2.heap.size wr hown HU16.out).mono ?_
        rintro e w5 ⟨rfl, hw, hown5⟩; subst hw
        have hf5 := Own.far hown5
        go_wp2_with (go_at_call 46; fail)
        refine (rwMake (1) v (hf.nlen U) cap U x wr ⟨Own.sl hown5, rfl⟩ HU.out HR.out).mono ?_
        rintro e w6 ⟨s6, d6, l6, c6, rfl, h6, f6, b6⟩
        obtain ⟨k0, k1, k2, k3⟩ := xz.on b6
        have hsz0 := hbel.size
        go_wp2
        exact bodyPost_ret (v := .agg #[.int .i64 s6, .slice d6 l6 c6]) (by simp [results, Try.results23, go_sem, *]) rfl (endR _ (by omega) (also hbel b6) h6 (f6 _ (by omega) (hf5 _ (by omega))) (fun i hi _ => f6 i (by omega) (hf5 i (by omega))) _ _)
end Go.Proofs.Ytlelbhiebmdnoaa

namespace Go.Proofs.Ytlelbhiebmdnoaa
open Go.RowKit
set_option linter.unusedVariables false

set_option maxRecDepth 100000 in
set_option maxHeartbeats 20000000 in
theorem pWide {ah al : Int} (a : Int) (ha : ah = lw.hi a) (hal : al = lw.lo a) (hr : -10000000000000000000000000 ≤ a ∧ a ≤ 10000000000000000000000000) (w : World) : Calls Try.prog 8 #[.agg #[.int .i64 ah, .int .u64 al]] w (GotR w (fun _ => True) a) := by
  have HA : Hid (ah = lq.hi a) := ha
  have HL : Hid (al = lq.lo a) := hal
  have HR : Hid _ := hr
  clear ha hal hr
  obtain ⟨W, hW, bW, x_x, x_r, sW⟩ := bs_22 w (.int .i64 ah) (.int .u64 al) (.int .i64 0) (.slice none 0 0) 31 27
  have zbW := bW.size
  have BB := bW
  go_enter Try.func8, Try.ntmps8
  go_wp2_with (go_at_call 25; fail)
  rw [← hW]
  clear hW
  refine (lq.rlong_any a HA.out HL.out (by have := HR.out; omega) (by have := HR.out; omega) W).mono ?_
  rintro e w1 ⟨b, cap, rfl, hm⟩
  have bw1 := hm.below
  have hrow := hm.row
  have hlt := hm.size
  clear hm
  have zbw1 := bw1.size
  replace BB := also BB bw1
  replace x_x := x_x.on bw1
  replace x_r := x_r.on bw1
  go_wp2_with (go_at_call 24; fail)
  refine (lq.rquad_any a b w1 hrow hlt).mono ?_
  rintro e w2 ⟨rfl, bw2⟩
  have zbw2 := bw2.size
  replace BB := also BB bw2
  replace x_x := x_x.on bw2
  replace x_r := x_r.on bw2
  go_wp2_with (go_at_call 23; fail)
  refine (rwQuad a (by have := HR.out; omega) (by have := HR.out; omega) w2).mono ?_
  rintro e w3 ⟨s11, d11, l11, c11, rfl, r11, f11, bw3⟩
  have zbw3 := bw3.size
  replace BB := also BB bw3
  replace x_x := x_x.on bw3
  replace x_r := x_r.on bw3
  have ⟨x_r_0, x_r_1, x_r_2, x_r_3⟩ := x_r
  go_wp2
  exact bodyPost_ret (v := .agg #[.int .i64 s11, .slice d11 l11 c11]) (by simp [results, Try.results8, go_sem, *]) rfl (endR _ (by omega) BB r11 (f11 _ (by omega) trivial) (fun j hj _ => f11 j (by omega) trivial) _ _)
end Go.Proofs.Ytlelbhiebmdnoaa
