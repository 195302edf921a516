/-
  A number of 128 bits as 32 digits: its 16, and its sign's behind them.
-/
import Derived.Test.YtjlndalcaepofaaOf16
import Derived.Test.YtjlndalcaepofaaDigE16
import Derived.Test.YtjlndalcaepofaaDigB32
import Derived.Deep.AppendLies
import Derived.ArgAppend
import Derived.OwnWalk
namespace Go.Proofs.Ytjlndalcaepofaa
open Go.RowKit
set_option linter.unusedVariables false

theorem infoInt : (Try.prog.info? 3).map (fun i => (i.zero, i.size, i.bytes)) = some (some (.int .i64 0), 1, 8) := by kernel_rfl
/-- How long a slice is. -/
def slen : Value → Nat
  | .slice _ n _ => n
  | _ => 0
theorem slen_slice (a : Option Addr) (n c : Nat) : slen (.slice a n c) = n := rfl
theorem dcells_succ (t : Nat) (a : Int) : dcells (t + 1) a = dcells t a ++ [.int .i64 (dg a t)] := by
  unfold dcells; rw [List.range_succ, List.map_append]; rfl
theorem pow_big (t : Nat) (h : 16 ≤ t) : (340282366920938463463374607431768211456 : Int) ≤ 256 ^ t := by
  obtain ⟨d, rfl⟩ : ∃ d, t = 16 + d := ⟨t - 16, by omega⟩
  have e : (256 : Int) ^ 16 = 340282366920938463463374607431768211456 := by decide
  rw [Int.pow_add, e]
  have := p256 d
  have := Int.mul_le_mul_of_nonneg_left (show (1 : Int) ≤ 256 ^ d by omega) (show (0 : Int) ≤ 340282366920938463463374607431768211456 by decide)
  omega
theorem up_neg (a : Int) (h0 : -170141183460469231731687303715884105728 ≤ a) (h1 : a < 0) (t : Nat) (ht : 16 ≤ t) : (255 : Int) = dg a t := by
  have := pow_big t ht
  have e : a / 256 ^ t = -1 := by
    rw [show a = (a + 256 ^ t) + (-1) * 256 ^ t by omega, Int.add_mul_ediv_right _ _ (Int.ne_of_gt (p256 t)), Int.ediv_eq_zero_of_lt (by omega) (by omega)]
    rfl
  unfold dg; rw [e]; decide
theorem up_pos (a : Int) (h0 : 0 ≤ a) (h1 : a < 170141183460469231731687303715884105728) (t : Nat) (ht : 16 ≤ t) : (0 : Int) = dg a t := by
  have := pow_big t ht
  unfold dg; rw [Int.ediv_eq_zero_of_lt h0 (by omega)]; decide
theorem own_row {w : World} {base e n g cap : Nat} {xs : List Value} (h : w.ownsRow base e 1 (.slice (some ⟨g, 0, none⟩) n cap) n xs) : Row w g xs ∧ base ≤ g ∧ (0 < n → g < w.heap.size) := by
  obtain ⟨hl, h | ⟨g', cap', cur, hv, hb, hg, h1, h2, h3, h4⟩⟩ := h
  · cases h.1
  · cases hv
    refine ⟨?_, hb, fun hn => ?_⟩
    · intro j u hu
      have hj : j < n := by
        have := (List.getElem?_eq_some_iff.1 hu).1
        omega
      rw [← h4, Nat.mul_one, List.getElem?_take, if_pos hj] at hu
      refine ⟨by simp [World.cell?, hg]; simpa using hu, by simp [World.frozen?, hg]⟩
    · rcases Nat.lt_or_ge g w.heap.size with h | h
      · exact h
      · rw [Array.getElem?_eq_none h] at hg; cases hg

/-- What holds at the head of each round of Long's loop. -/
def LongRel (w : World) (a : Int) (v : Value) (wr : World) : Prop := ∃ t : Nat, 16 ≤ t ∧ t ≤ 32 ∧ Below w.heap.size w wr ∧
  ((t = 16 ∧ ∃ b, v = .slice (some ⟨b, 0, none⟩) 16 16 ∧ Row wr b (dcells 16 a) ∧ w.heap.size ≤ b ∧ b < wr.heap.size) ∨ (16 < t ∧ wr.ownsRow w.heap.size 3 1 v t (dcells t a)))
theorem hold16 {wr : World} {b : Nat} {a : Int} (r : Row wr b (dcells 16 a)) (hb : b < wr.heap.size) (o : Obj) : ∀ b' : Addr, some (⟨b, 0, none⟩ : Addr) = some b' → ∀ j u, (dcells 16 a)[j]? = some u → (wr.alloc o).cell? (b'.add j) = some u := by
  intro b' e j u hu
  cases e
  rw [Addr.add_lit, Nat.zero_add]
  exact (r.alloc o hb).cell j u hu
theorem longRel_first {w wr w1 : World} {a d : Int} {v : Value} (t : TypeId) (hd : d = dg a 16) (bel : Below w.heap.size w wr) (h : w1.ownsRow (wr.alloc (.cells #[.int .i64 d] t)).heap.size 3 1 v (16 + 1) (dcells 16 a ++ [.int .i64 d])) (hg : (wr.alloc (.cells #[.int .i64 d] t)).grownBy w1 none) : LongRel w a v w1 := by
  subst hd
  rw [← dcells_succ] at h
  have hs := bel.size
  refine ⟨17, by omega, by omega, (bel.alloc hs _).grown hg (by simp; omega) (fun k hk => by cases hk), Or.inr ⟨by omega, ?_⟩⟩
  obtain ⟨hl, h' | ⟨g, cap, cur, hv, hb, h1, h2, h3, h4, h5⟩⟩ := h
  · exact ⟨hl, Or.inl h'⟩
  · exact ⟨hl, Or.inr ⟨g, cap, cur, hv, by simp at hb; omega, h1, h2, h3, h4, h5⟩⟩
theorem longRel_more {w wr w1 : World} {a d : Int} {t g g' cap cap' : Nat} (t' : TypeId) (ht : 16 < t) (ht2 : t < 32) (hd : d = dg a t) (bel : Below w.heap.size w wr) (ho : wr.ownsRow w.heap.size 3 1 (.slice (some ⟨g, 0, none⟩) t cap) t (dcells t a))
    (h : w1.ownsRow w.heap.size 3 1 (.slice (some ⟨g', 0, none⟩) (t + 1) cap') (t + 1) (dcells t a ++ [.int .i64 d])) (hg : (wr.alloc (.cells #[.int .i64 d] t')).grownBy w1 (Value.slice (some ⟨g, 0, none⟩) t cap).ownBlock) : LongRel w a (.slice (some ⟨g', 0, none⟩) (t + 1) cap') w1 := by
  subst hd
  rw [← dcells_succ] at h
  have hs := bel.size
  refine ⟨t + 1, by omega, by omega, (bel.alloc hs _).grown hg (by simp; omega) (fun k hk => ?_), Or.inr ⟨by omega, h⟩⟩
  simp [Value.ownBlock] at hk
  subst hk
  exact (own_row ho).2.1

set_option maxHeartbeats 1000000 in
theorem long_neg (a : Int) (h0 : -170141183460469231731687303715884105728 ≤ a) (h1 : a < 170141183460469231731687303715884105728) (hneg : a < 0) (w : World) :
    Calls Try.prog 17 #[.agg #[.int .i64 (hi a), .int .u64 (lo a)]] w fun e w' => ∃ b cap, e = .returned (.slice (some ⟨b, 0, none⟩) 32 cap) ∧ d32.Made w w' b a := by
  have HB : Hid (128 ≤ dg a 15) := (d16.dg15 a h0 h1).2 hneg
  have UP : Hid _ := fun t ht => up_neg a h0 hneg t ht
  obtain ⟨i0, hi0, hz0, hz1, hz2⟩ := info_parts infoInt
  clear h0 h1 hneg
  go_enter Try.func17, Try.ntmps17
  go_wp2_with (first
    | (go_at_call 28; refine (d16.rof_any a rfl rfl _).mono ?_; rintro e w1 ⟨b, rfl, hm⟩)
    | (go_at_call 31; refine (d16.below_yes a b _ hm.row (by have := HB.out; omega)).mono ?_; rintro e w2 ⟨rfl, hw⟩; have hw := hw.symm; subst hw))
  go_loopw [3] (fun v wr => LongRel w a v wr) (fun v _ => 32 - slen v)
  case atStart => exact ⟨16, by omega, by omega, ((Below.refl _ _).alloc (Nat.le_refl _) _).trans (hm.below.mono (by simp)), Or.inl ⟨rfl, b, rfl, hm.row, by have := hm.old; simp at this; omega, hm.size⟩⟩
  case round =>
    clear hm HB
    obtain ⟨t, ht, ht2, bel, ⟨rfl, b', rfl, row, hb1, hb2⟩ | ⟨h17, hown⟩⟩ := hrel
    · have hold := hold16 row hb2
      have HF : Hid _ := fun v w1 h hg => longRel_first (w := w) (wr := wr) (w1 := w1) (a := a) (d := 255) (v := v) 3 (UP.out 16 (by omega)) bel h hg
      clear row
      go_wp2_with (first
        | (at_builtin; refine wpList_append_grows _ rfl (.tmp 12) (.tmp 14) 26 rfl 3 i0 (.int .i64 0) 1 8 Try.underlying26 hi0 hz0 hz1 hz2 rfl (by decide) (some ⟨b', 0, none⟩) 16 16 (dcells 16 a) rfl (by intro e; cases e) (by rw [dcells_length]) (hold _) ⟨wr.heap.size, 0, none⟩ 1 1 [.int .i64 255] rfl rfl (cell_one_new _ _ _) (ints_oneCell .i64 [255]) (by decide) (by decide) (by decide) ?_; intro v1 w1 hown1 hgrow1)
        | go_in)
      go_roundw
      case rel => exact HF.out v1 w1 hown1 hgrow1
      case measure =>
        obtain ⟨g, cap, rfl, _, _⟩ := hown1.form (by omega)
        rw [slen_slice, slen_slice]; decide
    · obtain ⟨g, cap, rfl, hg1, hg2⟩ := hown.form (by omega)
      by_cases hlt : t < 32
      · have hl : (t : Int) < 32 := by omega
        have HF : Hid _ := fun g' cap' w1 h hg => longRel_more (w := w) (wr := wr) (w1 := w1) (a := a) (d := 255) (g := g) (g' := g') (cap := cap) (cap' := cap') 3 h17 hlt (UP.out t (by omega)) bel hown h hg
        have hs := bel.size
        go_wp2_with (first
          | (at_builtin; refine wpList_append_lies _ rfl (.tmp 12) (.tmp 14) 26 rfl w.heap.size 3 i0 (.int .i64 0) 1 8 Try.underlying26 hi0 hz0 hz1 hz2 rfl (by decide) (.slice (some ⟨g, 0, none⟩) t cap) t (dcells t a) rfl (hown.alloc _) ⟨wr.heap.size, 0, none⟩ 1 1 [.int .i64 255] rfl rfl (cell_one_new _ _ _) (ints_oneCell .i64 [255]) (by decide) (by unfold maxLen; omega) (by omega) (by simp; omega) _ rfl ?_; intro g' cap' w1 hown1 hgrow1 hat1 hlt1)
          | go_in)
        go_roundw
        case rel => exact HF.out g' cap' w1 hown1 hgrow1
        case measure => rw [slen_slice, slen_slice]; omega
      · obtain rfl : t = 32 := by omega
        obtain ⟨row, ho1, ho2⟩ := own_row hown
        go_wp2
        go_ret
        exact ⟨g, cap, rfl, row, ho1, ho2 (by omega), bel⟩
set_option maxHeartbeats 1000000 in
theorem long_pos (a : Int) (h0 : -170141183460469231731687303715884105728 ≤ a) (h1 : a < 170141183460469231731687303715884105728) (hneg : 0 ≤ a) (w : World) :
    Calls Try.prog 17 #[.agg #[.int .i64 (hi a), .int .u64 (lo a)]] w fun e w' => ∃ b cap, e = .returned (.slice (some ⟨b, 0, none⟩) 32 cap) ∧ d32.Made w w' b a := by
  have HB : Hid (¬ 128 ≤ dg a 15) := fun h => by have := (d16.dg15 a h0 h1).1 h; omega
  have UP : Hid _ := fun t ht => up_pos a hneg h1 t ht
  obtain ⟨i0, hi0, hz0, hz1, hz2⟩ := info_parts infoInt
  clear h0 h1 hneg
  go_enter Try.func17, Try.ntmps17
  go_wp2_with (first
    | (go_at_call 28; refine (d16.rof_any a rfl rfl _).mono ?_; rintro e w1 ⟨b, rfl, hm⟩)
    | (go_at_call 31; refine (d16.below_no a b _ hm.row (by have := HB.out; omega)).mono ?_; rintro e w2 ⟨rfl, hw⟩; have hw := hw.symm; subst hw))
  go_loopw [3] (fun v wr => LongRel w a v wr) (fun v _ => 32 - slen v)
  case atStart => exact ⟨16, by omega, by omega, ((Below.refl _ _).alloc (Nat.le_refl _) _).trans (hm.below.mono (by simp)), Or.inl ⟨rfl, b, rfl, hm.row, by have := hm.old; simp at this; omega, hm.size⟩⟩
  case round =>
    clear hm HB
    obtain ⟨t, ht, ht2, bel, ⟨rfl, b', rfl, row, hb1, hb2⟩ | ⟨h17, hown⟩⟩ := hrel
    · have hold := hold16 row hb2
      have HF : Hid _ := fun v w1 h hg => longRel_first (w := w) (wr := wr) (w1 := w1) (a := a) (d := 0) (v := v) 3 (UP.out 16 (by omega)) bel h hg
      clear row
      go_wp2_with (first
        | (at_builtin; refine wpList_append_grows _ rfl (.tmp 12) (.tmp 14) 26 rfl 3 i0 (.int .i64 0) 1 8 Try.underlying26 hi0 hz0 hz1 hz2 rfl (by decide) (some ⟨b', 0, none⟩) 16 16 (dcells 16 a) rfl (by intro e; cases e) (by rw [dcells_length]) (hold _) ⟨wr.heap.size, 0, none⟩ 1 1 [.int .i64 0] rfl rfl (cell_one_new _ _ _) (ints_oneCell .i64 [0]) (by decide) (by decide) (by decide) ?_; intro v1 w1 hown1 hgrow1)
        | go_in)
      go_roundw
      case rel => exact HF.out v1 w1 hown1 hgrow1
      case measure =>
        obtain ⟨g, cap, rfl, _, _⟩ := hown1.form (by omega)
        rw [slen_slice, slen_slice]; decide
    · obtain ⟨g, cap, rfl, hg1, hg2⟩ := hown.form (by omega)
      by_cases hlt : t < 32
      · have hl : (t : Int) < 32 := by omega
        have HF : Hid _ := fun g' cap' w1 h hg => longRel_more (w := w) (wr := wr) (w1 := w1) (a := a) (d := 0) (g := g) (g' := g') (cap := cap) (cap' := cap') 3 h17 hlt (UP.out t (by omega)) bel hown h hg
        have hs := bel.size
        go_wp2_with (first
          | (at_builtin; refine wpList_append_lies _ rfl (.tmp 12) (.tmp 14) 26 rfl w.heap.size 3 i0 (.int .i64 0) 1 8 Try.underlying26 hi0 hz0 hz1 hz2 rfl (by decide) (.slice (some ⟨g, 0, none⟩) t cap) t (dcells t a) rfl (hown.alloc _) ⟨wr.heap.size, 0, none⟩ 1 1 [.int .i64 0] rfl rfl (cell_one_new _ _ _) (ints_oneCell .i64 [0]) (by decide) (by unfold maxLen; omega) (by omega) (by simp; omega) _ rfl ?_; intro g' cap' w1 hown1 hgrow1 hat1 hlt1)
          | go_in)
        go_roundw
        case rel => exact HF.out g' cap' w1 hown1 hgrow1
        case measure => rw [slen_slice, slen_slice]; omega
      · obtain rfl : t = 32 := by omega
        obtain ⟨row, ho1, ho2⟩ := own_row hown
        go_wp2
        go_ret
        exact ⟨g, cap, rfl, row, ho1, ho2 (by omega), bel⟩
theorem rlong_any {ah al : Int} (a : Int) (ha : ah = hi a) (hal : al = lo a) (h0 : -170141183460469231731687303715884105728 ≤ a) (h1 : a < 170141183460469231731687303715884105728) (w : World) :
    Calls Try.prog 17 #[.agg #[.int .i64 ah, .int .u64 al]] w fun e w' => ∃ b cap, e = .returned (.slice (some ⟨b, 0, none⟩) 32 cap) ∧ d32.Made w w' b a := by
  subst ha hal
  rcases Int.lt_or_le a 0 with h | h
  · exact long_neg a h0 h1 h w
  · exact long_pos a h0 h1 h w
end Go.Proofs.Ytjlndalcaepofaa
