/-
  A number's 16 digits out of its two words.
-/
import Derived.Test.YtjlndalcaepofaaDigB16
import Derived.Test.YtjlndalcaepofaaRef2A
namespace Go.Proofs.Ytjlndalcaepofaa.d16
open Go.Proofs.Ytjlndalcaepofaa
open Go.RowKit
set_option linter.unusedVariables false

theorem dg_up (v : Int) (k : Nat) : dg (v / 18446744073709551616) k = dg v (8 + k) := by
  unfold dg
  have e : (256 : Int) ^ (8 + k) = 18446744073709551616 * 256 ^ k := by rw [Int.pow_add]; rfl
  rw [e]
  have := Int.ediv_ediv (x := v) (y := 18446744073709551616) (z := 256 ^ k)
  rw [if_neg (by omega)] at this
  rw [this]; simp
theorem of_dg_lo (a : Int) (k : Nat) (hk : k < 8) : wrap64 (bits .and .u64 (lo a / 2 ^ (8 * k)) 255) = dg a k := by
  obtain ⟨l0, l1⟩ := lo_range a
  obtain ⟨d0, d1⟩ := div_le (lo a) k l0
  rw [pow8, mask8 _ d0 (by omega)]
  have e : lo a / 256 ^ k % 256 = dg a k := dg_small a k hk
  rw [e]
  have := dg_range a k
  unfold wrap64; omega
theorem of_dg_hi (a : Int) (k : Nat) (hk : k < 8) : wrap64 (bits .and .u64 (IntKind.u64.wrap (hi a) / 2 ^ (8 * k)) 255) = dg a (8 + k) := by
  have e1 : IntKind.u64.wrap (hi a) = a / 18446744073709551616 % 18446744073709551616 := by rw [IntKind.wrap_u64]; unfold hi; omega
  rw [e1, pow8]
  obtain ⟨d0, d1⟩ := div_le (a / 18446744073709551616 % 18446744073709551616) k (by omega)
  rw [mask8 _ d0 (by omega)]
  have e : a / 18446744073709551616 % 18446744073709551616 / 256 ^ k % 256 = dg a (8 + k) := (dg_small (a / 18446744073709551616) k hk).trans (dg_up a k)
  rw [e]
  have := dg_range a (8 + k)
  unfold wrap64; omega

def ofP (i j : Nat) : Bool := decide (j < i) || (decide (8 ≤ j) && decide (j < 8 + i))
/-- What holds at the head of each round of Of's loop. -/
def OfRel (w : World) (a : Int) (i : Value) (wr : World) : Prop := ∃ k : Nat, k ≤ 8 ∧ i = .int .i64 (k : Int) ∧ Row wr (w.heap.size + 1) (fill 16 (ofP k) a 0) ∧ Below (w.heap.size + 1) (w.alloc (.cells #[.int .i64 (hi a), .int .u64 (lo a)] 36)) wr ∧ w.heap.size + 1 < wr.heap.size
theorem ofRel_next (w wr : World) (a : Int) (k : Nat) (hk : k < 8) (hrow : Row wr (w.heap.size + 1) (fill 16 (ofP k) a 0)) (hb : Below (w.heap.size + 1) (w.alloc (.cells #[.int .i64 (hi a), .int .u64 (lo a)] 36)) wr) (hs : w.heap.size + 1 < wr.heap.size) :
    OfRel w a (.int .i64 ((k : Int) + 1)) ((wr.setCell ⟨w.heap.size + 1, k, none⟩ (.int .i64 (dg a k))).setCell ⟨w.heap.size + 1, 8 + k, none⟩ (.int .i64 (dg a (8 + k)))) := by
  refine ⟨k + 1, by omega, by simp, ?_, (hb.setCell (Nat.le_refl _) _).setCell (Nat.le_refl _) _, by simpa using hs⟩
  have h := (hrow.set k (.int .i64 (dg a k)) (by rw [fill_length]; omega)).set (8 + k) (.int .i64 (dg a (8 + k))) (by rw [List.length_set, fill_length]; omega)
  rw [fill_set, fill_set] at h
  have e : fill 16 (fun j => (ofP k j || j == k) || j == 8 + k) a 0 = fill 16 (ofP (k + 1)) a 0 := by
    refine fill_congr fun j _ => ?_
    have : ((ofP k j || j == k) || j == 8 + k) = ofP (k + 1) j := by rw [Bool.eq_iff_iff]; simp [ofP]; omega
    rw [this]
  rw [e] at h
  exact h
theorem ofRel_last (a : Int) : fill 16 (ofP 8) a 0 = dcells 16 a := by
  rw [← mix_full 16 a 0]
  refine fill_congr fun j hj => ?_
  have : ofP 8 j = decide (j < 16) := by rw [Bool.eq_iff_iff]; simp [ofP]; omega
  rw [this]
theorem ofRel_first (a : Int) : fill 16 (ofP 0) a 0 = dcells 16 0 := by
  rw [← mix_zero 16 a 0]
  refine fill_congr fun j hj => ?_
  have : ofP 0 j = decide (j < 0) := by rw [Bool.eq_iff_iff]; simp [ofP]
  rw [this]

set_option maxHeartbeats 400000 in
theorem rof_any {ah al : Int} (a : Int) (ha : ah = hi a) (hl : al = lo a) (w : World) :
    Calls Try.prog 28 #[.agg #[.int .i64 ah, .int .u64 al]] w fun e w' => ∃ b, e = .returned (.slice (some ⟨b, 0, none⟩) 16 16) ∧ Made w w' b a := by
  subst ha hl
  have hmk := makeD
  go_enter Try.func28, Try.ntmps28
  go_wp2
  clear hmk
  go_loopw [4] (fun i wr => OfRel w a i wr) (fun i _ => 8 - (intOf i).toNat)
  case atStart =>
    refine ⟨0, by omega, rfl, ?_, (Below.refl _ _).alloc (by simp) _, by simp⟩
    rw [ofRel_first, zeroD]
    have h := Row.new (w.alloc (.cells #[.int .i64 (hi a), .int .u64 (lo a)] 36)) (dcells 16 0) 3
    rw [World.size_alloc, zeroD] at h
    exact h
  case round =>
    obtain ⟨k, hk, rfl, hrow, hbr, hsz⟩ := hrel
    by_cases hlt : k < 8
    · have b0 : wr.cell? ⟨w.heap.size, 0, none⟩ = some (.int .i64 (hi a)) := by rw [hbr.cell (p := ⟨w.heap.size, 0, none⟩) (by simp)]; simp
      have b1 : wr.cell? ⟨w.heap.size, 1, none⟩ = some (.int .u64 (lo a)) := by rw [hbr.cell (p := ⟨w.heap.size, 1, none⟩) (by simp)]; simp
      have c1 : wr.cell? ⟨w.heap.size + 1, k, none⟩ = some (.int .i64 (dg 0 k)) := hrow.cell k _ (by rw [fill_at _ _ _ _ _ (by omega)]; simp [ofP]; omega)
      have c2 : wr.frozen? ⟨w.heap.size + 1, k, none⟩ = false := hrow.free k (by rw [fill_length]; omega)
      have c3 : wr.cell? ⟨w.heap.size + 1, 8 + k, none⟩ = some (.int .i64 (dg 0 (8 + k))) := hrow.cell (8 + k) _ (by rw [fill_at _ _ _ _ _ (by omega)]; simp [ofP]; omega)
      have c5 : ∀ v, (wr.setCell ⟨w.heap.size + 1, k, none⟩ v).cell? ⟨w.heap.size + 1, 8 + k, none⟩ = some (.int .i64 (dg 0 (8 + k))) := fun v => by
        rw [World.cell?_setCell_other _ _ _ _ (by intro q; simp only [Addr.mk.injEq] at q; omega)]; exact c3
      have c4 : wr.frozen? ⟨w.heap.size + 1, 8 + k, none⟩ = false := hrow.free (8 + k) (by rw [fill_length]; omega)
      have hl : (k : Int) < 8 := by omega
      have f1 := of_dg_lo a k hlt
      have f2 := of_dg_hi a k hlt
      have hn := ofRel_next w wr a k hlt hrow hbr hsz
      clear c3
      go_wp2
      go_roundw
      case rel => exact hn
      case measure => simp [intOf]; omega
    · obtain rfl : k = 8 := by omega
      rw [ofRel_last] at hrow
      go_wp2
      go_ret
      exact ⟨_, rfl, hrow, by omega, hsz, ((Below.refl _ _).alloc (Nat.le_refl _) _).trans (hbr.mono (by omega))⟩

end Go.Proofs.Ytjlndalcaepofaa.d16
