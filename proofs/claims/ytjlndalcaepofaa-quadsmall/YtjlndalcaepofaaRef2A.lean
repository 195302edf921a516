/-
  A number's 32 digits out of its four words.
-/
import Derived.Test.YtjlndalcaepofaaDigB32
import Derived.Test.YtjlndalcaepofaaQuadC
namespace Go.Proofs.Ytjlndalcaepofaa
open Go.RowKit
set_option linter.unusedVariables false

theorem mask8 (x : Int) (h0 : 0 ≤ x) (h1 : x < 18446744073709551616) : bits .and .u64 x 255 = x % 256 := by
  obtain ⟨n, rfl⟩ := Int.eq_ofNat_of_zero_le h0
  have h := bits_and_u64_nat n 255 (by omega) (by omega)
  have e : n &&& 255 = n % 256 := Nat.and_two_pow_sub_one_eq_mod n 8
  rw [e] at h
  exact h.trans (by omega)
theorem div_le (x : Int) (k : Nat) (h0 : 0 ≤ x) : 0 ≤ x / 256 ^ k ∧ x / 256 ^ k ≤ x := by
  have hp := p256 k
  exact ⟨Int.ediv_nonneg h0 (Int.le_of_lt hp), Int.ediv_le_self _ h0⟩
theorem pow8 (k : Nat) : (2 : Int) ^ (8 * k) = 256 ^ k := by rw [Int.pow_mul]; rfl
theorem pow64 (j : Nat) : (18446744073709551616 : Int) ^ j = 256 ^ (8 * j) := by rw [Int.pow_mul]; rfl
theorem dg_small (v : Int) (k : Nat) (hk : k < 8) : dg (v % 18446744073709551616) k = dg v k :=
  dg_congr (i := 8) (-(v / 18446744073709551616)) (by have e : (256 : Int) ^ 8 = 18446744073709551616 := by decide
                                                      rw [e]; omega) hk
/-- Digit i of a number is a digit of one of its words. -/
theorem word_dg (v : Int) (i : Nat) : q.dg v (i / 8) / 256 ^ (i % 8) % 256 = dg v i := by
  have e := dg_small (v / 18446744073709551616 ^ (i / 8)) (i % 8) (by omega)
  have e1 : q.dg v (i / 8) / 256 ^ (i % 8) % 256 = dg (v / 18446744073709551616 ^ (i / 8) % 18446744073709551616) (i % 8) := rfl
  rw [e1, e]
  unfold dg
  have hp := p256 (8 * (i / 8))
  have e2 := Int.ediv_ediv (x := v) (y := 256 ^ (8 * (i / 8))) (z := 256 ^ (i % 8))
  rw [if_neg (by omega)] at e2
  rw [pow64, e2, ← Int.pow_add, show 8 * (i / 8) + i % 8 = i by omega]
  simp
theorem of_word (v : Int) (i : Nat) : wrap64 (bits .and .u64 (q.dg v (i / 8) / 2 ^ (8 * (i % 8))) 255) = dg v i := by
  obtain ⟨l0, l1⟩ := q.dg_range v (i / 8)
  obtain ⟨d0, d1⟩ := div_le (q.dg v (i / 8)) (i % 8) l0
  rw [pow8, mask8 _ d0 (by omega), word_dg]
  have := dg_range v i
  unfold wrap64; omega

/-- What holds at the head of each round of Of's loop. -/
structure QOfRel (w : World) (a : Int) (k : Nat) (wr : World) : Prop where
  ra : Row wr w.heap.size (q.dcells 4 a)
  rl : Row wr (w.heap.size + 1) (mix 32 k a 0)
  bel : Below w.heap.size w wr
  size : w.heap.size + 1 < wr.heap.size
theorem qofRel_start (w : World) (a : Int) (t t' : TypeId) : QOfRel w a 0 ((w.alloc (.cells #[.int .u64 (q.dg a 0), .int .u64 (q.dg a 1), .int .u64 (q.dg a 2), .int .u64 (q.dg a 3)] t)).alloc (.cells (dcells 32 0).toArray t')) := by
  have h0 := (Row.new w [.int .u64 (q.dg a 0), .int .u64 (q.dg a 1), .int .u64 (q.dg a 2), .int .u64 (q.dg a 3)] t).alloc (.cells (dcells 32 0).toArray t') (by simp)
  have h1 := Row.new (w.alloc (.cells #[.int .u64 (q.dg a 0), .int .u64 (q.dg a 1), .int .u64 (q.dg a 2), .int .u64 (q.dg a 3)] t)) (dcells 32 0) t'
  rw [World.size_alloc] at h1
  exact ⟨h0.cells (qcells a).symm, h1.cells (mix_zero _ _ _).symm, ((Below.refl _ _).alloc (Nat.le_refl _) _).alloc (by simp) _, by simp⟩
theorem qofRel_next {w wr : World} {a : Int} {k : Nat} (h : QOfRel w a k wr) (hk : k < 32) : QOfRel w a (k + 1) (wr.setCell ⟨w.heap.size + 1, k, none⟩ (.int .i64 (dg a k))) :=
  ⟨h.ra.other _ (by omega), (h.rl.set k _ (by rw [mix_length]; exact hk)).cells (mix_set _ _ _ _), h.bel.setCell (by show _ ≤ w.heap.size + 1; omega) _, by simpa using h.size⟩

set_option maxHeartbeats 400000 in
theorem rqof_any {a0 a1 a2 a3 : Int} (a : Int) (ha : Wd a a0 a1 a2 a3) (w : World) :
    Calls Try.prog 9 #[.agg #[.int .u64 a0, .int .u64 a1, .int .u64 a2, .int .u64 a3]] w fun e w' => ∃ b, e = .returned (.slice (some ⟨b, 0, none⟩) 32 32) ∧ d32.Made w w' b a := by
  obtain ⟨rfl, rfl, rfl, rfl⟩ := ha
  have hmk := d32.makeD
  go_enter Try.func9, Try.ntmps9
  go_wp2
  clear hmk
  go_loopw [4] (fun i wr => ∃ k : Nat, k ≤ 32 ∧ i = .int .i64 (k : Int) ∧ QOfRel w a k wr) (fun i _ => 32 - (intOf i).toNat)
  case atStart =>
    have h := qofRel_start w a 24 3
    rw [d32.zeroD] at h
    exact ⟨0, by omega, rfl, h⟩
  case round =>
    obtain ⟨k, hk, rfl, hr⟩ := hrel
    by_cases hlt : k < 32
    · have c1 : wr.cell? ⟨w.heap.size, k / 8, none⟩ = some (.int .u64 (q.dg a (k / 8))) := hr.ra.cell (k / 8) _ (q.dcells_at _ _ _ (by omega))
      have c3 : wr.cell? ⟨w.heap.size + 1, k, none⟩ = some (.int .i64 (dg 0 k)) := hr.rl.cell k _ (mix_at _ _ _ _ _ hlt (Nat.le_refl _))
      have c4 : wr.frozen? ⟨w.heap.size + 1, k, none⟩ = false := hr.rl.free k (by rw [mix_length]; exact hlt)
      have hl : (k : Int) < 32 := by omega
      have hl8 : (k : Int) / 8 < 4 := by omega
      have hl0 : 0 ≤ (k : Int) / 8 := by omega
      have ht : ((k : Int) / 8).toNat = k / 8 := by omega
      have hn := qofRel_next hr hlt
      have f1 := of_word a k
      clear hr
      go_wp2
      go_roundw
      case rel => exact ⟨k + 1, by omega, by simp, hn⟩
      case measure => simp [intOf]; omega
    · obtain rfl : k = 32 := by omega
      have rl := hr.rl.cells (mix_full _ _ _)
      obtain ⟨ra, _, bel, size⟩ := hr
      clear ra
      go_wp2
      go_ret
      exact ⟨_, rfl, rl, by omega, size, bel⟩
end Go.Proofs.Ytjlndalcaepofaa
