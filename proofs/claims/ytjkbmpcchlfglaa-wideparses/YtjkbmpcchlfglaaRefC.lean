/-
  A number's digits out of its two words, and the words out of the digits.
-/
import Derived.Test.YtjkbmpcchlfglaaRefB
import Derived.Test.YtjkbmpcchlfglaaWideA
namespace Go.Proofs.Ytjkbmpcchlfglaa
open Go.RowKit
set_option linter.unusedVariables false

theorem mask8 (x : Int) (h0 : 0 ≤ x) (h1 : x < 18446744073709551616) : bits .and .u64 x 255 = x % 256 := by
  obtain ⟨n, rfl⟩ := Int.eq_ofNat_of_zero_le h0
  have h := bits_and_u64_nat n 255 (by omega) (by omega)
  have e : n &&& 255 = n % 256 := Nat.and_two_pow_sub_one_eq_mod n 8
  rw [e] at h
  exact h.trans (by omega)
theorem div_le (x : Int) (k : Nat) (h0 : 0 ≤ x) : 0 ≤ x / 256 ^ k ∧ x / 256 ^ k ≤ x := by
  have hp := p256 k
  exact ⟨Int.ediv_nonneg h0 (Int.le_of_lt hp), Int.ediv_le_self _ h0⟩
theorem pow8 (k : Nat) : (2 : Int) ^ (8 * k) = 256 ^ k := by rw [Int.pow_mul]; rfl
theorem dg_small (v : Int) (k : Nat) (hk : k < 8) : dg (v % 18446744073709551616) k = dg v k :=
  dg_congr (i := 8) (-(v / 18446744073709551616)) (by have e : (256 : Int) ^ 8 = 18446744073709551616 := by decide
                                                      rw [e]; omega) hk
theorem dg_up (v : Int) (k : Nat) : dg (v / 18446744073709551616) k = dg v (8 + k) := by
  unfold dg
  have e : (256 : Int) ^ (8 + k) = 18446744073709551616 * 256 ^ k := by rw [Int.pow_add]; rfl
  rw [e]
  have := Int.ediv_ediv (x := v) (y := 18446744073709551616) (z := 256 ^ k)
  rw [if_neg (by omega)] at this
  rw [this]; simp
theorem of_dg_lo (a : Int) (k : Nat) (hk : k < 8) : wrap64 (bits .and .u64 (lo a / 2 ^ (8 * k)) 255) = dg a k := by
  obtain ⟨l0, l1⟩ := lo_range a
  obtain ⟨d0, d1⟩ := div_le (lo a) k l0
  rw [pow8, mask8 _ d0 (by omega)]
  have e : lo a / 256 ^ k % 256 = dg a k := dg_small a k hk
  rw [e]
  have := dg_range a k
  unfold wrap64; omega
theorem of_dg_hi (a : Int) (k : Nat) (hk : k < 8) : wrap64 (bits .and .u64 (IntKind.u64.wrap (hi a) / 2 ^ (8 * k)) 255) = dg a (8 + k) := by
  have e1 : IntKind.u64.wrap (hi a) = a / 18446744073709551616 % 18446744073709551616 := by rw [IntKind.wrap_u64]; unfold hi; omega
  rw [e1, pow8]
  obtain ⟨d0, d1⟩ := div_le (a / 18446744073709551616 % 18446744073709551616) k (by omega)
  rw [mask8 _ d0 (by omega)]
  have e : a / 18446744073709551616 % 18446744073709551616 / 256 ^ k % 256 = dg a (8 + k) := (dg_small (a / 18446744073709551616) k hk).trans (dg_up a k)
  rw [e]
  have := dg_range a (8 + k)
  unfold wrap64; omega

def ofP (i j : Nat) : Bool := decide (j < i) || (decide (8 ≤ j) && decide (j < 8 + i))
/-- What holds at the head of each round of Of's loop. -/
def OfRel (w : World) (a : Int) (i : Value) (wr : World) : Prop := ∃ k : Nat, k ≤ 8 ∧ i = .int .i64 (k : Int) ∧ Row wr (w.heap.size + 1) (fill 16 (ofP k) a 0) ∧ Below (w.heap.size + 1) (w.alloc (.cells #[.int .i64 (hi a), .int .u64 (lo a)] 24)) wr ∧ w.heap.size + 1 < wr.heap.size
theorem ofRel_next (w wr : World) (a : Int) (k : Nat) (hk : k < 8) (hrow : Row wr (w.heap.size + 1) (fill 16 (ofP k) a 0)) (hb : Below (w.heap.size + 1) (w.alloc (.cells #[.int .i64 (hi a), .int .u64 (lo a)] 24)) wr) (hs : w.heap.size + 1 < wr.heap.size) :
    OfRel w a (.int .i64 ((k : Int) + 1)) ((wr.setCell ⟨w.heap.size + 1, k, none⟩ (.int .i64 (dg a k))).setCell ⟨w.heap.size + 1, 8 + k, none⟩ (.int .i64 (dg a (8 + k)))) := by
  refine ⟨k + 1, by omega, by simp, ?_, (hb.setCell (Nat.le_refl _) _).setCell (Nat.le_refl _) _, by simpa using hs⟩
  have h := (hrow.set k (.int .i64 (dg a k)) (by rw [fill_length]; omega)).set (8 + k) (.int .i64 (dg a (8 + k))) (by rw [List.length_set, fill_length]; omega)
  rw [fill_set, fill_set] at h
  have e : fill 16 (fun j => (ofP k j || j == k) || j == 8 + k) a 0 = fill 16 (ofP (k + 1)) a 0 := by
    refine fill_congr fun j _ => ?_
    have : ((ofP k j || j == k) || j == 8 + k) = ofP (k + 1) j := by rw [Bool.eq_iff_iff]; simp [ofP]; omega
    rw [this]
  rw [e] at h
  exact h
theorem ofRel_last (a : Int) : fill 16 (ofP 8) a 0 = dcells 16 a := by
  rw [← mix_full 16 a 0]
  refine fill_congr fun j hj => ?_
  have : ofP 8 j = decide (j < 16) := by rw [Bool.eq_iff_iff]; simp [ofP]; omega
  rw [this]
theorem ofRel_first (a : Int) : fill 16 (ofP 0) a 0 = dcells 16 0 := by
  rw [← mix_zero 16 a 0]
  refine fill_congr fun j hj => ?_
  have : ofP 0 j = decide (j < 0) := by rw [Bool.eq_iff_iff]; simp [ofP]
  rw [this]

set_option maxHeartbeats 400000 in
theorem rof_any {ah al : Int} (a : Int) (ha : ah = hi a) (hl : al = lo a) (w : World) :
    Calls Try.prog 9 #[.agg #[.int .i64 ah, .int .u64 al]] w fun e w' => ∃ b, e = .returned (.slice (some ⟨b, 0, none⟩) 16 16) ∧ Made w w' b a := by
  subst ha hl
  have hmk := make16
  go_enter Try.func9, Try.ntmps9
  go_wp2
  clear hmk
  go_loopw [4] (fun i wr => OfRel w a i wr) (fun i _ => 8 - (intOf i).toNat)
  case atStart =>
    refine ⟨0, by omega, rfl, ?_, (Below.refl _ _).alloc (by simp) _, by simp⟩
    rw [ofRel_first, zero16]
    have h := Row.new (w.alloc (.cells #[.int .i64 (hi a), .int .u64 (lo a)] 24)) (dcells 16 0) 3
    rw [World.size_alloc, zero16] at h
    exact h
  case round =>
    obtain ⟨k, hk, rfl, hrow, hbr, hsz⟩ := hrel
    by_cases hlt : k < 8
    · have b0 : wr.cell? ⟨w.heap.size, 0, none⟩ = some (.int .i64 (hi a)) := by rw [hbr.cell (p := ⟨w.heap.size, 0, none⟩) (by simp)]; simp
      have b1 : wr.cell? ⟨w.heap.size, 1, none⟩ = some (.int .u64 (lo a)) := by rw [hbr.cell (p := ⟨w.heap.size, 1, none⟩) (by simp)]; simp
      have c1 : wr.cell? ⟨w.heap.size + 1, k, none⟩ = some (.int .i64 (dg 0 k)) := hrow.cell k _ (by rw [fill_at _ _ _ _ _ (by omega)]; simp [ofP]; omega)
      have c2 : wr.frozen? ⟨w.heap.size + 1, k, none⟩ = false := hrow.free k (by rw [fill_length]; omega)
      have c3 : wr.cell? ⟨w.heap.size + 1, 8 + k, none⟩ = some (.int .i64 (dg 0 (8 + k))) := hrow.cell (8 + k) _ (by rw [fill_at _ _ _ _ _ (by omega)]; simp [ofP]; omega)
      have c5 : ∀ v, (wr.setCell ⟨w.heap.size + 1, k, none⟩ v).cell? ⟨w.heap.size + 1, 8 + k, none⟩ = some (.int .i64 (dg 0 (8 + k))) := fun v => by
        rw [World.cell?_setCell_other _ _ _ _ (by intro q; simp only [Addr.mk.injEq] at q; omega)]; exact c3
      have c4 : wr.frozen? ⟨w.heap.size + 1, 8 + k, none⟩ = false := hrow.free (8 + k) (by rw [fill_length]; omega)
      have hl : (k : Int) < 8 := by omega
      have f1 := of_dg_lo a k hlt
      have f2 := of_dg_hi a k hlt
      have hn := ofRel_next w wr a k hlt hrow hbr hsz
      clear c3
      go_wp2
      go_roundw
      case rel => exact hn
      case measure => simp [intOf]; omega
    · obtain rfl : k = 8 := by omega
      rw [ofRel_last] at hrow
      go_wp2
      go_ret
      exact ⟨_, rfl, hrow, by omega, hsz, ((Below.refl _ _).alloc (Nat.le_refl _) _).trans (hbr.mono (by omega))⟩

/-- What holds at the head of each round of Wide's loop. -/
def WideRel (v : Int) (l h i : Value) : Prop := ∃ (k : Nat) (L H : Int), k ≤ 8 ∧ L = v % 18446744073709551616 / 256 ^ k ∧ H = v / 18446744073709551616 % 18446744073709551616 / 256 ^ k ∧ l = .int .u64 L ∧ h = .int .u64 H ∧ i = .int .i64 ((k : Int) - 1)
theorem word_step (u : Int) (k : Nat) (h0 : 0 ≤ u) (h1 : u < 18446744073709551616) : u / 256 ^ (k + 1) * 256 + dg u k = u / 256 ^ k ∧ 0 ≤ u / 256 ^ (k + 1) ∧ u / 256 ^ k ≤ 18446744073709551615 := by
  have e : u / 256 ^ (k + 1) = u / 256 ^ k / 256 := by
    have hp := p256 k
    rw [Int.pow_succ, Int.ediv_ediv, if_neg (by omega)]; omega
  have := div_le u k h0
  rw [e]; unfold dg; omega

theorem ret_wide {h l a : Int} (e1 : h = hi a) (e2 : l = lo a) : Value.agg #[.int .i64 h, .int .u64 l] = .agg #[.int .i64 (hi a), .int .u64 (lo a)] := by rw [e1, e2]
set_option maxHeartbeats 400000 in
theorem rwide_any (v : Int) (b : Nat) (w : World) (r : Row w b (dcells 16 v)) (hb : b < w.heap.size) :
    Calls Try.prog 11 #[.slice (some ⟨b, 0, none⟩) 16 16] w fun e w' => e = .returned (.agg #[.int .i64 (hi v), .int .u64 (lo v)]) ∧ Below w.heap.size w w' := by
  go_enter Try.func11, Try.ntmps11
  go_wp2
  go_loopw [3, 4, 5] (fun l h i wr => WideRel v l h i ∧ ∃ n, wr = (w.alloc (.cells #[.int .i64 0, .int .u64 0] 24)).drewN n) (fun _ _ i _ => (intOf i + 1).toNat)
  case atStart => exact ⟨⟨8, 0, 0, by omega, by rw [Int.ediv_eq_zero_of_lt (by omega) (by have e : (256 : Int) ^ 8 = 18446744073709551616 := by decide
                                                                                          rw [e]; omega)], by rw [Int.ediv_eq_zero_of_lt (by omega) (by have e : (256 : Int) ^ 8 = 18446744073709551616 := by decide
                                                                                                                                                        rw [e]; omega)], rfl, rfl, rfl⟩, 0, rfl⟩
  case round =>
    obtain ⟨⟨k, L, H, hk, hL, hH, rfl, rfl, rfl⟩, n, rfl⟩ := hrel
    rcases k with _ | k
    · have eL : L = lo v := by rw [hL]; simp [lo]
      have eH : wrap64 H = hi v := by rw [hH]; simp [wrap64, hi]
      subst eL
      clear hL hH
      go_wp2
      exact bodyPost_ret (v := .agg #[.int .i64 (hi v), .int .u64 (lo v)]) (by simp [results, Try.results11, go_sem]) rfl ⟨rfl, ((below_drewN ((Below.refl _ _).alloc (Nat.le_refl _) _) n).setCell (Nat.le_refl _) _).setCell (Nat.le_refl _) _⟩
    · obtain ⟨s1, s2, s3⟩ := word_step (v % 18446744073709551616) k (by omega) (by omega)
      obtain ⟨t1, t2, t3⟩ := word_step (v / 18446744073709551616 % 18446744073709551616) k (by omega) (by omega)
      rw [← hL] at s1 s2
      rw [← hH] at t1 t2
      rw [dg_small v k (by omega)] at s1
      rw [dg_small _ k (by omega), dg_up] at t1
      have E1 : Hid _ := s1
      have E2 : Hid _ := t1
      have z1 : L * 256 + dg v k ≤ 18446744073709551615 := by omega
      have z2 : H * 256 + dg v (8 + k) ≤ 18446744073709551615 := by omega
      clear hL hH s1 t1 s3 t3
      have c1 : w.cell? ⟨b, k, none⟩ = some (.int .i64 (dg v k)) := r.cell k _ (dcells_at _ _ _ (by omega))
      have c2 : w.cell? ⟨b, 8 + k, none⟩ = some (.int .i64 (dg v (8 + k))) := r.cell (8 + k) _ (dcells_at _ _ _ (by omega))
      have hl : (k : Int) < 8 := by omega
      have hi' : (((k + 1 : Nat) : Int) - 1) = (k : Int) := by omega
      rw [hi']
      clear hi'
      obtain ⟨d0, d1⟩ := dg_range v k
      obtain ⟨e0, e1⟩ := dg_range v (8 + k)
      go_wp2
      go_quiet (fail)
      go_wp2
      go_roundw
      case rel => exact ⟨⟨k, _, _, by omega, E1.out, E2.out, rfl, rfl, rfl⟩, _, rfl⟩
      case measure => simp [intOf]
end Go.Proofs.Ytjkbmpcchlfglaa
