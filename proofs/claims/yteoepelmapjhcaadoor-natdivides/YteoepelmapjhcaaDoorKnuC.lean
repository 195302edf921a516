/-
  What nat's subTimes and addBack answer.
-/
import Derived.Test.YteoepelmapjhcaaDoorNatG
namespace Go.Proofs.YteoepelmapjhcaaDoor
open Go.RowKit
set_option linter.unusedVariables false

/-- The carry into place k of x times y. -/
def sc (x y : Int) (k : Nat) : Int := x * (y % 4294967296 ^ k) / 4294967296 ^ k
theorem sc_tc (x y : Int) (k : Nat) : sc x y k = tc 0 x y k := by
  unfold sc tc wd.cy wd.tk
  rw [Nat.zero_add, Int.pow_zero, Int.mul_one, Int.zero_emod, Int.zero_add]
theorem dg0 (k : Nat) : wd.dg 0 k = 0 := by simp [wd.dg]
theorem sc_zero (x y : Int) : sc x y 0 = 0 := by rw [sc_tc, tc_zero]
theorem sc_succ (x y : Int) (k : Nat) : sc x y (k + 1) = (sc x y k + x * wd.dg y k) / 4294967296 := by
  rw [sc_tc, sc_tc, tc_succ, dg0, Int.add_zero]
theorem sc_digit (x y : Int) (k : Nat) : (sc x y k + x * wd.dg y k) % 4294967296 = wd.dg (x * y) k := by
  have := tc_digit 0 x y k
  rwa [dg0, Int.add_zero, Int.zero_add, ← sc_tc] at this
theorem sc_range (x y : Int) (k : Nat) (h0 : 0 ≤ x) (h1 : x < 4294967296) : 0 ≤ sc x y k ∧ sc x y k ≤ 4294967295 := by
  rw [sc_tc]
  exact tc_range _ _ _ _ h0 h1
theorem sc_lt (x y : Int) (k : Nat) (h0 : 0 < x) : sc x y k < x := by
  unfold sc
  have hp := wd.p256 k
  refine Int.ediv_lt_of_lt_mul hp ?_
  exact Int.mul_lt_mul_of_pos_left (Int.emod_lt_of_pos _ hp) h0
theorem sc_last (x y : Int) (k : Nat) (y0 : 0 ≤ y) (y1 : y < 4294967296 ^ k) : sc x y k = x * y / 4294967296 ^ k := by
  unfold sc
  rw [Int.emod_eq_of_lt y0 y1]
theorem bw_last (x y : Int) (k : Nat) (x0 : 0 ≤ x) (x1 : x < 4294967296 ^ k) (y0 : 0 ≤ y) (y1 : y < 4294967296 ^ k) : wd.bw x y k = if x < y then 1 else 0 := by
  unfold wd.bw
  rw [Int.emod_eq_of_lt x0 x1, Int.emod_eq_of_lt y0 y1]
  have hp := wd.p256 k
  split
  · have : (x - y) / 4294967296 ^ k = -1 := by
      have h1 : (x - y + 4294967296 ^ k) / 4294967296 ^ k = 0 := Int.ediv_eq_zero_of_lt (by omega) (by omega)
      have h2 := Int.add_ediv_of_dvd_right (a := x - y) (Int.dvd_refl (4294967296 ^ k))
      rw [h1, Int.ediv_self (Int.ne_of_gt hp)] at h2
      omega
    omega
  · have : (x - y) / 4294967296 ^ k = 0 := Int.ediv_eq_zero_of_lt (by omega) (by omega)
    omega

/-- What holds at the head of each round of subTimes. -/
def STRel (w : World) (N x y : Int) (b o n : Nat) (c r i : Value) (wr : World) : Prop := ∃ k : Nat, k ≤ n ∧ i = .int .i64 (k : Int) ∧ c = .int .u64 (sc x y k) ∧ r = .int .u32 (wd.bw N (x * y) k) ∧ Seg wr b o (wd.mix (n + 1) k (N - x * y) N) ∧ Wr w wr b o (o + (n + 1))
theorem st_next (w wr : World) (N x y : Int) (b o n k : Nat) (hk : k < n) (hseg : Seg wr b o (wd.mix (n + 1) k (N - x * y) N)) (hw : Wr w wr b o (o + (n + 1))) :
    STRel w N x y b o n (.int .u64 ((sc x y k + x * wd.dg y k) / 4294967296)) (.int .u32 (wd.bor (wd.dg N k) ((sc x y k + x * wd.dg y k) % 4294967296 + wd.bw N (x * y) k))) (.int .i64 ((k : Int) + 1)) (wr.setCell ⟨b, o + k, none⟩ (.int .u32 ((wd.dg N k - (sc x y k + x * wd.dg y k) % 4294967296 - wd.bw N (x * y) k) % 4294967296))) := by
  refine ⟨k + 1, by omega, by simp, by rw [sc_succ], by rw [sc_digit, wd.bw_succ], ?_, hw.set _ (by omega) (by omega)⟩
  rw [sc_digit, wd.sub_digit, ← wd.mix_set]
  exact hseg.set k _ (by rw [wd.mix_length]; omega)
theorem st_last (w wr : World) (N x y : Int) (b o n : Nat) (hseg : Seg wr b o (wd.mix (n + 1) n (N - x * y) N)) (hw : Wr w wr b o (o + (n + 1))) (hl : sc x y n = wd.dg (x * y) n) :
    Seg (wr.setCell ⟨b, o + n, none⟩ (.int .u32 ((wd.dg N n - sc x y n - wd.bw N (x * y) n) % 4294967296))) b o (wd.dcells (n + 1) (N - x * y)) ∧ Wr w (wr.setCell ⟨b, o + n, none⟩ (.int .u32 ((wd.dg N n - sc x y n - wd.bw N (x * y) n) % 4294967296))) b o (o + (n + 1)) := by
  refine ⟨?_, hw.set _ (by omega) (by omega)⟩
  rw [hl, wd.sub_digit, ← wd.mix_full (n + 1) (N - x * y) N, ← wd.mix_set]
  exact hseg.set n _ (by rw [wd.mix_length]; omega)

set_option maxRecDepth 100000 in
set_option maxHeartbeats 1000000 in
theorem subTimes_any (b o n cs : Nat) (yb : Option Addr) (cy N D : Nat) (g : Int) (w : World) (hseg : Seg w b o (wd.dcells (n + 1) (N : Int))) (hN : N < 4294967296 ^ (n + 1)) (hcs : n + 1 ≤ cs) (hcs' : cs ≤ 1000000000000) (hy : Sl w yb n cy (wd.dcells n (D : Int))) (hD : D < 4294967296 ^ n) (hne : ∀ o, yb ≠ some ⟨b, o, none⟩) (g0 : 0 ≤ g) (g1 : g < 4294967296) :
    Calls Tryd.prog 70 #[.slice (some ⟨b, o, none⟩) (n + 1) cs, .slice yb n cy, .int .u32 g] w fun e w' => e = .returned (.bool (decide ((N : Int) < g * D))) ∧ Seg w' b o (wd.dcells (n + 1) ((N : Int) - g * D)) ∧ Wr w w' b o (o + (n + 1)) := by
  have hDc : (D : Int) < 4294967296 ^ n := by rw [← wd.pow_cast]; omega
  have hp := wd.p256 n
  have hX0 : 0 ≤ g * (D : Int) := Int.mul_nonneg g0 (by omega)
  have hX1 : g * (D : Int) < 4294967296 ^ (n + 1) := by
    have h1 : g * (D : Int) ≤ 4294967295 * (4294967296 ^ n - 1) := Int.mul_le_mul (by omega) (by omega) (by omega) (by omega)
    rw [Int.pow_succ]
    rw [Int.mul_sub] at h1
    omega
  have HL : Hid (sc g D n = wd.dg (g * D) n) := by
    unfold Hid wd.dg
    rw [sc_last _ _ _ (by omega) hDc, Int.emod_eq_of_lt (Int.ediv_nonneg hX0 (by omega)) (Int.ediv_lt_of_lt_mul hp (by rw [Int.pow_succ] at hX1; rw [Int.mul_comm 4294967296]; exact hX1))]
  have HB : Hid (wd.bor (wd.dg N n) (sc g D n + wd.bw N (g * D) n) = if (N : Int) < g * D then 1 else 0) := by
    unfold Hid
    rw [HL.out, wd.bw_succ]
    exact bw_last _ _ _ (by omega) (by rw [← wd.pow_cast]; omega) hX0 hX1
  have hcap := hy.big
  have hroom := hy.room
  unfold maxLen at hcap
  obtain ⟨m, hm⟩ : ∃ m, m = n + 1 := ⟨_, rfl⟩
  have HM : Hid _ := hm
  have hm1 : n < m := by omega
  have hm2 : m ≤ cs := by omega
  have HG : Hid (Seg w b o (wd.dcells (n + 1) (N : Int))) := hseg
  clear hseg hX0 hX1 hp hDc
  rw [← hm]
  clear hm hcs
  go_enter Tryd.func70, Tryd.ntmps70
  go_wp2
  go_loopw [7, 8, 14] (fun c r i wr => STRel w N g D b o n c r i wr) (fun _ _ i _ => n - (intOf i).toNat)
  case atStart => exact ⟨0, by omega, rfl, by rw [sc_zero], by rw [wd.bw_zero], by rw [wd.mix_zero]; exact HG.out, Wr.refl _ _ _ _⟩
  case round =>
    obtain ⟨k, hk, rfl, rfl, rfl, hseg, hwr⟩ := hrel
    obtain ⟨f0, f1⟩ := sc_range g D k g0 g1
    obtain ⟨h0, h1⟩ := wd.bw_range N (g * D) k
    obtain ⟨d0, d1⟩ := wd.dg_range N k
    have c3 : wr.cell? ⟨b, o + k, none⟩ = some (.int .u32 (wd.dg N k)) := hseg.cell k _ (wd.mix_at _ _ _ _ _ (by omega) (Nat.le_refl _))
    have c4 : wr.frozen? ⟨b, o + k, none⟩ = false := hseg.free k (by rw [wd.mix_length]; omega)
    by_cases hlt : k < n
    · obtain ⟨by', oy, rfl, hby, hsy⟩ := hy.at (by omega)
      have hne' : by' ≠ b := fun e => hne oy (by rw [e])
      have c1 : wr.cell? ⟨by', oy + k, none⟩ = some (.int .u32 (wd.dg D k)) := (hwr.seg hsy hby hne').cell k _ (wd.dcells_at _ _ _ hlt)
      obtain ⟨e0, e1⟩ := wd.dg_range D k
      obtain ⟨i0, i1⟩ := xdg g D k g0 g1
      have HN : Hid _ := st_next w wr N g D b o n k hlt hseg hwr
      clear hseg
      have j0 : 0 ≤ (sc g D k + g * wd.dg D k) % 4294967296 := by omega
      have j1 : (sc g D k + g * wd.dg D k) % 4294967296 < 4294967296 := by omega
      go_wp2_with (go_at_call 35; refine (sub32_any _ _ _ _ d0 d1 j0 j1 h0 h1).mono ?_; rintro e w' ⟨rfl, hw⟩; subst hw)
      go_roundw
      case rel => exact HN.out
      case measure => simp [intOf]; omega
    · obtain rfl : k = n := by omega
      have hl := st_last w wr N g D b o k hseg hwr HL.out
      have HS : Hid _ := hl
      clear hseg hl
      have fe : sc g D k % 4294967296 = sc g D k := by omega
      go_wp2_with (go_at_call 35; refine (sub32_any _ _ _ _ d0 d1 (by omega) (by omega) h0 h1).mono ?_; rintro e w' ⟨rfl, hw⟩; subst hw)
      go_ret
      rw [HM.out]
      refine ⟨?_, HS.out.1, HS.out.2⟩
      rw [HB.out]
      by_cases q : (N : Int) < g * D
      · simp [q]
      · simp [q]

/-- What holds at the head of each round of addBack. -/
def ABRel (w : World) (M y : Int) (b o n : Nat) (c i : Value) (wr : World) : Prop := ∃ k : Nat, k ≤ n ∧ i = .int .i64 (k : Int) ∧ c = .int .u32 (wd.carry M y k) ∧ Seg wr b o (wd.mix (n + 1) k (M + y) M) ∧ Wr w wr b o (o + (n + 1))
theorem ab_next (w wr : World) (M y : Int) (b o n k : Nat) (hk : k < n) (hseg : Seg wr b o (wd.mix (n + 1) k (M + y) M)) (hw : Wr w wr b o (o + (n + 1))) :
    ABRel w M y b o n (.int .u32 ((wd.dg M k + wd.dg y k + wd.carry M y k) / 4294967296)) (.int .i64 ((k : Int) + 1)) (wr.setCell ⟨b, o + k, none⟩ (.int .u32 ((wd.dg M k + wd.dg y k + wd.carry M y k) % 4294967296))) := by
  have e : wd.dg M k + wd.dg y k + wd.carry M y k = wd.carry M y k + wd.dg M k + wd.dg y k := by omega
  refine ⟨k + 1, by omega, by simp, by rw [e, wd.carry_succ], ?_, hw.set _ (by omega) (by omega)⟩
  rw [e, wd.add_digit, ← wd.mix_set]
  exact hseg.set k _ (by rw [wd.mix_length]; omega)
theorem ab_last (w wr : World) (M y : Int) (b o n : Nat) (hseg : Seg wr b o (wd.mix (n + 1) n (M + y) M)) (hw : Wr w wr b o (o + (n + 1))) (hl : wd.dg y n = 0) :
    Seg (wr.setCell ⟨b, o + n, none⟩ (.int .u32 ((wd.dg M n + wd.carry M y n) % 4294967296))) b o (wd.dcells (n + 1) (M + y)) ∧ Wr w (wr.setCell ⟨b, o + n, none⟩ (.int .u32 ((wd.dg M n + wd.carry M y n) % 4294967296))) b o (o + (n + 1)) := by
  refine ⟨?_, hw.set _ (by omega) (by omega)⟩
  have e : wd.dg M n + wd.carry M y n = wd.carry M y n + wd.dg M n + wd.dg y n := by omega
  rw [e, wd.add_digit, ← wd.mix_full (n + 1) (M + y) M, ← wd.mix_set]
  exact hseg.set n _ (by rw [wd.mix_length]; omega)

set_option maxRecDepth 100000 in
set_option maxHeartbeats 1000000 in
theorem addBack_any (b o n cs : Nat) (yb : Option Addr) (cy D : Nat) (M : Int) (w : World) (hseg : Seg w b o (wd.dcells (n + 1) M)) (hcs : n + 1 ≤ cs) (hcs' : cs ≤ 1000000000000) (hy : Sl w yb n cy (wd.dcells n (D : Int))) (hD : D < 4294967296 ^ n) (hne : ∀ o, yb ≠ some ⟨b, o, none⟩) :
    Calls Tryd.prog 71 #[.slice (some ⟨b, o, none⟩) (n + 1) cs, .slice yb n cy] w fun e w' => e = .returned (.tuple #[]) ∧ Seg w' b o (wd.dcells (n + 1) (M + D)) ∧ Wr w w' b o (o + (n + 1)) := by
  have HL : Hid (wd.dg (D : Int) n = 0) := by
    unfold Hid wd.dg
    rw [Int.ediv_eq_zero_of_lt (by omega) (by rw [← wd.pow_cast]; omega)]
    rfl
  have hcap := hy.big
  have hroom := hy.room
  unfold maxLen at hcap
  obtain ⟨m, hm⟩ : ∃ m, m = n + 1 := ⟨_, rfl⟩
  have HM : Hid _ := hm
  have hm1 : n < m := by omega
  have hm2 : m ≤ cs := by omega
  have HG : Hid (Seg w b o (wd.dcells (n + 1) M)) := hseg
  clear hseg
  rw [← hm]
  clear hm hcs
  go_enter Tryd.func71, Tryd.ntmps71
  go_wp2
  go_loopw [4, 9] (fun c i wr => ABRel w M D b o n c i wr) (fun _ i _ => n - (intOf i).toNat)
  case atStart => exact ⟨0, by omega, rfl, by rw [wd.carry_zero], by rw [wd.mix_zero]; exact HG.out, Wr.refl _ _ _ _⟩
  case round =>
    obtain ⟨k, hk, rfl, rfl, hseg, hwr⟩ := hrel
    obtain ⟨h0, h1⟩ := wd.carry_range M D k
    obtain ⟨d0, d1⟩ := wd.dg_range M k
    have c3 : wr.cell? ⟨b, o + k, none⟩ = some (.int .u32 (wd.dg M k)) := hseg.cell k _ (wd.mix_at _ _ _ _ _ (by omega) (Nat.le_refl _))
    have c4 : wr.frozen? ⟨b, o + k, none⟩ = false := hseg.free k (by rw [wd.mix_length]; omega)
    by_cases hlt : k < n
    · obtain ⟨by', oy, rfl, hby, hsy⟩ := hy.at (by omega)
      have hne' : by' ≠ b := fun e => hne oy (by rw [e])
      have c1 : wr.cell? ⟨by', oy + k, none⟩ = some (.int .u32 (wd.dg D k)) := (hwr.seg hsy hby hne').cell k _ (wd.dcells_at _ _ _ hlt)
      obtain ⟨e0, e1⟩ := wd.dg_range D k
      have HN : Hid _ := ab_next w wr M D b o n k hlt hseg hwr
      clear hseg
      go_wp2_with (go_at_call 38; refine (add32_any _ _ _ _ d0 d1 e0 e1 h0 h1).mono ?_; rintro e w' ⟨rfl, hw⟩; subst hw)
      go_roundw
      case rel => exact HN.out
      case measure => simp [intOf]; omega
    · obtain rfl : k = n := by omega
      have hl := ab_last w wr M D b o k hseg hwr HL.out
      have HS : Hid _ := hl
      clear hseg hl
      go_wp2
      go_end0
      rw [HM.out]
      exact ⟨rfl, HS.out.1, HS.out.2⟩
end Go.Proofs.YteoepelmapjhcaaDoor
