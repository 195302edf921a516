/-
  What the document's own product of digits answers.
-/
import Derived.Test.YtjlndalcaepofaaDigB32
namespace Go.Proofs.Ytjlndalcaepofaa.d32
open Go.Proofs.Ytjlndalcaepofaa
open Go.RowKit
set_option linter.unusedVariables false

/-- What stands below place i + k, and over it, when k digits of y have been taken times digit i of x. -/
def tk (O xi y : Int) (i k : Nat) : Int := O % 256 ^ (i + k) + xi * 256 ^ i * (y % 256 ^ k)
def cy (O xi y : Int) (i k : Nat) : Int := tk O xi y i k / 256 ^ (i + k)
theorem pow_ik (i k : Nat) : (256 : Int) ^ (i + k) = 256 ^ i * 256 ^ k := Int.pow_add _ _ _
theorem tk_succ (O xi y : Int) (i k : Nat) : tk O xi y i (k + 1) = tk O xi y i k + (dg O (i + k) + xi * dg y k) * 256 ^ (i + k) := by
  unfold tk
  rw [← Nat.add_assoc, emod_succ, emod_succ, Int.add_mul, Int.mul_add, pow_ik]
  have e : xi * 256 ^ i * (dg y k * 256 ^ k) = xi * dg y k * (256 ^ i * 256 ^ k) := by
    rw [Int.mul_assoc xi, Int.mul_left_comm (256 ^ i) (dg y k), Int.mul_assoc xi (dg y k)]
  rw [e]; omega
theorem cy_sum (O xi y : Int) (i k : Nat) : tk O xi y i (k + 1) / 256 ^ (i + k) = cy O xi y i k + dg O (i + k) + xi * dg y k := by
  rw [tk_succ, Int.add_mul_ediv_right _ _ (Int.ne_of_gt (p256 _))]; unfold cy; omega
theorem cy_succ (O xi y : Int) (i k : Nat) : cy O xi y i (k + 1) = (cy O xi y i k + dg O (i + k) + xi * dg y k) / 256 := by
  rw [← cy_sum]
  show tk O xi y i (k + 1) / 256 ^ (i + k + 1) = _
  have hp := p256 (i + k)
  rw [Int.pow_succ, Int.ediv_ediv, if_neg (by omega)]; omega
theorem mul_digit (O xi y : Int) (i k : Nat) : (cy O xi y i k + dg O (i + k) + xi * dg y k) % 256 = dg (O + xi * 256 ^ i * y) (i + k) := by
  rw [← cy_sum]
  show dg (tk O xi y i (k + 1)) (i + k) = _
  refine (dg_congr (i := i + k + 1) (O / 256 ^ (i + k + 1) + xi * (y / 256 ^ (k + 1))) ?_ (by omega)).symm
  unfold tk
  have h1 := Int.mul_ediv_add_emod O (256 ^ (i + k + 1))
  have h2 := Int.mul_ediv_add_emod y (256 ^ (k + 1))
  have e0 : i + (k + 1) = i + k + 1 := by omega
  rw [e0, Int.add_mul]
  have e1 : O / 256 ^ (i + k + 1) * (256 : Int) ^ (i + k + 1) = 256 ^ (i + k + 1) * (O / 256 ^ (i + k + 1)) := Int.mul_comm _ _
  have e2 : xi * (y / 256 ^ (k + 1)) * (256 : Int) ^ (i + k + 1) = xi * 256 ^ i * (256 ^ (k + 1) * (y / 256 ^ (k + 1))) := by
    rw [← e0, pow_ik i (k + 1)]
    generalize (256 : Int) ^ (k + 1) = K
    rw [Int.mul_assoc xi, Int.mul_assoc xi, Int.mul_left_comm (y / K) (256 ^ i) K, Int.mul_comm (y / K) K]
  have e3 : xi * 256 ^ i * y = xi * 256 ^ i * (256 ^ (k + 1) * (y / 256 ^ (k + 1))) + xi * 256 ^ i * (y % 256 ^ (k + 1)) := by rw [← Int.mul_add, h2]
  rw [e1, e2, e3]; omega
theorem cy_zero (O xi y : Int) (i : Nat) : cy O xi y i 0 = 0 := by
  unfold cy tk
  have hp := p256 i
  have a := Int.emod_nonneg O (Int.ne_of_gt hp)
  have a' := Int.emod_lt_of_pos O hp
  have e : y % (256 : Int) ^ 0 = 0 := by simp [Int.emod_one]
  rw [e]
  simp only [Nat.add_zero, Int.mul_zero, Int.add_zero]
  exact Int.ediv_eq_zero_of_lt a a'
theorem cy_range (O xi y : Int) (i k : Nat) (h0 : 0 ≤ xi) (h1 : xi < 256) : 0 ≤ cy O xi y i k ∧ cy O xi y i k ≤ 255 := by
  unfold cy tk
  have hp := p256 (i + k)
  have hi := p256 i
  have hk := p256 k
  have a := Int.emod_nonneg O (Int.ne_of_gt hp)
  have a' := Int.emod_lt_of_pos O hp
  have b := Int.emod_nonneg y (Int.ne_of_gt hk)
  have b' := Int.emod_lt_of_pos y hk
  have c : 0 ≤ xi * 256 ^ i * (y % 256 ^ k) := Int.mul_nonneg (Int.mul_nonneg h0 (Int.le_of_lt hi)) b
  have c' : xi * 256 ^ i * (y % 256 ^ k) ≤ 255 * 256 ^ (i + k) := by
    rw [pow_ik, ← Int.mul_assoc]
    exact Int.mul_le_mul (Int.mul_le_mul_of_nonneg_right (by omega) (Int.le_of_lt hi)) (by omega) b (Int.mul_nonneg (by decide) (Int.le_of_lt hi))
  refine ⟨Int.ediv_nonneg (by omega) (by omega), ?_⟩
  have : (O % 256 ^ (i + k) + xi * 256 ^ i * (y % 256 ^ k)) / 256 ^ (i + k) < 256 := Int.ediv_lt_of_lt_mul hp (by omega)
  omega
theorem dg_mul (x y : Int) (i k : Nat) : 0 ≤ dg x i * dg y k ∧ dg x i * dg y k ≤ 65025 := by
  obtain ⟨a, a'⟩ := dg_range x i
  obtain ⟨b, b'⟩ := dg_range y k
  refine ⟨Int.mul_nonneg a b, ?_⟩
  have := Int.mul_le_mul (show dg x i ≤ 255 by omega) (show dg y k ≤ 255 by omega) b (by decide)
  omega
theorem mul_next (x y : Int) (i : Nat) : x % 256 ^ i * y + dg x i * 256 ^ i * y = x % 256 ^ (i + 1) * y := by rw [emod_succ, Int.add_mul]; omega
theorem mix_start (n i : Nat) (O xi y : Int) : mix n i (O + xi * 256 ^ i * y) O = dcells n O := by
  rw [← mix_zero n O O]
  refine fill_congr fun j _ => ?_
  by_cases h : j < i
  · have e : dg (O + xi * 256 ^ i * y) j = dg O j := dg_congr (i := i) (xi * y) (by rw [Int.mul_assoc, Int.mul_comm (256 ^ i) y, ← Int.mul_assoc]) h
    simp [h, e]
  · simp [h]
theorem mul_last (x y : Int) : dcells 32 (x % 256 ^ 32 * y) = dcells 32 (x * y) := by
  refine dcells_congr (-(x / 256 ^ 32 * y)) ?_
  have h1 := Int.mul_ediv_add_emod x (256 ^ 32)
  have e : x * y = 256 ^ 32 * (x / 256 ^ 32) * y + x % 256 ^ 32 * y := by rw [← Int.add_mul, h1]
  have e2 : x / 256 ^ 32 * y * (256 : Int) ^ 32 = 256 ^ 32 * (x / 256 ^ 32) * y := by rw [Int.mul_comm _ ((256 : Int) ^ 32), Int.mul_assoc]
  rw [Int.neg_mul, e2]; omega

/-- What holds at the head of each round of the inner loop. -/
def InRel (w : World) (x y : Int) (i : Nat) (c kk : Value) (wr : World) : Prop := ∃ k : Nat, i + k ≤ 32 ∧ kk = .int .i64 (k : Int) ∧ c = .int .i64 (cy (x % 256 ^ i * y) (dg x i) y i k) ∧ Row wr w.heap.size (mix 32 (i + k) (x % 256 ^ i * y + dg x i * 256 ^ i * y) (x % 256 ^ i * y)) ∧ Below w.heap.size w wr ∧ w.heap.size < wr.heap.size
def OutRel (w : World) (x y : Int) (ii : Value) (wr : World) : Prop := ∃ i : Nat, i ≤ 32 ∧ ii = .int .i64 (i : Int) ∧ Row wr w.heap.size (dcells 32 (x % 256 ^ i * y)) ∧ Below w.heap.size w wr ∧ w.heap.size < wr.heap.size
theorem inRel_next (w wr : World) (x y : Int) (i k n : Nat) (hk : i + k < 32) (hrow : Row wr w.heap.size (mix 32 (i + k) (x % 256 ^ i * y + dg x i * 256 ^ i * y) (x % 256 ^ i * y))) (hb : Below w.heap.size w wr) (hs : w.heap.size < wr.heap.size) :
    InRel w x y i (.int .i64 ((cy (x % 256 ^ i * y) (dg x i) y i k + dg (x % 256 ^ i * y) (i + k) + dg x i * dg y k) / 256)) (.int .i64 ((k : Int) + 1))
      ((wr.drewN n).setCell ⟨w.heap.size, i + k, none⟩ (.int .i64 ((cy (x % 256 ^ i * y) (dg x i) y i k + dg (x % 256 ^ i * y) (i + k) + dg x i * dg y k) % 256))) := by
  refine ⟨k + 1, by omega, by simp, by rw [cy_succ], ?_, (below_drewN hb n).setCell (Nat.le_refl _) _, by simpa using hs⟩
  rw [mul_digit, ← Nat.add_assoc, ← mix_set]
  exact (hrow.drewN n).set (i + k) _ (by rw [mix_length]; exact hk)

set_option maxHeartbeats 1000000 in
theorem rmul_any (x y : Int) (ba bb : Nat) {ca cb : Nat} (w : World) (ra : Row w ba (dcells 32 x)) (rb : Row w bb (dcells 32 y)) (ha : ba < w.heap.size) (hb : bb < w.heap.size) :
    Calls Try.prog 20 #[.slice (some ⟨ba, 0, none⟩) 32 ca, .slice (some ⟨bb, 0, none⟩) 32 cb] w fun e w' => ∃ b, e = .returned (.slice (some ⟨b, 0, none⟩) 32 32) ∧ Made w w' b (x * y) := by
  have hmk := makeD
  go_enter Try.func20, Try.ntmps20
  go_wp2
  clear hmk
  go_loopw [6] (fun i wr => OutRel w x y i wr) (fun i _ => 32 - (intOf i).toNat)
  case atStart =>
    refine ⟨0, by omega, rfl, ?_, (Below.refl _ _).alloc (Nat.le_refl _) _, by simp⟩
    have e : x % (256 : Int) ^ 0 * y = 0 := by simp [Int.emod_one]
    rw [e, zeroD]
    exact Row.new _ _ _
  case round =>
    obtain ⟨i, hi, rfl, hrow, hbr, hsz⟩ := hrel
    by_cases hlt : i < 32
    · obtain ⟨wo, rfl⟩ : ∃ wo : World, wo = wr := ⟨_, rfl⟩
      have hl : (i : Int) < 32 := by omega
      go_wp2
      go_loopw [7, 8] (fun c k wr => InRel w x y i c k wr) (fun _ k _ => 32 - (intOf k).toNat)
      case atStart => exact ⟨0, by omega, rfl, by rw [cy_zero], by rw [Nat.add_zero, mix_start]; exact hrow, hbr, hsz⟩
      case round =>
        clear hrow hbr hsz
        obtain ⟨k, hk, rfl, rfl, hrow, hbr, hsz⟩ := hrel
        by_cases hlt2 : i + k < 32
        · have c1 : wr.cell? ⟨ba, i, none⟩ = some (.int .i64 (dg x i)) := (hbr.cell (p := ⟨ba, i, none⟩) ha).trans (ra.cell i _ (dcells_at _ _ _ hlt))
          have c2 : wr.cell? ⟨bb, k, none⟩ = some (.int .i64 (dg y k)) := (hbr.cell (p := ⟨bb, k, none⟩) hb).trans (rb.cell k _ (dcells_at _ _ _ (by omega)))
          have c3 : wr.cell? ⟨w.heap.size, i + k, none⟩ = some (.int .i64 (dg (x % 256 ^ i * y) (i + k))) := hrow.cell (i + k) _ (mix_at _ _ _ _ _ hlt2 (Nat.le_refl _))
          have c4 : wr.frozen? ⟨w.heap.size, i + k, none⟩ = false := hrow.free (i + k) (by rw [mix_length]; exact hlt2)
          have hn := fun n => inRel_next w wr x y i k n hlt2 hrow hbr hsz
          obtain ⟨O, hO⟩ : ∃ O, x % 256 ^ i * y = O := ⟨_, rfl⟩
          rw [hO] at c3 hn ⊢
          have hk16 : (k : Int) < 32 := by omega
          have hik : (i : Int) + (k : Int) < 32 := by omega
          obtain ⟨d0, d1⟩ := dg_range O (i + k)
          obtain ⟨e0, e1⟩ := dg_range x i
          obtain ⟨f0, f1⟩ := cy_range O (dg x i) y i k e0 e1
          obtain ⟨g0, g1⟩ := dg_mul x y i k
          have HO : Hid _ := hO
          clear hO hrow
          go_wp2
          go_quiet (fail)
          go_wp2
          go_roundw
          case rel => exact hn _
          case measure => simp [intOf]; omega
        · have e16 : i + k = 32 := by omega
          rw [e16, mix_full, mul_next] at hrow
          have hik : ¬ (i : Int) + (k : Int) < 32 := by omega
          have E : Hid _ := e16
          clear e16
          go_wp2
          go_roundw
          case rel => exact ⟨i + 1, by omega, by simp, hrow, hbr, hsz⟩
          case measure => simp [intOf]; omega
    · obtain rfl : i = 32 := by omega
      rw [mul_last] at hrow
      go_wp2
      go_ret
      exact ⟨_, rfl, hrow, Nat.le_refl _, hsz, hbr⟩
end Go.Proofs.Ytjlndalcaepofaa.d32
