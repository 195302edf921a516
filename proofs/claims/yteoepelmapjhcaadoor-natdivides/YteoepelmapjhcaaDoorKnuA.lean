/-
  What nat's shiftUp and shiftDown answer, and math/bits.LeadingZeros32.
-/
import Derived.Test.YteoepelmapjhcaaDoorKnuC
import Derived.Test.YteoepelmapjhcaaDoorBitsA
import Derived.BigQuiet
namespace Go.Proofs.YteoepelmapjhcaaDoor
open Go.RowKit
set_option linter.unusedVariables false

set_option maxHeartbeats 1000000 in
theorem leading_any (x L : Nat) {xv : Int} (hx : xv = (x : Int)) (h : x < 4294967296) (hL : bt.nlen x = 32 - L) (hL' : L ≤ 32) (w : World) :
    Calls Tryd.prog 55 #[.int .u32 xv] w fun e w' => e = .returned (.int .i64 (L : Int)) ∧ w = w' := by
  obtain ⟨M, hM⟩ : ∃ M, M = 32 - L := ⟨_, rfl⟩
  have H := fun w => len32_any x hx h w
  rw [hL, ← hM] at H
  have HH : Hid _ := H
  have e1 : (32 : Int) - (M : Int) = (L : Int) := by omega
  clear hM H hL hx
  go_enter Tryd.func55, Tryd.ntmps55
  go_wp2_with (go_at_call 50; refine (HH.out _).mono ?_; rintro e w' ⟨rfl, hw⟩; subst hw)
  go_ret
  exact ⟨rfl, rfl⟩

theorem join_low (c d s : Nat) (hs : s < 32) (hc : c < 2 ^ s) (hd : d < 4294967296) : bits BinOp.or IntKind.u64 (c : Int) ((d : Int) * 2 ^ s) = (c : Int) + (d : Int) * 2 ^ s := by
  have h1 : 2 ^ s ≤ 2 ^ 31 := Nat.pow_le_pow_right (by decide) (by omega)
  have h2 : d * 2 ^ s ≤ 4294967295 * 2 ^ 31 := Nat.mul_le_mul (by omega) h1
  have e : (d : Int) * 2 ^ s = ((d * 2 ^ s : Nat) : Int) := by rw [Int.natCast_mul, Int.natCast_pow]; rfl
  rw [e, u64_or_nat _ _ (by omega) (by omega), Nat.or_comm, nat_join s (d * 2 ^ s) c (Nat.mul_mod_left _ _) hc]
  omega

/-- What holds at the head of each round of shiftUp. -/
def UpRel (w : World) (u x : Int) (l b : Nat) (c i : Value) (wr : World) : Prop := ∃ k : Nat, k ≤ l ∧ i = .int .i64 (k : Int) ∧ c = .int .u64 (sc x u k) ∧ Own wr w.heap.size 44 (some ⟨b, 0, none⟩) (l + 1) (l + 1) (wd.mix (l + 1) k (x * u) 0) ∧ Below w.heap.size w wr
theorem up_next (w wr : World) (u x : Int) (l k : Nat) (hk : k < l) (hown : Own wr w.heap.size 44 (some ⟨w.heap.size, 0, none⟩) (l + 1) (l + 1) (wd.mix (l + 1) k (x * u) 0)) (hb : Below w.heap.size w wr) {z : Int} (hz : z = sc x u k + x * wd.dg u k) :
    UpRel w u x l w.heap.size (.int .u64 (z / 4294967296)) (.int .i64 ((k : Int) + 1)) (wr.setCell ⟨w.heap.size, k, none⟩ (.int .u32 (z % 4294967296))) := by
  subst hz
  refine ⟨k + 1, by omega, by simp, by rw [sc_succ], ?_, hb.setCell (Nat.le_refl _) _⟩
  rw [sc_digit, ← wd.mix_set]
  exact Own.set hown _ (by omega)

set_option maxRecDepth 100000 in
set_option maxHeartbeats 1000000 in
theorem shiftUp_any (a : Option Addr) (l cap u s : Nat) (w : World) (ha : Sl w a l cap (wd.dcells l (u : Int))) (hu : u < 4294967296 ^ l) (hl : l ≤ 1000000000) (hs : s < 32) :
    Calls Tryd.prog 56 #[.slice a l cap, .int .i64 (s : Int)] w fun e w' => e = .returned (.slice (some ⟨w.heap.size, 0, none⟩) (l + 1) (l + 1)) ∧ Own w' w.heap.size 44 (some ⟨w.heap.size, 0, none⟩) (l + 1) (l + 1) (wd.dcells (l + 1) ((2 ^ s * u : Nat) : Int)) ∧ Below w.heap.size w w' := by
  obtain ⟨i0, hi0, hz0, hz1, hz2⟩ := info_parts infoWord
  have hz0' : wd.dcells (l + 1) 0 = List.replicate (l + 1) (.int .u32 0) := wd.dcells_zero _
  have hmax : l + 1 ≤ maxLen := by unfold maxLen; omega
  obtain ⟨x, hx⟩ : ∃ x : Nat, x = 2 ^ s := ⟨_, rfl⟩
  have x0 : 0 < x := by rw [hx]; exact Nat.pow_pos (by decide)
  have x1 : x ≤ 2147483648 := by rw [hx]; exact Nat.le_trans (Nat.pow_le_pow_right (by decide) (show s ≤ 31 by omega)) (by decide)
  have hcap := ha.big
  have hroom := ha.room
  unfold maxLen at hcap
  have HX : Hid _ := hx
  have fX : (2 : Int) ^ s = (x : Int) := by rw [hx, Int.natCast_pow]; rfl
  have HJ : Hid (∀ c d : Int, 0 ≤ c → c < x → 0 ≤ d → d < 4294967296 → bits BinOp.or IntKind.u64 c (d * x) = c + x * d) := fun c d c0 c1 d0 d1 => by
    obtain ⟨C, rfl⟩ := Int.eq_ofNat_of_zero_le c0
    obtain ⟨E, rfl⟩ := Int.eq_ofNat_of_zero_le d0
    have := join_low C E s hs (by omega) (by omega)
    rw [fX] at this
    rw [this, Int.mul_comm]
  have HV : Hid (∀ d : Int, 0 ≤ d → d < 4294967296 → IntKind.u64.wrap (d * x) = d * x ∧ 0 ≤ (x : Int) * d ∧ (x : Int) * d ≤ 9223372036854775807) := fun d d0 d1 => by
    have h1 : (x : Int) * d ≤ 2147483648 * 4294967295 := Int.mul_le_mul (by omega) (by omega) d0 (by decide)
    have h0 : 0 ≤ (x : Int) * d := Int.mul_nonneg (by omega) d0
    refine ⟨?_, h0, by omega⟩
    rw [Int.mul_comm, IntKind.wrap_u64]
    omega
  clear hx
  go_enter Tryd.func56, Tryd.ntmps56
  go_wp2_with (at_make; refine make_any _ rfl (.tmp 11) (.tmp 11) 23 rfl w.heap.size 44 i0 (.int .u32 0) Tryd.underlying23 hi0 hz0 hz1 rfl .i64 .i64 _ _ (l + 1) rfl rfl (by simp) (by simp) (by rw [hz2]; omega) (by omega) (Nat.le_refl _) ?_; intro w1 hown hbel)
  rw [← hz0', ← wd.mix_zero (l + 1) ((x : Int) * u)] at hown
  go_loopw [6, 15] (fun c i wr => UpRel w u x l w.heap.size c i wr) (fun _ i _ => l - (intOf i).toNat)
  case atStart => exact ⟨0, by omega, rfl, by rw [sc_zero], hown, hbel⟩
  case round =>
    clear hown hbel
    obtain ⟨k, hk, rfl, rfl, hown, hbel⟩ := hrel
    obtain ⟨f0, f1⟩ := sc_range x u k (by omega) (by omega)
    have f2 := sc_lt x u k (by omega)
    have c3 : wr.cell? ⟨w.heap.size, k, none⟩ = some (.int .u32 (wd.dg 0 k)) := Own.cell hown k _ (wd.mix_at _ _ _ _ _ (by omega) (Nat.le_refl _))
    have c4 : wr.frozen? ⟨w.heap.size, k, none⟩ = false := Own.free hown k (by omega)
    by_cases hlt : k < l
    · obtain ⟨ba, oa, rfl, hba, hseg⟩ := ha.at (by omega)
      have c1 : wr.cell? ⟨ba, oa + k, none⟩ = some (.int .u32 (wd.dg u k)) := (hbel.cell (p := ⟨ba, oa + k, none⟩) hba).trans (hseg.cell k _ (wd.dcells_at _ _ _ hlt))
      obtain ⟨d0, d1⟩ := wd.dg_range u k
      have HN : Hid _ := fun z hz => up_next w wr u x l k hlt hown hbel (z := z) hz
      obtain ⟨fW, g0, g1⟩ := HV.out _ d0 d1
      have fO := HJ.out _ _ f0 f2 d0 d1
      obtain ⟨z, hz⟩ : ∃ z, z = sc x u k + x * wd.dg u k := ⟨_, rfl⟩
      have z0 : 0 ≤ z := by omega
      have z1 : z < 18446744073709551616 := by omega
      rw [← hz] at fO
      have HN := HN.out z hz
      have HN : Hid _ := HN
      clear hown hz g0 g1
      go_wp2
      go_roundw
      case rel => exact HN.out
      case measure => simp [intOf]; omega
    · obtain rfl : k = l := by omega
      have HL : Hid (sc x u k = wd.dg (x * u) k) := by
        unfold Hid wd.dg
        have h1 := sc_last x u k (by omega) (by rw [← wd.pow_cast]; omega)
        rw [← h1]
        omega
      have hlast : Own (wr.setCell ⟨w.heap.size, k, none⟩ (.int .u32 (sc x u k))) w.heap.size 44 (some ⟨w.heap.size, 0, none⟩) (k + 1) (k + 1) (wd.dcells (k + 1) ((x : Int) * u)) := by
        rw [HL.out, ← wd.mix_full (k + 1) ((x : Int) * u) 0, ← wd.mix_set]
        exact Own.set hown _ (by omega)
      have HO : Hid _ := hlast
      have hbel2 := hbel.setCell (p := ⟨w.heap.size, k, none⟩) (Nat.le_refl _) (.int .u32 (sc x u k))
      clear hown hlast
      go_wp2
      go_ret
      refine ⟨rfl, ?_, hbel2⟩
      rw [← HX.out, Int.natCast_mul]
      exact HO.out
end Go.Proofs.YteoepelmapjhcaaDoor
