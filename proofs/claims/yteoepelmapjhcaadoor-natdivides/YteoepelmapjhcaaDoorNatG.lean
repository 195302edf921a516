/-
  What nat's divideByWord answers.
-/
import Derived.Test.YteoepelmapjhcaaDoorNatE
namespace Go.Proofs.YteoepelmapjhcaaDoor
open Go.RowKit
set_option linter.unusedVariables false

/-- Two words joined. -/
theorem join_bits (x y : Int) (hx : 0 ≤ x) (hx' : x < 4294967296) (hy : 0 ≤ y) (hy' : y < 4294967296) : bits BinOp.or IntKind.u64 (x * 4294967296) y = x * 4294967296 + y := by
  obtain ⟨X, rfl⟩ := Int.eq_ofNat_of_zero_le hx
  obtain ⟨Y, rfl⟩ := Int.eq_ofNat_of_zero_le hy
  rw [show (X : Int) * 4294967296 = ((X * 4294967296 : Nat) : Int) by omega, u64_or_nat _ _ (by omega) (by omega), nat_join 32 (X * 4294967296) Y (by omega) (by omega)]
  omega

/-- What holds at the head of each round. -/
def WordRel (w : World) (u : Nat) (d : Int) (b l cap base : Nat) (c i : Value) (wr : World) : Prop := ∃ r : Nat, r ≤ l ∧ i = .int .i64 ((r : Int) - 1) ∧ c = .int .u64 ((u : Int) / 4294967296 ^ r % d) ∧ Own wr base 44 (some ⟨b, 0, none⟩) l cap (wd.xim l r ((u : Int) / d) u) ∧ Wr w wr b 0 l
theorem word_next (w wr : World) (u : Nat) (d : Int) (b l cap base q : Nat) (hd : 0 < d) (hq : q < l) (hown : Own wr base 44 (some ⟨b, 0, none⟩) l cap (wd.xim l (q + 1) ((u : Int) / d) u)) (hw : Wr w wr b 0 l) :
    WordRel w u d b l cap base (.int .u64 (((u : Int) / 4294967296 ^ (q + 1) % d * 4294967296 + wd.dg u q) % d)) (.int .i64 ((q : Int) - 1)) (wr.setCell ⟨b, q, none⟩ (.int .u32 (((u : Int) / 4294967296 ^ (q + 1) % d * 4294967296 + wd.dg u q) / d))) := by
  refine ⟨q, by omega, rfl, by rw [(wd.long_div u d q hd).2], ?_, hw.set _ (Nat.zero_le _) hq⟩
  rw [wd.quot_digit _ _ _ hd, ← wd.xim_set]
  exact Own.set hown _ hq

set_option maxRecDepth 100000 in
set_option maxHeartbeats 1000000 in
theorem divWord_any (b l cap u base : Nat) (d : Int) (w : World) (hown : Own w base 44 (some ⟨b, 0, none⟩) l cap (wd.dcells l (u : Int))) (hu : u < 4294967296 ^ l) (hd : 0 < d) (hd' : d < 4294967296) :
    Calls Tryd.prog 40 #[.slice (some ⟨b, 0, none⟩) l cap, .int .u32 d] w fun e w' => e = .returned (.int .u32 ((u : Int) % d)) ∧ Own w' base 44 (some ⟨b, 0, none⟩) l cap (wd.dcells l ((u : Int) / d)) ∧ Wr w w' b 0 l := by
  have hcap := hown.sl.big
  have hroom := hown.sl.room
  unfold maxLen at hcap
  have HZ : Hid ((u : Int) / 4294967296 ^ l = 0) := Int.ediv_eq_zero_of_lt (by omega) (by rw [← wd.pow_cast]; omega)
  clear hu
  go_enter Tryd.func40, Tryd.ntmps40
  go_wp2
  go_loopw [5, 6] (fun c i wr => WordRel w u d b l cap base c i wr) (fun _ i _ => (intOf i + 1).toNat)
  case atStart => exact ⟨l, Nat.le_refl _, rfl, by rw [HZ.out]; simp, by rw [wd.xim_full]; exact hown, Wr.refl _ _ _ _⟩
  case round =>
    clear hown
    obtain ⟨r, hr, rfl, rfl, hown, hwr⟩ := hrel
    rcases r with _ | q
    · rw [wd.xim_zero] at hown
      have e0 : (u : Int) / 4294967296 ^ 0 = u := by simp
      have f0 : 0 ≤ (u : Int) % d := Int.emod_nonneg _ (by omega)
      have f1 : (u : Int) % d < 4294967296 := by have := Int.emod_lt_of_pos (u : Int) hd; omega
      rw [e0]
      go_wp2
      go_ret
      exact ⟨rfl, hown, hwr⟩
    · have c3 : wr.cell? ⟨b, q, none⟩ = some (.int .u32 (wd.dg u q)) := Own.cell hown q _ (wd.xim_at _ _ _ _ _ (by omega) (by omega))
      have c4 : wr.frozen? ⟨b, q, none⟩ = false := Own.free hown q (by omega)
      obtain ⟨d0, d1⟩ := wd.dg_range u q
      have HN : Hid _ := word_next w wr u d b l cap base q hd (by omega) hown hwr
      have r0 : 0 ≤ (u : Int) / 4294967296 ^ (q + 1) % d := Int.emod_nonneg _ (by omega)
      have r1 : (u : Int) / 4294967296 ^ (q + 1) % d < d := Int.emod_lt_of_pos _ hd
      obtain ⟨R, hR⟩ : ∃ R, (u : Int) / 4294967296 ^ (q + 1) % d = R := ⟨_, rfl⟩
      rw [hR] at r0 r1 HN ⊢
      clear hown hR
      have HB := join_bits R (wd.dg u q) r0 (by omega) d0 d1
      have q0 : 0 ≤ (R * 4294967296 + wd.dg u q) / d := Int.ediv_nonneg (by omega) (by omega)
      have q1 : (R * 4294967296 + wd.dg u q) / d < 4294967296 := Int.ediv_lt_of_lt_mul hd (by omega)
      have e1 : ((q + 1 : Nat) : Int) - 1 = (q : Int) := by omega
      go_wp2
      go_roundw
      case rel => exact HN.out
      case measure => simp [intOf]
end Go.Proofs.YteoepelmapjhcaaDoor
