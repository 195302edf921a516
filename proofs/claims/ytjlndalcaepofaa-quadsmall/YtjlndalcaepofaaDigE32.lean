/-
  What the document's own sign and order of digits answer.
-/
import Derived.Test.YtjlndalcaepofaaDigB32
import Derived.Test.YtjlndalcaepofaaWideA
import Derived.Deep.RegionWith
namespace Go.Proofs.Ytjlndalcaepofaa.d32
open Go.Proofs.Ytjlndalcaepofaa
open Go.RowKit
set_option linter.unusedVariables false

theorem dg15 (v : Int) (h0 : -57896044618658097711785492504343953926634992332820282019728792003956564819968 ≤ v) (h1 : v < 57896044618658097711785492504343953926634992332820282019728792003956564819968) : 128 ≤ dg v 31 ↔ v < 0 := by
  have e : (256 : Int) ^ 31 = 452312848583266388373324160190187140051835877600158453279131187530910662656 := by decide
  unfold dg; rw [e]; omega
theorem below_yes (v : Int) (b : Nat) {cap : Nat} (w : World) (r : Row w b (dcells 32 v)) (h : 128 ≤ dg v 31) :
    Calls Try.prog 31 #[.slice (some ⟨b, 0, none⟩) 32 cap] w fun e w' => e = .returned (.bool true) ∧ w' = w := by
  have c : w.cell? ⟨b, 31, none⟩ = some (.int .i64 (dg v 31)) := r.cell 31 _ (dcells_at _ _ _ (by decide))
  go_enter Try.func31, Try.ntmps31
  go_wp2
  go_ret
  exact ⟨rfl, rfl⟩
theorem below_no (v : Int) (b : Nat) {cap : Nat} (w : World) (r : Row w b (dcells 32 v)) (h : ¬ 128 ≤ dg v 31) :
    Calls Try.prog 31 #[.slice (some ⟨b, 0, none⟩) 32 cap] w fun e w' => e = .returned (.bool false) ∧ w' = w := by
  have c : w.cell? ⟨b, 31, none⟩ = some (.int .i64 (dg v 31)) := r.cell 31 _ (dcells_at _ _ _ (by decide))
  have hd : decide (128 ≤ dg v 31) = false := by simpa using h
  go_enter Try.func31, Try.ntmps31
  go_wp2
  go_ret
  exact ⟨rfl, rfl⟩

theorem emod_zero (v : Int) : ∀ k : Nat, (∀ j, j < k → dg v j = 0) → v % 256 ^ k = 0
  | 0, _ => by simp [Int.emod_one]
  | k + 1, h => by rw [emod_succ, h k (by omega), emod_zero v k (fun j hj => h j (by omega))]; simp
theorem rsign_any (v : Int) (b : Nat) {cap : Nat} (w : World) (r : Row w b (dcells 32 v)) (h0 : -57896044618658097711785492504343953926634992332820282019728792003956564819968 ≤ v) (h1 : v < 57896044618658097711785492504343953926634992332820282019728792003956564819968) :
    Calls Try.prog 24 #[.slice (some ⟨b, 0, none⟩) 32 cap] w fun e w' => e = .returned (.int .i64 (cmpI v 0)) ∧ w' = w := by
  by_cases hneg : v < 0
  · have HC : Hid (cmpI v 0 = -1) := by unfold Hid cmpI; rw [if_pos hneg]
    have hb := (dg15 v h0 h1).2 hneg
    go_enter Try.func24, Try.ntmps24
    go_wp2_with (go_at_call 31; refine (below_yes v b _ r hb).mono ?_; rintro e w' ⟨rfl, hw⟩; have hw := hw.symm; subst hw)
    go_ret
    exact ⟨ret_int HC.out.symm, rfl⟩
  · have hb : ¬ 128 ≤ dg v 31 := fun h => hneg ((dg15 v h0 h1).1 h)
    have HB : Hid (¬ 128 ≤ dg v 31) := hb
    clear hb
    go_enter Try.func24, Try.ntmps24
    go_wp2_with (go_at_call 31; refine (below_no v b _ r HB.out).mono ?_; rintro e w' ⟨rfl, hw⟩; have hw := hw.symm; subst hw)
    go_loop [3] (fun i => ∃ k : Nat, k ≤ 32 ∧ i = .int .i64 (k : Int) ∧ ∀ j, j < k → dg v j = 0) (fun i => 32 - (intOf i).toNat)
    case atStart => exact ⟨0, by omega, rfl, fun j hj => by omega⟩
    case round =>
      obtain ⟨k, hk, rfl, hz⟩ := hrel
      have HZ : Hid (∀ j, j < k → dg v j = 0) := hz
      clear hz
      by_cases hlt : k < 32
      · have c := r.cell k _ (dcells_at 32 v k hlt)
        have hl : (k : Int) < 32 := by omega
        by_cases hp : 0 < dg v k
        · have HC : Hid (cmpI v 0 = 1) := by
            have : v ≠ 0 := fun e => by rw [e] at hp; simp [dg] at hp
            unfold Hid cmpI; rw [if_neg (by omega), if_pos (by omega)]
          go_wp2
          go_ret
          exact ⟨ret_int HC.out.symm, rfl⟩
        · have hr := dg_range v k
          have hn : ∀ j, j < k + 1 → dg v j = 0 := fun j hj => by
            rcases Nat.lt_or_ge j k with h | h
            · exact HZ.out j h
            · obtain rfl : j = k := by omega
              omega
          have HN : Hid (∀ j, j < k + 1 → dg v j = 0) := hn
          clear hn hr
          go_wp2
          go_round
          case rel => exact ⟨k + 1, by omega, by simp, HN.out⟩
          case measure => simp [intOf]; omega
      · obtain rfl : k = 32 := by omega
        have HC : Hid (cmpI v 0 = 0) := by
          have := emod_zero v 32 HZ.out
          have e : (256 : Int) ^ 32 = 115792089237316195423570985008687907853269984665640564039457584007913129639936 := by decide
          rw [e] at this
          unfold Hid cmpI; rw [if_neg (by omega), if_neg (by omega)]
        go_wp2
        go_ret
        exact ⟨ret_int HC.out.symm, rfl⟩

theorem div_step (x : Int) (k : Nat) : x / 256 ^ k = x / 256 ^ (k + 1) * 256 + dg x k := by
  have e : x / 256 ^ (k + 1) = x / 256 ^ k / 256 := by
    have hp := p256 k
    rw [Int.pow_succ, Int.ediv_ediv, if_neg (by omega)]; omega
  rw [e]; unfold dg; omega
theorem lt_of_div {x y : Int} {k : Nat} (h : x / 256 ^ k < y / 256 ^ k) : x < y := by
  rcases Int.lt_or_le x y with l | l
  · exact l
  · have := Int.ediv_le_ediv (p256 k) l; omega
theorem drewN2 (w : World) (n m : Nat) : (w.drewN n).drewN m = w.drewN (n + m) := by simp [World.drewN, Nat.add_assoc]
set_option maxHeartbeats 1000000 in
theorem rcmp_any (x y : Int) (ba bb : Nat) {ca cb : Nat} (w : World) (ra : Row w ba (dcells 32 x)) (rb : Row w bb (dcells 32 y)) (x0 : -57896044618658097711785492504343953926634992332820282019728792003956564819968 ≤ x) (x1 : x < 57896044618658097711785492504343953926634992332820282019728792003956564819968) (y0 : -57896044618658097711785492504343953926634992332820282019728792003956564819968 ≤ y) (y1 : y < 57896044618658097711785492504343953926634992332820282019728792003956564819968) :
    Calls Try.prog 22 #[.slice (some ⟨ba, 0, none⟩) 32 ca, .slice (some ⟨bb, 0, none⟩) 32 cb] w fun e w' => e = .returned (.int .i64 (cmpI x y)) ∧ ∃ n, w' = w.drewN n := by
  have dx := dg15 x x0 x1
  have dy := dg15 y y0 y1
  have e16 : (256 : Int) ^ 32 = 115792089237316195423570985008687907853269984665640564039457584007913129639936 := by decide
  by_cases hx : x < 0 <;> by_cases hy : y < 0
  · have BX : Hid (128 ≤ dg x 31) := dx.2 hx
    have BY : Hid (128 ≤ dg y 31) := dy.2 hy
    have HH : Hid (x / 256 ^ 32 = y / 256 ^ 32) := by unfold Hid; rw [e16]; omega
    clear dx dy e16
    go_enter Try.func22, Try.ntmps22
    go_wp2_with (first
      | (go_at_call_of 31 (Value.slice (some (Addr.mk ba 0 none)) 32 ca); refine (below_yes x ba _ ra BX.out).mono ?_; rintro e w' ⟨rfl, hw⟩; have hw := hw.symm; subst hw)
      | (go_at_call_of 31 (Value.slice (some (Addr.mk bb 0 none)) 32 cb); refine (below_yes y bb _ rb BY.out).mono ?_; rintro e w' ⟨rfl, hw⟩; have hw := hw.symm; subst hw))
    go_loopw [5] (fun i wr => ∃ k : Nat, k ≤ 32 ∧ i = .int .i64 ((k : Int) - 1) ∧ x / 256 ^ k = y / 256 ^ k ∧ ∃ n, wr = w.drewN n) (fun i _ => (intOf i + 1).toNat)
    case atStart => exact ⟨32, by omega, rfl, HH.out, 0, rfl⟩
    case round =>
      obtain ⟨k, hk, rfl, hz, n, rfl⟩ := hrel
      have HZ : Hid (x / 256 ^ k = y / 256 ^ k) := hz
      clear hz
      rcases k with _ | k
      · have HC : Hid (cmpI x y = 0) := by
          have := HZ.out
          simp at this
          unfold Hid cmpI; rw [if_neg (by omega), if_neg (by omega)]
        go_wp2
        go_ret
        exact ⟨ret_int HC.out.symm, n, rfl⟩
      · have c1 : w.cell? ⟨ba, k, none⟩ = some (.int .i64 (dg x k)) := ra.cell k _ (dcells_at _ _ _ (by omega))
        have c2 : w.cell? ⟨bb, k, none⟩ = some (.int .i64 (dg y k)) := rb.cell k _ (dcells_at _ _ _ (by omega))
        have hl : (k : Int) < 32 := by omega
        have D1 : Hid _ := div_step x k
        have D2 : Hid _ := div_step y k
        have hi' : (((k + 1 : Nat) : Int) - 1) = (k : Int) := by omega
        rw [hi']
        clear hi'
        rcases Int.lt_trichotomy (dg x k) (dg y k) with hc | hc | hc
        · have HC : Hid (cmpI x y = -1) := by
            have := lt_of_div (x := x) (y := y) (k := k) (by have := D1.out; have := D2.out; have := HZ.out; omega)
            unfold Hid cmpI; rw [if_pos this]
          go_wp2
          go_quiet (fail)
          go_wp2
          go_ret
          exact ⟨ret_int HC.out.symm, _, drewN2 _ _ _⟩
        · have HZ' : Hid (x / 256 ^ k = y / 256 ^ k) := by have := D1.out; have := D2.out; have := HZ.out; unfold Hid; omega
          have hn1 : ¬ dg x k < dg y k := by omega
          have hn2 : ¬ dg y k < dg x k := by omega
          clear hc
          go_wp2
          go_quiet (fail)
          go_wp2
          go_quiet (fail)
          go_wp2
          go_roundw
          case rel => exact ⟨k, by omega, rfl, HZ'.out, _, rfl⟩
          case measure => simp [intOf]
        · have HC : Hid (cmpI x y = 1) := by
            have := lt_of_div (x := y) (y := x) (k := k) (by have := D1.out; have := D2.out; have := HZ.out; omega)
            unfold Hid cmpI; rw [if_neg (by omega), if_pos this]
          have hn1 : ¬ dg x k < dg y k := by omega
          go_wp2
          go_quiet (fail)
          go_wp2
          go_quiet (fail)
          go_wp2
          go_ret
          exact ⟨ret_int HC.out.symm, _, (drewN2 _ _ _).trans (by rw [drewN2])⟩
  · have BX : Hid (128 ≤ dg x 31) := dx.2 hx
    have BY : Hid (¬ 128 ≤ dg y 31) := fun h => hy (dy.1 h)
    have HC : Hid (cmpI x y = -1) := by unfold Hid cmpI; rw [if_pos (by omega)]
    clear dx dy e16
    go_enter Try.func22, Try.ntmps22
    go_wp2_with (first
      | (go_at_call_of 31 (Value.slice (some (Addr.mk ba 0 none)) 32 ca); refine (below_yes x ba _ ra BX.out).mono ?_; rintro e w' ⟨rfl, hw⟩; have hw := hw.symm; subst hw)
      | (go_at_call_of 31 (Value.slice (some (Addr.mk bb 0 none)) 32 cb); refine (below_no y bb _ rb (by have := BY.out; omega)).mono ?_; rintro e w' ⟨rfl, hw⟩; have hw := hw.symm; subst hw))
    go_ret
    exact ⟨ret_int HC.out.symm, 0, rfl⟩
  · have BX : Hid (¬ 128 ≤ dg x 31) := fun h => hx (dx.1 h)
    have BY : Hid (128 ≤ dg y 31) := dy.2 hy
    have HC : Hid (cmpI x y = 1) := by unfold Hid cmpI; rw [if_neg (by omega), if_pos (by omega)]
    clear dx dy e16
    go_enter Try.func22, Try.ntmps22
    go_wp2_with (first
      | (go_at_call_of 31 (Value.slice (some (Addr.mk ba 0 none)) 32 ca); refine (below_no x ba _ ra (by have := BX.out; omega)).mono ?_; rintro e w' ⟨rfl, hw⟩; have hw := hw.symm; subst hw)
      | (go_at_call_of 31 (Value.slice (some (Addr.mk bb 0 none)) 32 cb); refine (below_yes y bb _ rb BY.out).mono ?_; rintro e w' ⟨rfl, hw⟩; have hw := hw.symm; subst hw))
    go_ret
    exact ⟨ret_int HC.out.symm, 0, rfl⟩
  · have BX : Hid (¬ 128 ≤ dg x 31) := fun h => hx (dx.1 h)
    have BY : Hid (¬ 128 ≤ dg y 31) := fun h => hy (dy.1 h)
    have HH : Hid (x / 256 ^ 32 = y / 256 ^ 32) := by unfold Hid; rw [e16]; omega
    clear dx dy e16
    go_enter Try.func22, Try.ntmps22
    go_wp2_with (first
      | (go_at_call_of 31 (Value.slice (some (Addr.mk ba 0 none)) 32 ca); refine (below_no x ba _ ra (by have := BX.out; omega)).mono ?_; rintro e w' ⟨rfl, hw⟩; have hw := hw.symm; subst hw)
      | (go_at_call_of 31 (Value.slice (some (Addr.mk bb 0 none)) 32 cb); refine (below_no y bb _ rb (by have := BY.out; omega)).mono ?_; rintro e w' ⟨rfl, hw⟩; have hw := hw.symm; subst hw))
    go_loopw [5] (fun i wr => ∃ k : Nat, k ≤ 32 ∧ i = .int .i64 ((k : Int) - 1) ∧ x / 256 ^ k = y / 256 ^ k ∧ ∃ n, wr = w.drewN n) (fun i _ => (intOf i + 1).toNat)
    case atStart => exact ⟨32, by omega, rfl, HH.out, 0, rfl⟩
    case round =>
      obtain ⟨k, hk, rfl, hz, n, rfl⟩ := hrel
      have HZ : Hid (x / 256 ^ k = y / 256 ^ k) := hz
      clear hz
      rcases k with _ | k
      · have HC : Hid (cmpI x y = 0) := by
          have := HZ.out
          simp at this
          unfold Hid cmpI; rw [if_neg (by omega), if_neg (by omega)]
        go_wp2
        go_ret
        exact ⟨ret_int HC.out.symm, n, rfl⟩
      · have c1 : w.cell? ⟨ba, k, none⟩ = some (.int .i64 (dg x k)) := ra.cell k _ (dcells_at _ _ _ (by omega))
        have c2 : w.cell? ⟨bb, k, none⟩ = some (.int .i64 (dg y k)) := rb.cell k _ (dcells_at _ _ _ (by omega))
        have hl : (k : Int) < 32 := by omega
        have D1 : Hid _ := div_step x k
        have D2 : Hid _ := div_step y k
        have hi' : (((k + 1 : Nat) : Int) - 1) = (k : Int) := by omega
        rw [hi']
        clear hi'
        rcases Int.lt_trichotomy (dg x k) (dg y k) with hc | hc | hc
        · have HC : Hid (cmpI x y = -1) := by
            have := lt_of_div (x := x) (y := y) (k := k) (by have := D1.out; have := D2.out; have := HZ.out; omega)
            unfold Hid cmpI; rw [if_pos this]
          go_wp2
          go_quiet (fail)
          go_wp2
          go_ret
          exact ⟨ret_int HC.out.symm, _, drewN2 _ _ _⟩
        · have HZ' : Hid (x / 256 ^ k = y / 256 ^ k) := by have := D1.out; have := D2.out; have := HZ.out; unfold Hid; omega
          have hn1 : ¬ dg x k < dg y k := by omega
          have hn2 : ¬ dg y k < dg x k := by omega
          clear hc
          go_wp2
          go_quiet (fail)
          go_wp2
          go_quiet (fail)
          go_wp2
          go_roundw
          case rel => exact ⟨k, by omega, rfl, HZ'.out, _, rfl⟩
          case measure => simp [intOf]
        · have HC : Hid (cmpI x y = 1) := by
            have := lt_of_div (x := y) (y := x) (k := k) (by have := D1.out; have := D2.out; have := HZ.out; omega)
            unfold Hid cmpI; rw [if_neg (by omega), if_pos this]
          have hn1 : ¬ dg x k < dg y k := by omega
          go_wp2
          go_quiet (fail)
          go_wp2
          go_quiet (fail)
          go_wp2
          go_ret
          exact ⟨ret_int HC.out.symm, _, (drewN2 _ _ _).trans (by rw [drewN2])⟩
end Go.Proofs.Ytjlndalcaepofaa.d32
