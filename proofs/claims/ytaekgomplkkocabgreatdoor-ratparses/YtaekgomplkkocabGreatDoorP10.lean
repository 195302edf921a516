/-
  Joined texts, part 10:
  The walk of RatParses, a case a theorem, where the text is not cut.
-/
import Derived.Test.YtaekgomplkkocabGreatDoorP9
import Derived.Test.YtaekgomplkkocabGreatDoorP7
import Derived.Test.YtaekgomplkkocabGreatDoorP6
namespace Go.Proofs.YtaekgomplkkocabGreatDoor
open Go.RowKit
set_option linter.unusedVariables false

namespace prsw
theorem low_by_one (x : Int) : x = lowN x 1 ∧ 1 = lowD x 1 := by
  unfold lowN lowD
  rw [Nat.gcd_one_right, Nat.div_one, Nat.div_one]
  exact ⟨(Int.sign_mul_natAbs x).symm, rfl⟩
theorem hd_one (w : World) : HD (w.alloc (.cells #[.int .i64 1] 3)) (some ⟨w.heap.size, 0, none⟩) 1 1 1 := by
  have e : hf.dcells 1 ((1 : Nat) : Int) = [.int .i64 1] := by simp [hf.dcells, hf.dg]
  refine ⟨?_, (hf.nlen_eq ⟨by decide, Or.inr (by decide)⟩).symm⟩
  rw [e]
  exact new_one w 1 3
set_option maxRecDepth 100000 in
set_option maxHeartbeats 10000000 in
theorem cAn (u t1 t2 : ByteArray) (T : Nat) (z Ez : Int) (w : World) (hpa : ∀ w, Calls Tryz.prog 4 #[.string u] w (GotMk w 0 1 Ez)) (hw1 : ∀ w, Calls Tryz.prog 5 #[.string u] w (GotW1 w z Ez)) (hl : u.size ≤ 200) (hne : ∀ k (hk : k < u.size), k < T → ¬ (u[k].toNat : Int) = 47) (hT : T = u.size) (hE : Ez ≠ 0) :
    Calls Tryz.prog 3 #[.string u] w fun e w' => e = .returned (.bool true) ∧ Below w.heap.size w w' := by
  have HPA : Hid _ := hpa
  clear hpa
  have HW1 : Hid _ := hw1
  clear hw1
  have HNE : Hid _ := hne
  clear hne
  have hl' : ¬ (200 : Int) < (u.size : Int) := by omega
  have hsz := hl
  have BB := Below.refl w.heap.size w
  go_enter Tryz.func3, Tryz.ntmps3
  go_wp2_with (go_at_call 4; fail)
  refine (HPA.out w).mono ?_
  rintro e w1 ⟨n1, a1, l1, c1, d1, m1, k1, rfl, h1, f1, g1, bw1⟩
  have zbw1 := bw1.size
  replace BB := also BB bw1
  obtain ⟨V1, hV1, bV1, x_a, sV1⟩ := bs_3 w1 (.bool n1) (.slice a1 l1 c1) (.slice d1 m1 k1) 27
  have zbV1 := bV1.size
  replace BB := also BB bV1
  replace h1 := h1.below bV1
  go_wp2
  rw [← hV1]
  clear hV1
  go_loopw [5] (fun i wr => ∃ k : Nat, k ≤ T ∧ i = .int .i64 (k : Int) ∧ V1 = wr) (fun i _ => T - (intOf i).toNat)
  case atStart => exact ⟨0, Nat.zero_le _, rfl, rfl⟩
  case round =>
    obtain ⟨k, hk, rfl, hwr⟩ := hrel
    subst hwr
    rcases Nat.lt_or_eq_of_le hk with hlt | hkT
    · have hk2 : k < u.size := by omega
      have hc := HNE.out k hk2 hlt
      have hcb : ((u[k].toNat : Int) == 47) = false := by simpa using hc
      have i1 : (k : Int) < u.size := by omega
      have i0 : (0 : Int) ≤ k := by omega
      go_wp2
      go_roundw
      case rel => exact ⟨k + 1, hlt, by simp, by first | rfl | trivial⟩
      case measure => simp [intOf]; omega
    · subst hkT
      have i1 : ¬ (k : Int) < u.size := by omega
      have i0 : (0 : Int) ≤ k := by omega
      have i2 : (k : Int) ≤ u.size := by omega
      go_wp2_with (go_at_call 5; fail)
      refine (HW1.out V1).mono ?_
      rintro e w2 ⟨s2, d2, l2, c2, rfl, r2, bw2⟩
      have zbw2 := bw2.size
      replace BB := also BB bw2
      replace h1 := h1.below bw2
      replace x_a := x_a.on bw2
      obtain ⟨Vn, hVn, bVn, x_n, sVn⟩ := bs_2 w2 (.int .i64 s2) (.slice d2 l2 c2) 34
      have zbVn := bVn.size
      replace BB := also BB bVn
      replace h1 := h1.below bVn
      replace x_a := x_a.on bVn
      replace r2 := r2.below bVn
      obtain ⟨Vd, hVd⟩ : ∃ Vd, Vd = Vn.alloc (.cells #[.int .i64 1] 3) := ⟨_, rfl⟩
      have bVd : Below Vn.heap.size Vn Vd := by rw [hVd]; exact (Below.refl _ _).alloc (Nat.le_refl _) _
      have hd1 : HD Vd (some ⟨w2.heap.size + 1, 0, none⟩) 1 1 1 := by rw [hVd, show w2.heap.size + 1 = Vn.heap.size by rw [hVn]; simp]; exact hd_one Vn
      have zbVd := bVd.size
      replace BB := also BB bVd
      replace h1 := h1.below bVd
      replace x_a := x_a.on bVd
      replace r2 := r2.below bVd
      replace x_n := x_n.on bVd
      go_wp2_with (go_at_call 7; fail)
      rw [← hVn, ← hVd]
      clear hVn hVd
      refine (rqLong 0 Vd (by decide) (by decide)).mono ?_
      rintro e w4 ⟨s4, d4, l4, c4, t4, g4, h4, k4, rfl, x4, r4, bw4⟩
      have zbw4 := bw4.size
      replace BB := also BB bw4
      replace h1 := h1.below bw4
      replace x_a := x_a.on bw4
      replace r2 := r2.below bw4
      replace x_n := x_n.on bw4
      replace hd1 := hd1.below bw4
      obtain ⟨Vr, hVr, bVr, x_r, sVr⟩ := bs_4 w4 (.int .i64 s4) (.slice d4 l4 c4) (.int .i64 t4) (.slice g4 h4 k4) 40
      have zbVr := bVr.size
      replace BB := also BB bVr
      replace h1 := h1.below bVr
      replace x_a := x_a.on bVr
      replace r2 := r2.below bVr
      replace x_n := x_n.on bVr
      replace hd1 := hd1.below bVr
      replace x4 := x4.below bVr
      go_wp2
      rw [← hVr]
      clear hVr
      have dd1 : Below Vr.heap.size Vr Vr.drew := (Below.refl _ _).drew
      have zdd1 := dd1.size
      replace BB := also BB dd1
      replace h1 := h1.below dd1
      replace x_a := x_a.on dd1
      replace r2 := r2.below dd1
      replace x_n := x_n.on dd1
      replace hd1 := hd1.below dd1
      replace x4 := x4.below dd1
      replace x_r := x_r.on dd1
      refine wp_region_held_drew (S := (fun w' => w'.cell? ⟨w1.heap.size, 0, none⟩ = some (.bool n1) ∧ w'.cell? ⟨w1.heap.size, 1, none⟩ = some (.slice a1 l1 c1) ∧ w'.cell? ⟨w1.heap.size, 2, none⟩ = some (.slice d1 m1 k1) ∧ Below w.heap.size w w')) (by kernel_rfl) ?_ (fun hHeld => ?_)
      · first | exact ⟨x_a.c0, x_a.c1, x_a.c2, BB⟩ | exact ⟨cell_on bw8 hHeld.1, cell_on bw8 hHeld.2.1, cell_on bw8 hHeld.2.2.1, also hHeld.2.2.2 bw8⟩ | exact ⟨cell_on bw7 hHeld.1, cell_on bw7 hHeld.2.1, cell_on bw7 hHeld.2.2.1, also hHeld.2.2.2 bw7⟩ | exact ⟨cell_on bw6 hHeld.1, cell_on bw6 hHeld.2.1, cell_on bw6 hHeld.2.2.1, also hHeld.2.2.2 bw6⟩
      refine take_yes (i := 0) (v := ?vv0) rfl (by kernel_rfl) (by kernel_rfl) (by kernel_rfl) (fun _ _ _ h => h) (by rfl) (by assumption) ?hyv0 ?restv0
      case hyv0 => (intro w hSw; (try dsimp only at hSw); first | (go_simp; done) | (go_simp; with_reducible rfl))
      simp only [Act.put, List.setIfInBounds_toArray, List.set_cons_zero, List.set_cons_succ]
      refine take_call (i := 1) rfl (by kernel_rfl) (fun Kc hK => ?_)
      go_simp
      (go_at_call 7; refine (rqLong 0 _ (by decide) (by decide)).mono ?_; rintro e w6 ⟨s6, d6, l6, c6, t6, g6, h6, k6, rfl, x6, r6, bw6⟩)
      refine hK.out _ _ ?_ (fun hHeld => ?_)
      · first | exact ⟨x_a.c0, x_a.c1, x_a.c2, BB⟩ | exact ⟨cell_on bw8 hHeld.1, cell_on bw8 hHeld.2.1, cell_on bw8 hHeld.2.2.1, also hHeld.2.2.2 bw8⟩ | exact ⟨cell_on bw7 hHeld.1, cell_on bw7 hHeld.2.1, cell_on bw7 hHeld.2.2.1, also hHeld.2.2.2 bw7⟩ | exact ⟨cell_on bw6 hHeld.1, cell_on bw6 hHeld.2.1, cell_on bw6 hHeld.2.2.1, also hHeld.2.2.2 bw6⟩
      clear hK Kc
      have zbw6 := bw6.size
      replace BB := also BB bw6
      replace h1 := h1.below bw6
      replace x_a := x_a.on bw6
      replace r2 := r2.below bw6
      replace x_n := x_n.on bw6
      replace hd1 := hd1.below bw6
      replace x4 := x4.below bw6
      replace x_r := x_r.on bw6
      refine take_call (i := 2) rfl (by kernel_rfl) (fun Kc hK => ?_)
      go_simp
      (go_at_call 9; refine (rqSame n1 a1 l1 c1 d1 m1 k1 0 1 s6 d6 l6 c6 t6 g6 h6 k6 0 1 2 _ h1 x6 rfl rfl).mono ?_; rintro e w7 ⟨rfl, bw7⟩)
      refine hK.out _ _ ?_ (fun hHeld => ?_)
      · first | exact ⟨x_a.c0, x_a.c1, x_a.c2, BB⟩ | exact ⟨cell_on bw8 hHeld.1, cell_on bw8 hHeld.2.1, cell_on bw8 hHeld.2.2.1, also hHeld.2.2.2 bw8⟩ | exact ⟨cell_on bw7 hHeld.1, cell_on bw7 hHeld.2.1, cell_on bw7 hHeld.2.2.1, also hHeld.2.2.2 bw7⟩ | exact ⟨cell_on bw6 hHeld.1, cell_on bw6 hHeld.2.1, cell_on bw6 hHeld.2.2.1, also hHeld.2.2.2 bw6⟩
      clear hK Kc
      have zbw7 := bw7.size
      replace BB := also BB bw7
      replace h1 := h1.below bw7
      replace x_a := x_a.on bw7
      replace r2 := r2.below bw7
      replace x_n := x_n.on bw7
      replace hd1 := hd1.below bw7
      replace x4 := x4.below bw7
      replace x_r := x_r.on bw7
      replace x6 := x6.below bw7
      refine take_yes (i := 3) (v := ?vv3) rfl (by kernel_rfl) (by kernel_rfl) (by kernel_rfl) (fun _ _ _ h => h) (by rfl) (by assumption) ?hyv3 ?restv3
      case hyv3 => (intro w hSw; (try dsimp only at hSw); first | (go_simp; done) | (go_simp; with_reducible rfl))
      simp only [Act.put, List.setIfInBounds_toArray, List.set_cons_zero, List.set_cons_succ]
      refine take_yes (i := 4) (v := ?vv4) rfl (by kernel_rfl) (by kernel_rfl) (by kernel_rfl) (fun _ _ _ h => h) (by rfl) (by assumption) ?hyv4 ?restv4
      case hyv4 => (intro w hSw; (try dsimp only at hSw); first | (go_simp; done) | (go_simp; with_reducible rfl))
      simp only [Act.put, List.setIfInBounds_toArray, List.set_cons_zero, List.set_cons_succ]
      refine take_yes (i := 5) (v := ?vv5) rfl (by kernel_rfl) (by kernel_rfl) (by kernel_rfl) (fun _ _ _ h => h) (by rfl) (by assumption) ?hyv5 ?restv5
      case hyv5 => (intro w hSw; (try dsimp only at hSw); first | (go_simp; done) | (go_simp; with_reducible rfl))
      simp only [Act.put, List.setIfInBounds_toArray, List.set_cons_zero, List.set_cons_succ]
      refine take_yes (i := 6) (v := ?vv6) rfl (by kernel_rfl) (by kernel_rfl) (by kernel_rfl) (fun _ _ _ h => h) (by rfl) (by assumption) ?hyv6 ?restv6
      case hyv6 => (intro w hSw; (try dsimp only at hSw); first | (go_simp; done) | (go_simp; with_reducible rfl))
      simp only [Act.put, List.setIfInBounds_toArray, List.set_cons_zero, List.set_cons_succ]
      refine take_yes (i := 7) (v := ?vv7) rfl (by kernel_rfl) (by kernel_rfl) (by kernel_rfl) (fun _ _ _ h => h) (by rfl) (by assumption) ?hyv7 ?restv7
      case hyv7 => (intro w hSw; (try dsimp only at hSw); first | (go_simp; done) | (go_simp; with_reducible rfl))
      simp only [Act.put, List.setIfInBounds_toArray, List.set_cons_zero, List.set_cons_succ]
      refine take_yes (i := 8) (v := ?vv8) rfl (by kernel_rfl) (by kernel_rfl) (by kernel_rfl) (fun _ _ _ h => h) (by rfl) (by assumption) ?hyv8 ?restv8
      case hyv8 => (intro w hSw; (try dsimp only at hSw); first | (go_simp; done) | (go_simp; with_reducible rfl))
      simp only [Act.put, List.setIfInBounds_toArray, List.set_cons_zero, List.set_cons_succ]
      refine take_call (i := 9) rfl (by kernel_rfl) (fun Kc hK => ?_)
      go_simp
      (go_at_call 10; refine (lives5_any _).mono ?_; rintro e w8 ⟨rfl, bw8⟩)
      refine hK.out _ _ ?_ (fun hHeld => ?_)
      · first | exact ⟨x_a.c0, x_a.c1, x_a.c2, BB⟩ | exact ⟨cell_on bw8 hHeld.1, cell_on bw8 hHeld.2.1, cell_on bw8 hHeld.2.2.1, also hHeld.2.2.2 bw8⟩ | exact ⟨cell_on bw7 hHeld.1, cell_on bw7 hHeld.2.1, cell_on bw7 hHeld.2.2.1, also hHeld.2.2.2 bw7⟩ | exact ⟨cell_on bw6 hHeld.1, cell_on bw6 hHeld.2.1, cell_on bw6 hHeld.2.2.1, also hHeld.2.2.2 bw6⟩
      clear hK Kc
      have zbw8 := bw8.size
      replace BB := also BB bw8
      replace h1 := h1.below bw8
      replace x_a := x_a.on bw8
      replace r2 := r2.below bw8
      replace x_n := x_n.on bw8
      replace hd1 := hd1.below bw8
      replace x4 := x4.below bw8
      replace x_r := x_r.on bw8
      replace x6 := x6.below bw8
      refine take_yes (i := 10) (v := ?vv10) rfl (by kernel_rfl) (by kernel_rfl) (by kernel_rfl) (fun _ _ _ h => h) (by rfl) (by assumption) ?hyv10 ?restv10
      case hyv10 => (intro w hSw; (try dsimp only at hSw); first | (go_simp; done) | (go_simp; with_reducible rfl))
      simp only [Act.put, List.setIfInBounds_toArray, List.set_cons_zero, List.set_cons_succ]
      refine take_yes (i := 11) (v := ?vv11) rfl (by kernel_rfl) (by kernel_rfl) (by kernel_rfl) (fun _ _ _ h => h) (by rfl) (by assumption) ?hyv11 ?restv11
      case hyv11 => (intro w hSw; (try dsimp only at hSw); first | (go_simp; done) | (go_simp; with_reducible rfl))
      simp only [Act.put, List.setIfInBounds_toArray, List.set_cons_zero, List.set_cons_succ]
      refine wpAnyH_done (by kernel_rfl) ?_ _
      go_wp2
      go_ret
      exact ⟨rfl, BB⟩
set_option maxRecDepth 100000 in
set_option maxHeartbeats 10000000 in
theorem cAy (u t1 t2 : ByteArray) (T : Nat) (z Ez : Int) (w : World) (hpa : ∀ w, Calls Tryz.prog 4 #[.string u] w (GotMk w 0 1 Ez)) (hw1 : ∀ w, Calls Tryz.prog 5 #[.string t1] w (GotW1 w z Ez)) (hl : u.size ≤ 200) (he1 : u.extract 0 T = t1) (hne : ∀ k (hk : k < u.size), k < T → ¬ (u[k].toNat : Int) = 47) (he2 : u.extract (T + 1) u.size = t2) (hT : T < u.size) (hch : ∀ hk : T < u.size, (u[T].toNat : Int) = 47) (hE : Ez ≠ 0) :
    Calls Tryz.prog 3 #[.string u] w fun e w' => e = .returned (.bool true) ∧ Below w.heap.size w w' := by
  have HPA : Hid _ := hpa
  clear hpa
  have HW1 : Hid _ := hw1
  clear hw1
  have HNE : Hid _ := hne
  clear hne
  have HE1 : Hid _ := he1
  clear he1
  have HE2 : Hid _ := he2
  clear he2
  have HCH : Hid _ := hch
  clear hch
  have hl' : ¬ (200 : Int) < (u.size : Int) := by omega
  have hsz := hl
  have BB := Below.refl w.heap.size w
  go_enter Tryz.func3, Tryz.ntmps3
  go_wp2_with (go_at_call 4; fail)
  refine (HPA.out w).mono ?_
  rintro e w1 ⟨n1, a1, l1, c1, d1, m1, k1, rfl, h1, f1, g1, bw1⟩
  have zbw1 := bw1.size
  replace BB := also BB bw1
  obtain ⟨V1, hV1, bV1, x_a, sV1⟩ := bs_3 w1 (.bool n1) (.slice a1 l1 c1) (.slice d1 m1 k1) 27
  have zbV1 := bV1.size
  replace BB := also BB bV1
  replace h1 := h1.below bV1
  go_wp2
  rw [← hV1]
  clear hV1
  go_loopw [5] (fun i wr => ∃ k : Nat, k ≤ T ∧ i = .int .i64 (k : Int) ∧ V1 = wr) (fun i _ => T - (intOf i).toNat)
  case atStart => exact ⟨0, Nat.zero_le _, rfl, rfl⟩
  case round =>
    obtain ⟨k, hk, rfl, hwr⟩ := hrel
    subst hwr
    rcases Nat.lt_or_eq_of_le hk with hlt | hkT
    · have hk2 : k < u.size := by omega
      have hc := HNE.out k hk2 hlt
      have hcb : ((u[k].toNat : Int) == 47) = false := by simpa using hc
      have i1 : (k : Int) < u.size := by omega
      have i0 : (0 : Int) ≤ k := by omega
      go_wp2
      go_roundw
      case rel => exact ⟨k + 1, hlt, by simp, by first | rfl | trivial⟩
      case measure => simp [intOf]; omega
    · subst hkT
      have hcx := HCH.out hT
      have hcb : ((u[k].toNat : Int) == 47) = true := by simpa using hcx
      have i1 : (k : Int) < u.size := by omega
      have i3 : (k : Int) + 1 ≤ u.size := by omega
      have i4 : wrap64 ((k : Int) + 1) = (k : Int) + 1 := by unfold wrap64; omega
      have i0 : (0 : Int) ≤ k := by omega
      have i2 : (k : Int) ≤ u.size := by omega
      go_wp2_with (go_at_call 5; fail)
      rw [HE1.out]
      refine (HW1.out V1).mono ?_
      rintro e w2 ⟨s2, d2, l2, c2, rfl, r2, bw2⟩
      have zbw2 := bw2.size
      replace BB := also BB bw2
      replace h1 := h1.below bw2
      replace x_a := x_a.on bw2
      obtain ⟨Vn, hVn, bVn, x_n, sVn⟩ := bs_2 w2 (.int .i64 s2) (.slice d2 l2 c2) 34
      have zbVn := bVn.size
      replace BB := also BB bVn
      replace h1 := h1.below bVn
      replace x_a := x_a.on bVn
      replace r2 := r2.below bVn
      obtain ⟨Vd, hVd⟩ : ∃ Vd, Vd = Vn.alloc (.cells #[.int .i64 1] 3) := ⟨_, rfl⟩
      have bVd : Below Vn.heap.size Vn Vd := by rw [hVd]; exact (Below.refl _ _).alloc (Nat.le_refl _) _
      have hd1 : HD Vd (some ⟨w2.heap.size + 1, 0, none⟩) 1 1 1 := by rw [hVd, show w2.heap.size + 1 = Vn.heap.size by rw [hVn]; simp]; exact hd_one Vn
      have zbVd := bVd.size
      replace BB := also BB bVd
      replace h1 := h1.below bVd
      replace x_a := x_a.on bVd
      replace r2 := r2.below bVd
      replace x_n := x_n.on bVd
      go_wp2_with (go_at_call 7; fail)
      rw [← hVn, ← hVd]
      clear hVn hVd
      refine (rqLong 0 Vd (by decide) (by decide)).mono ?_
      rintro e w4 ⟨s4, d4, l4, c4, t4, g4, h4, k4, rfl, x4, r4, bw4⟩
      have zbw4 := bw4.size
      replace BB := also BB bw4
      replace h1 := h1.below bw4
      replace x_a := x_a.on bw4
      replace r2 := r2.below bw4
      replace x_n := x_n.on bw4
      replace hd1 := hd1.below bw4
      obtain ⟨Vr, hVr, bVr, x_r, sVr⟩ := bs_4 w4 (.int .i64 s4) (.slice d4 l4 c4) (.int .i64 t4) (.slice g4 h4 k4) 40
      have zbVr := bVr.size
      replace BB := also BB bVr
      replace h1 := h1.below bVr
      replace x_a := x_a.on bVr
      replace r2 := r2.below bVr
      replace x_n := x_n.on bVr
      replace hd1 := hd1.below bVr
      replace x4 := x4.below bVr
      go_wp2
      rw [← hVr]
      clear hVr
      have dd1 : Below Vr.heap.size Vr Vr.drew := (Below.refl _ _).drew
      have zdd1 := dd1.size
      replace BB := also BB dd1
      replace h1 := h1.below dd1
      replace x_a := x_a.on dd1
      replace r2 := r2.below dd1
      replace x_n := x_n.on dd1
      replace hd1 := hd1.below dd1
      replace x4 := x4.below dd1
      replace x_r := x_r.on dd1
      refine wp_region_held_drew (S := (fun w' => w'.cell? ⟨w1.heap.size, 0, none⟩ = some (.bool n1) ∧ w'.cell? ⟨w1.heap.size, 1, none⟩ = some (.slice a1 l1 c1) ∧ w'.cell? ⟨w1.heap.size, 2, none⟩ = some (.slice d1 m1 k1) ∧ Below w.heap.size w w')) (by kernel_rfl) ?_ (fun hHeld => ?_)
      · first | exact ⟨x_a.c0, x_a.c1, x_a.c2, BB⟩ | exact ⟨cell_on bw8 hHeld.1, cell_on bw8 hHeld.2.1, cell_on bw8 hHeld.2.2.1, also hHeld.2.2.2 bw8⟩ | exact ⟨cell_on bw7 hHeld.1, cell_on bw7 hHeld.2.1, cell_on bw7 hHeld.2.2.1, also hHeld.2.2.2 bw7⟩ | exact ⟨cell_on bw6 hHeld.1, cell_on bw6 hHeld.2.1, cell_on bw6 hHeld.2.2.1, also hHeld.2.2.2 bw6⟩
      refine take_yes (i := 0) (v := ?vv0) rfl (by kernel_rfl) (by kernel_rfl) (by kernel_rfl) (fun _ _ _ h => h) (by rfl) (by assumption) ?hyv0 ?restv0
      case hyv0 => (intro w hSw; (try dsimp only at hSw); first | (go_simp; done) | (go_simp; with_reducible rfl))
      simp only [Act.put, List.setIfInBounds_toArray, List.set_cons_zero, List.set_cons_succ]
      refine take_call (i := 1) rfl (by kernel_rfl) (fun Kc hK => ?_)
      go_simp
      (go_at_call 7; refine (rqLong 0 _ (by decide) (by decide)).mono ?_; rintro e w6 ⟨s6, d6, l6, c6, t6, g6, h6, k6, rfl, x6, r6, bw6⟩)
      refine hK.out _ _ ?_ (fun hHeld => ?_)
      · first | exact ⟨x_a.c0, x_a.c1, x_a.c2, BB⟩ | exact ⟨cell_on bw8 hHeld.1, cell_on bw8 hHeld.2.1, cell_on bw8 hHeld.2.2.1, also hHeld.2.2.2 bw8⟩ | exact ⟨cell_on bw7 hHeld.1, cell_on bw7 hHeld.2.1, cell_on bw7 hHeld.2.2.1, also hHeld.2.2.2 bw7⟩ | exact ⟨cell_on bw6 hHeld.1, cell_on bw6 hHeld.2.1, cell_on bw6 hHeld.2.2.1, also hHeld.2.2.2 bw6⟩
      clear hK Kc
      have zbw6 := bw6.size
      replace BB := also BB bw6
      replace h1 := h1.below bw6
      replace x_a := x_a.on bw6
      replace r2 := r2.below bw6
      replace x_n := x_n.on bw6
      replace hd1 := hd1.below bw6
      replace x4 := x4.below bw6
      replace x_r := x_r.on bw6
      refine take_call (i := 2) rfl (by kernel_rfl) (fun Kc hK => ?_)
      go_simp
      (go_at_call 9; refine (rqSame n1 a1 l1 c1 d1 m1 k1 0 1 s6 d6 l6 c6 t6 g6 h6 k6 0 1 2 _ h1 x6 rfl rfl).mono ?_; rintro e w7 ⟨rfl, bw7⟩)
      refine hK.out _ _ ?_ (fun hHeld => ?_)
      · first | exact ⟨x_a.c0, x_a.c1, x_a.c2, BB⟩ | exact ⟨cell_on bw8 hHeld.1, cell_on bw8 hHeld.2.1, cell_on bw8 hHeld.2.2.1, also hHeld.2.2.2 bw8⟩ | exact ⟨cell_on bw7 hHeld.1, cell_on bw7 hHeld.2.1, cell_on bw7 hHeld.2.2.1, also hHeld.2.2.2 bw7⟩ | exact ⟨cell_on bw6 hHeld.1, cell_on bw6 hHeld.2.1, cell_on bw6 hHeld.2.2.1, also hHeld.2.2.2 bw6⟩
      clear hK Kc
      have zbw7 := bw7.size
      replace BB := also BB bw7
      replace h1 := h1.below bw7
      replace x_a := x_a.on bw7
      replace r2 := r2.below bw7
      replace x_n := x_n.on bw7
      replace hd1 := hd1.below bw7
      replace x4 := x4.below bw7
      replace x_r := x_r.on bw7
      replace x6 := x6.below bw7
      refine take_yes (i := 3) (v := ?vv3) rfl (by kernel_rfl) (by kernel_rfl) (by kernel_rfl) (fun _ _ _ h => h) (by rfl) (by assumption) ?hyv3 ?restv3
      case hyv3 => (intro w hSw; (try dsimp only at hSw); first | (go_simp; done) | (go_simp; with_reducible rfl))
      simp only [Act.put, List.setIfInBounds_toArray, List.set_cons_zero, List.set_cons_succ]
      refine take_yes (i := 4) (v := ?vv4) rfl (by kernel_rfl) (by kernel_rfl) (by kernel_rfl) (fun _ _ _ h => h) (by rfl) (by assumption) ?hyv4 ?restv4
      case hyv4 => (intro w hSw; (try dsimp only at hSw); first | (go_simp; done) | (go_simp; with_reducible rfl))
      simp only [Act.put, List.setIfInBounds_toArray, List.set_cons_zero, List.set_cons_succ]
      refine take_yes (i := 5) (v := ?vv5) rfl (by kernel_rfl) (by kernel_rfl) (by kernel_rfl) (fun _ _ _ h => h) (by rfl) (by assumption) ?hyv5 ?restv5
      case hyv5 => (intro w hSw; (try dsimp only at hSw); first | (go_simp; done) | (go_simp; with_reducible rfl))
      simp only [Act.put, List.setIfInBounds_toArray, List.set_cons_zero, List.set_cons_succ]
      refine take_yes (i := 6) (v := ?vv6) rfl (by kernel_rfl) (by kernel_rfl) (by kernel_rfl) (fun _ _ _ h => h) (by rfl) (by assumption) ?hyv6 ?restv6
      case hyv6 => (intro w hSw; (try dsimp only at hSw); first | (go_simp; done) | (go_simp; with_reducible rfl))
      simp only [Act.put, List.setIfInBounds_toArray, List.set_cons_zero, List.set_cons_succ]
      refine take_yes (i := 7) (v := ?vv7) rfl (by kernel_rfl) (by kernel_rfl) (by kernel_rfl) (fun _ _ _ h => h) (by rfl) (by assumption) ?hyv7 ?restv7
      case hyv7 => (intro w hSw; (try dsimp only at hSw); first | (go_simp; done) | (go_simp; with_reducible rfl))
      simp only [Act.put, List.setIfInBounds_toArray, List.set_cons_zero, List.set_cons_succ]
      refine take_yes (i := 8) (v := ?vv8) rfl (by kernel_rfl) (by kernel_rfl) (by kernel_rfl) (fun _ _ _ h => h) (by rfl) (by assumption) ?hyv8 ?restv8
      case hyv8 => (intro w hSw; (try dsimp only at hSw); first | (go_simp; done) | (go_simp; with_reducible rfl))
      simp only [Act.put, List.setIfInBounds_toArray, List.set_cons_zero, List.set_cons_succ]
      refine take_call (i := 9) rfl (by kernel_rfl) (fun Kc hK => ?_)
      go_simp
      (go_at_call 10; refine (lives5_any _).mono ?_; rintro e w8 ⟨rfl, bw8⟩)
      refine hK.out _ _ ?_ (fun hHeld => ?_)
      · first | exact ⟨x_a.c0, x_a.c1, x_a.c2, BB⟩ | exact ⟨cell_on bw8 hHeld.1, cell_on bw8 hHeld.2.1, cell_on bw8 hHeld.2.2.1, also hHeld.2.2.2 bw8⟩ | exact ⟨cell_on bw7 hHeld.1, cell_on bw7 hHeld.2.1, cell_on bw7 hHeld.2.2.1, also hHeld.2.2.2 bw7⟩ | exact ⟨cell_on bw6 hHeld.1, cell_on bw6 hHeld.2.1, cell_on bw6 hHeld.2.2.1, also hHeld.2.2.2 bw6⟩
      clear hK Kc
      have zbw8 := bw8.size
      replace BB := also BB bw8
      replace h1 := h1.below bw8
      replace x_a := x_a.on bw8
      replace r2 := r2.below bw8
      replace x_n := x_n.on bw8
      replace hd1 := hd1.below bw8
      replace x4 := x4.below bw8
      replace x_r := x_r.on bw8
      replace x6 := x6.below bw8
      refine take_yes (i := 10) (v := ?vv10) rfl (by kernel_rfl) (by kernel_rfl) (by kernel_rfl) (fun _ _ _ h => h) (by rfl) (by assumption) ?hyv10 ?restv10
      case hyv10 => (intro w hSw; (try dsimp only at hSw); first | (go_simp; done) | (go_simp; with_reducible rfl))
      simp only [Act.put, List.setIfInBounds_toArray, List.set_cons_zero, List.set_cons_succ]
      refine take_yes (i := 11) (v := ?vv11) rfl (by kernel_rfl) (by kernel_rfl) (by kernel_rfl) (fun _ _ _ h => h) (by rfl) (by assumption) ?hyv11 ?restv11
      case hyv11 => (intro w hSw; (try dsimp only at hSw); first | (go_simp; done) | (go_simp; with_reducible rfl))
      simp only [Act.put, List.setIfInBounds_toArray, List.set_cons_zero, List.set_cons_succ]
      refine wpAnyH_done (by kernel_rfl) ?_ _
      go_wp2
      go_ret
      exact ⟨rfl, BB⟩
set_option maxRecDepth 100000 in
set_option maxHeartbeats 10000000 in
theorem cB (u t1 t2 : ByteArray) (T : Nat) (z : Int) (w : World) (hpa : ∀ w, Calls Tryz.prog 4 #[.string u] w (GotMk w z 1 0)) (hw1 : ∀ w, Calls Tryz.prog 5 #[.string u] w (GotW1 w z 0)) (hl : u.size ≤ 200) (hne : ∀ k (hk : k < u.size), k < T → ¬ (u[k].toNat : Int) = 47) (hT : T = u.size) (hz : z.natAbs < 4294967296 ^ 21) (hS : u = qText (lowN z 1) (lowD z 1)) :
    Calls Tryz.prog 3 #[.string u] w fun e w' => e = .returned (.bool true) ∧ Below w.heap.size w w' := by
  have HPA : Hid _ := hpa
  clear hpa
  have HW1 : Hid _ := hw1
  clear hw1
  have HNE : Hid _ := hne
  clear hne
  have HZ : Hid _ := hz
  clear hz
  have HS : Hid _ := hS
  clear hS
  have hl' : ¬ (200 : Int) < (u.size : Int) := by omega
  have hsz := hl
  have BB := Below.refl w.heap.size w
  go_enter Tryz.func3, Tryz.ntmps3
  go_wp2_with (go_at_call 4; fail)
  refine (HPA.out w).mono ?_
  rintro e w1 ⟨n1, a1, l1, c1, d1, m1, k1, rfl, h1, f1, g1, bw1⟩
  have zbw1 := bw1.size
  replace BB := also BB bw1
  obtain ⟨V1, hV1, bV1, x_a, sV1⟩ := bs_3 w1 (.bool n1) (.slice a1 l1 c1) (.slice d1 m1 k1) 27
  have zbV1 := bV1.size
  replace BB := also BB bV1
  replace h1 := h1.below bV1
  go_wp2
  rw [← hV1]
  clear hV1
  go_loopw [5] (fun i wr => ∃ k : Nat, k ≤ T ∧ i = .int .i64 (k : Int) ∧ V1 = wr) (fun i _ => T - (intOf i).toNat)
  case atStart => exact ⟨0, Nat.zero_le _, rfl, rfl⟩
  case round =>
    obtain ⟨k, hk, rfl, hwr⟩ := hrel
    subst hwr
    rcases Nat.lt_or_eq_of_le hk with hlt | hkT
    · have hk2 : k < u.size := by omega
      have hc := HNE.out k hk2 hlt
      have hcb : ((u[k].toNat : Int) == 47) = false := by simpa using hc
      have i1 : (k : Int) < u.size := by omega
      have i0 : (0 : Int) ≤ k := by omega
      go_wp2
      go_roundw
      case rel => exact ⟨k + 1, hlt, by simp, by first | rfl | trivial⟩
      case measure => simp [intOf]; omega
    · subst hkT
      have i1 : ¬ (k : Int) < u.size := by omega
      have i0 : (0 : Int) ≤ k := by omega
      have i2 : (k : Int) ≤ u.size := by omega
      go_wp2_with (go_at_call 5; fail)
      refine (HW1.out V1).mono ?_
      rintro e w2 ⟨s2, d2, l2, c2, rfl, r2, bw2⟩
      have zbw2 := bw2.size
      replace BB := also BB bw2
      replace h1 := h1.below bw2
      replace x_a := x_a.on bw2
      obtain ⟨Vn, hVn, bVn, x_n, sVn⟩ := bs_2 w2 (.int .i64 s2) (.slice d2 l2 c2) 34
      have zbVn := bVn.size
      replace BB := also BB bVn
      replace h1 := h1.below bVn
      replace x_a := x_a.on bVn
      replace r2 := r2.below bVn
      obtain ⟨Vd, hVd⟩ : ∃ Vd, Vd = Vn.alloc (.cells #[.int .i64 1] 3) := ⟨_, rfl⟩
      have bVd : Below Vn.heap.size Vn Vd := by rw [hVd]; exact (Below.refl _ _).alloc (Nat.le_refl _) _
      have hd1 : HD Vd (some ⟨w2.heap.size + 1, 0, none⟩) 1 1 1 := by rw [hVd, show w2.heap.size + 1 = Vn.heap.size by rw [hVn]; simp]; exact hd_one Vn
      have zbVd := bVd.size
      replace BB := also BB bVd
      replace h1 := h1.below bVd
      replace x_a := x_a.on bVd
      replace r2 := r2.below bVd
      replace x_n := x_n.on bVd
      go_wp2_with (go_at_call 7; fail)
      rw [← hVn, ← hVd]
      clear hVn hVd
      refine (rqLong 0 Vd (by decide) (by decide)).mono ?_
      rintro e w4 ⟨s4, d4, l4, c4, t4, g4, h4, k4, rfl, x4, r4, bw4⟩
      have zbw4 := bw4.size
      replace BB := also BB bw4
      replace h1 := h1.below bw4
      replace x_a := x_a.on bw4
      replace r2 := r2.below bw4
      replace x_n := x_n.on bw4
      replace hd1 := hd1.below bw4
      have hx5 : RQ w4 21 s2 d2 l2 c2 1 (some ⟨w2.heap.size + 1, 0, none⟩) 1 1 z 1 := ⟨r2, rn_nat hd1 (by decide), by decide, HZ.out, by decide +kernel, by decide⟩
      have bt : Below w4.heap.size w4 (w4.alloc (.cells #[.int .i64 s4, .slice d4 l4 c4, .int .i64 t4, .slice g4 h4 k4] 40)) := (Below.refl _ _).alloc (Nat.le_refl _) _
      have ⟨tn0, tn1, tn2, tn3⟩ := x_n.on bt
      obtain ⟨Vr, hVr, bVr, x_r, sVr⟩ := bs_4 w4 (.int .i64 s2) (.slice d2 l2 c2) (.int .i64 1) (.slice (some ⟨w2.heap.size + 1, 0, none⟩) 1 1) 40
      have zbVr := bVr.size
      replace BB := also BB bVr
      replace h1 := h1.below bVr
      replace x_a := x_a.on bVr
      replace r2 := r2.below bVr
      replace x_n := x_n.on bVr
      replace hd1 := hd1.below bVr
      replace x4 := x4.below bVr
      replace hx5 := hx5.below bVr
      go_wp2_with (go_at_call 8; fail)
      rw [← hVr]
      clear hVr
      refine (rqShow s2 d2 l2 c2 1 (some ⟨w2.heap.size + 1, 0, none⟩) 1 1 z 1 21 Vr hx5 HS.out).mono ?_
      rintro e w5 ⟨rfl, bw5⟩
      have zbw5 := bw5.size
      replace BB := also BB bw5
      replace h1 := h1.below bw5
      replace x_a := x_a.on bw5
      replace r2 := r2.below bw5
      replace x_n := x_n.on bw5
      replace hd1 := hd1.below bw5
      replace x4 := x4.below bw5
      replace hx5 := hx5.below bw5
      replace x_r := x_r.on bw5
      have ⟨x_a_0, x_a_1, x_a_2, x_a_3, x_a_4, x_a_5⟩ := x_a
      have ⟨x_r_0, x_r_1, x_r_2, x_r_3, x_r_4, x_r_5, x_r_6, x_r_7⟩ := x_r
      go_wp2_with (go_at_call 9; fail)
      refine (rqSame n1 a1 l1 c1 d1 m1 k1 z 1 s2 d2 l2 c2 1 (some ⟨w2.heap.size + 1, 0, none⟩) 1 1 z 1 21 w5 h1 hx5 (low_by_one z).1 (low_by_one z).2).mono ?_
      rintro e w6 ⟨rfl, bw6⟩
      clear x_a_0 x_a_1 x_a_2 x_a_3 x_a_4 x_a_5 x_r_0 x_r_1 x_r_2 x_r_3 x_r_4 x_r_5 x_r_6 x_r_7
      have zbw6 := bw6.size
      replace BB := also BB bw6
      replace h1 := h1.below bw6
      replace x_a := x_a.on bw6
      replace r2 := r2.below bw6
      replace x_n := x_n.on bw6
      replace hd1 := hd1.below bw6
      replace x4 := x4.below bw6
      replace hx5 := hx5.below bw6
      replace x_r := x_r.on bw6
      go_wp2_with (go_at_call 10; fail)
      refine (lives5_any w6).mono ?_
      rintro e w7 ⟨rfl, bw7⟩
      have zbw7 := bw7.size
      replace BB := also BB bw7
      replace h1 := h1.below bw7
      replace x_a := x_a.on bw7
      replace r2 := r2.below bw7
      replace x_n := x_n.on bw7
      replace hd1 := hd1.below bw7
      replace x4 := x4.below bw7
      replace hx5 := hx5.below bw7
      replace x_r := x_r.on bw7
      go_wp2
      go_ret
      exact ⟨rfl, BB⟩
set_option maxRecDepth 100000 in
set_option maxHeartbeats 10000000 in
theorem cC (u t1 t2 : ByteArray) (T : Nat) (z E2 : Int) (N2 : Nat) (w : World) (hpa : ∀ w, Calls Tryz.prog 4 #[.string u] w (GotMk w 0 1 E2)) (hw1 : ∀ w, Calls Tryz.prog 5 #[.string t1] w (GotW1 w z 0)) (hl : u.size ≤ 200) (he1 : u.extract 0 T = t1) (hne : ∀ k (hk : k < u.size), k < T → ¬ (u[k].toNat : Int) = 47) (he2 : u.extract (T + 1) u.size = t2) (hT : T < u.size) (hch : ∀ hk : T < u.size, (u[T].toNat : Int) = 47) (hp2 : ∀ w, Calls Tryz.prog 6 #[.string t2] w (GotHPF w N2 E2)) (hE : E2 ≠ 0) :
    Calls Tryz.prog 3 #[.string u] w fun e w' => e = .returned (.bool true) ∧ Below w.heap.size w w' := by
  have HPA : Hid _ := hpa
  clear hpa
  have HW1 : Hid _ := hw1
  clear hw1
  have HNE : Hid _ := hne
  clear hne
  have HE1 : Hid _ := he1
  clear he1
  have HE2 : Hid _ := he2
  clear he2
  have HCH : Hid _ := hch
  clear hch
  have HP2 : Hid _ := hp2
  clear hp2
  have hl' : ¬ (200 : Int) < (u.size : Int) := by omega
  have hsz := hl
  have BB := Below.refl w.heap.size w
  go_enter Tryz.func3, Tryz.ntmps3
  go_wp2_with (go_at_call 4; fail)
  refine (HPA.out w).mono ?_
  rintro e w1 ⟨n1, a1, l1, c1, d1, m1, k1, rfl, h1, f1, g1, bw1⟩
  have zbw1 := bw1.size
  replace BB := also BB bw1
  obtain ⟨V1, hV1, bV1, x_a, sV1⟩ := bs_3 w1 (.bool n1) (.slice a1 l1 c1) (.slice d1 m1 k1) 27
  have zbV1 := bV1.size
  replace BB := also BB bV1
  replace h1 := h1.below bV1
  go_wp2
  rw [← hV1]
  clear hV1
  go_loopw [5] (fun i wr => ∃ k : Nat, k ≤ T ∧ i = .int .i64 (k : Int) ∧ V1 = wr) (fun i _ => T - (intOf i).toNat)
  case atStart => exact ⟨0, Nat.zero_le _, rfl, rfl⟩
  case round =>
    obtain ⟨k, hk, rfl, hwr⟩ := hrel
    subst hwr
    rcases Nat.lt_or_eq_of_le hk with hlt | hkT
    · have hk2 : k < u.size := by omega
      have hc := HNE.out k hk2 hlt
      have hcb : ((u[k].toNat : Int) == 47) = false := by simpa using hc
      have i1 : (k : Int) < u.size := by omega
      have i0 : (0 : Int) ≤ k := by omega
      go_wp2
      go_roundw
      case rel => exact ⟨k + 1, hlt, by simp, by first | rfl | trivial⟩
      case measure => simp [intOf]; omega
    · subst hkT
      have hcx := HCH.out hT
      have hcb : ((u[k].toNat : Int) == 47) = true := by simpa using hcx
      have i1 : (k : Int) < u.size := by omega
      have i3 : (k : Int) + 1 ≤ u.size := by omega
      have i4 : wrap64 ((k : Int) + 1) = (k : Int) + 1 := by unfold wrap64; omega
      have i0 : (0 : Int) ≤ k := by omega
      have i2 : (k : Int) ≤ u.size := by omega
      go_wp2_with (go_at_call 5; fail)
      rw [HE1.out]
      refine (HW1.out V1).mono ?_
      rintro e w2 ⟨s2, d2, l2, c2, rfl, r2, bw2⟩
      have zbw2 := bw2.size
      replace BB := also BB bw2
      replace h1 := h1.below bw2
      replace x_a := x_a.on bw2
      obtain ⟨Vn, hVn, bVn, x_n, sVn⟩ := bs_2 w2 (.int .i64 s2) (.slice d2 l2 c2) 34
      have zbVn := bVn.size
      replace BB := also BB bVn
      replace h1 := h1.below bVn
      replace x_a := x_a.on bVn
      replace r2 := r2.below bVn
      obtain ⟨Vd, hVd⟩ : ∃ Vd, Vd = Vn.alloc (.cells #[.int .i64 1] 3) := ⟨_, rfl⟩
      have bVd : Below Vn.heap.size Vn Vd := by rw [hVd]; exact (Below.refl _ _).alloc (Nat.le_refl _) _
      have hd1 : HD Vd (some ⟨w2.heap.size + 1, 0, none⟩) 1 1 1 := by rw [hVd, show w2.heap.size + 1 = Vn.heap.size by rw [hVn]; simp]; exact hd_one Vn
      have zbVd := bVd.size
      replace BB := also BB bVd
      replace h1 := h1.below bVd
      replace x_a := x_a.on bVd
      replace r2 := r2.below bVd
      replace x_n := x_n.on bVd
      go_wp2_with (go_at_call 6; fail)
      rw [← hVn, ← hVd]
      clear hVn hVd
      rw [HE2.out]
      refine (HP2.out Vd).mono ?_
      rintro e w3 ⟨d3, l3, c3, rfl, h3, f3, bw3⟩
      have zbw3 := bw3.size
      replace BB := also BB bw3
      replace h1 := h1.below bw3
      replace x_a := x_a.on bw3
      replace r2 := r2.below bw3
      replace x_n := x_n.on bw3
      replace hd1 := hd1.below bw3
      go_wp2_with (go_at_call 7; fail)
      refine (rqLong 0 w3 (by decide) (by decide)).mono ?_
      rintro e w4 ⟨s4, d4, l4, c4, t4, g4, h4, k4, rfl, x4, r4, bw4⟩
      have zbw4 := bw4.size
      replace BB := also BB bw4
      replace h1 := h1.below bw4
      replace x_a := x_a.on bw4
      replace r2 := r2.below bw4
      replace x_n := x_n.on bw4
      replace hd1 := hd1.below bw4
      replace h3 := h3.below bw4
      obtain ⟨Vr, hVr, bVr, x_r, sVr⟩ := bs_4 w4 (.int .i64 s4) (.slice d4 l4 c4) (.int .i64 t4) (.slice g4 h4 k4) 40
      have zbVr := bVr.size
      replace BB := also BB bVr
      replace h1 := h1.below bVr
      replace x_a := x_a.on bVr
      replace r2 := r2.below bVr
      replace x_n := x_n.on bVr
      replace hd1 := hd1.below bVr
      replace h3 := h3.below bVr
      replace x4 := x4.below bVr
      go_wp2
      rw [← hVr]
      clear hVr
      have dd1 : Below Vr.heap.size Vr Vr.drew := (Below.refl _ _).drew
      have zdd1 := dd1.size
      replace BB := also BB dd1
      replace h1 := h1.below dd1
      replace x_a := x_a.on dd1
      replace r2 := r2.below dd1
      replace x_n := x_n.on dd1
      replace hd1 := hd1.below dd1
      replace h3 := h3.below dd1
      replace x4 := x4.below dd1
      replace x_r := x_r.on dd1
      refine wp_region_held_drew (S := (fun w' => w'.cell? ⟨w1.heap.size, 0, none⟩ = some (.bool n1) ∧ w'.cell? ⟨w1.heap.size, 1, none⟩ = some (.slice a1 l1 c1) ∧ w'.cell? ⟨w1.heap.size, 2, none⟩ = some (.slice d1 m1 k1) ∧ Below w.heap.size w w')) (by kernel_rfl) ?_ (fun hHeld => ?_)
      · first | exact ⟨x_a.c0, x_a.c1, x_a.c2, BB⟩ | exact ⟨cell_on bw8 hHeld.1, cell_on bw8 hHeld.2.1, cell_on bw8 hHeld.2.2.1, also hHeld.2.2.2 bw8⟩ | exact ⟨cell_on bw7 hHeld.1, cell_on bw7 hHeld.2.1, cell_on bw7 hHeld.2.2.1, also hHeld.2.2.2 bw7⟩ | exact ⟨cell_on bw6 hHeld.1, cell_on bw6 hHeld.2.1, cell_on bw6 hHeld.2.2.1, also hHeld.2.2.2 bw6⟩
      refine take_yes (i := 0) (v := ?vv0) rfl (by kernel_rfl) (by kernel_rfl) (by kernel_rfl) (fun _ _ _ h => h) (by rfl) (by assumption) ?hyv0 ?restv0
      case hyv0 => (intro w hSw; (try dsimp only at hSw); first | (go_simp; done) | (go_simp; with_reducible rfl))
      simp only [Act.put, List.setIfInBounds_toArray, List.set_cons_zero, List.set_cons_succ]
      refine take_call (i := 1) rfl (by kernel_rfl) (fun Kc hK => ?_)
      go_simp
      (go_at_call 7; refine (rqLong 0 _ (by decide) (by decide)).mono ?_; rintro e w6 ⟨s6, d6, l6, c6, t6, g6, h6, k6, rfl, x6, r6, bw6⟩)
      refine hK.out _ _ ?_ (fun hHeld => ?_)
      · first | exact ⟨x_a.c0, x_a.c1, x_a.c2, BB⟩ | exact ⟨cell_on bw8 hHeld.1, cell_on bw8 hHeld.2.1, cell_on bw8 hHeld.2.2.1, also hHeld.2.2.2 bw8⟩ | exact ⟨cell_on bw7 hHeld.1, cell_on bw7 hHeld.2.1, cell_on bw7 hHeld.2.2.1, also hHeld.2.2.2 bw7⟩ | exact ⟨cell_on bw6 hHeld.1, cell_on bw6 hHeld.2.1, cell_on bw6 hHeld.2.2.1, also hHeld.2.2.2 bw6⟩
      clear hK Kc
      have zbw6 := bw6.size
      replace BB := also BB bw6
      replace h1 := h1.below bw6
      replace x_a := x_a.on bw6
      replace r2 := r2.below bw6
      replace x_n := x_n.on bw6
      replace hd1 := hd1.below bw6
      replace h3 := h3.below bw6
      replace x4 := x4.below bw6
      replace x_r := x_r.on bw6
      refine take_call (i := 2) rfl (by kernel_rfl) (fun Kc hK => ?_)
      go_simp
      (go_at_call 9; refine (rqSame n1 a1 l1 c1 d1 m1 k1 0 1 s6 d6 l6 c6 t6 g6 h6 k6 0 1 2 _ h1 x6 rfl rfl).mono ?_; rintro e w7 ⟨rfl, bw7⟩)
      refine hK.out _ _ ?_ (fun hHeld => ?_)
      · first | exact ⟨x_a.c0, x_a.c1, x_a.c2, BB⟩ | exact ⟨cell_on bw8 hHeld.1, cell_on bw8 hHeld.2.1, cell_on bw8 hHeld.2.2.1, also hHeld.2.2.2 bw8⟩ | exact ⟨cell_on bw7 hHeld.1, cell_on bw7 hHeld.2.1, cell_on bw7 hHeld.2.2.1, also hHeld.2.2.2 bw7⟩ | exact ⟨cell_on bw6 hHeld.1, cell_on bw6 hHeld.2.1, cell_on bw6 hHeld.2.2.1, also hHeld.2.2.2 bw6⟩
      clear hK Kc
      have zbw7 := bw7.size
      replace BB := also BB bw7
      replace h1 := h1.below bw7
      replace x_a := x_a.on bw7
      replace r2 := r2.below bw7
      replace x_n := x_n.on bw7
      replace hd1 := hd1.below bw7
      replace h3 := h3.below bw7
      replace x4 := x4.below bw7
      replace x_r := x_r.on bw7
      replace x6 := x6.below bw7
      refine take_yes (i := 3) (v := ?vv3) rfl (by kernel_rfl) (by kernel_rfl) (by kernel_rfl) (fun _ _ _ h => h) (by rfl) (by assumption) ?hyv3 ?restv3
      case hyv3 => (intro w hSw; (try dsimp only at hSw); first | (go_simp; done) | (go_simp; with_reducible rfl))
      simp only [Act.put, List.setIfInBounds_toArray, List.set_cons_zero, List.set_cons_succ]
      refine take_yes (i := 4) (v := ?vv4) rfl (by kernel_rfl) (by kernel_rfl) (by kernel_rfl) (fun _ _ _ h => h) (by rfl) (by assumption) ?hyv4 ?restv4
      case hyv4 => (intro w hSw; (try dsimp only at hSw); first | (go_simp; done) | (go_simp; with_reducible rfl))
      simp only [Act.put, List.setIfInBounds_toArray, List.set_cons_zero, List.set_cons_succ]
      refine take_yes (i := 5) (v := ?vv5) rfl (by kernel_rfl) (by kernel_rfl) (by kernel_rfl) (fun _ _ _ h => h) (by rfl) (by assumption) ?hyv5 ?restv5
      case hyv5 => (intro w hSw; (try dsimp only at hSw); first | (go_simp; done) | (go_simp; with_reducible rfl))
      simp only [Act.put, List.setIfInBounds_toArray, List.set_cons_zero, List.set_cons_succ]
      refine take_yes (i := 6) (v := ?vv6) rfl (by kernel_rfl) (by kernel_rfl) (by kernel_rfl) (fun _ _ _ h => h) (by rfl) (by assumption) ?hyv6 ?restv6
      case hyv6 => (intro w hSw; (try dsimp only at hSw); first | (go_simp; done) | (go_simp; with_reducible rfl))
      simp only [Act.put, List.setIfInBounds_toArray, List.set_cons_zero, List.set_cons_succ]
      refine take_yes (i := 7) (v := ?vv7) rfl (by kernel_rfl) (by kernel_rfl) (by kernel_rfl) (fun _ _ _ h => h) (by rfl) (by assumption) ?hyv7 ?restv7
      case hyv7 => (intro w hSw; (try dsimp only at hSw); first | (go_simp; done) | (go_simp; with_reducible rfl))
      simp only [Act.put, List.setIfInBounds_toArray, List.set_cons_zero, List.set_cons_succ]
      refine take_yes (i := 8) (v := ?vv8) rfl (by kernel_rfl) (by kernel_rfl) (by kernel_rfl) (fun _ _ _ h => h) (by rfl) (by assumption) ?hyv8 ?restv8
      case hyv8 => (intro w hSw; (try dsimp only at hSw); first | (go_simp; done) | (go_simp; with_reducible rfl))
      simp only [Act.put, List.setIfInBounds_toArray, List.set_cons_zero, List.set_cons_succ]
      refine take_call (i := 9) rfl (by kernel_rfl) (fun Kc hK => ?_)
      go_simp
      (go_at_call 10; refine (lives5_any _).mono ?_; rintro e w8 ⟨rfl, bw8⟩)
      refine hK.out _ _ ?_ (fun hHeld => ?_)
      · first | exact ⟨x_a.c0, x_a.c1, x_a.c2, BB⟩ | exact ⟨cell_on bw8 hHeld.1, cell_on bw8 hHeld.2.1, cell_on bw8 hHeld.2.2.1, also hHeld.2.2.2 bw8⟩ | exact ⟨cell_on bw7 hHeld.1, cell_on bw7 hHeld.2.1, cell_on bw7 hHeld.2.2.1, also hHeld.2.2.2 bw7⟩ | exact ⟨cell_on bw6 hHeld.1, cell_on bw6 hHeld.2.1, cell_on bw6 hHeld.2.2.1, also hHeld.2.2.2 bw6⟩
      clear hK Kc
      have zbw8 := bw8.size
      replace BB := also BB bw8
      replace h1 := h1.below bw8
      replace x_a := x_a.on bw8
      replace r2 := r2.below bw8
      replace x_n := x_n.on bw8
      replace hd1 := hd1.below bw8
      replace h3 := h3.below bw8
      replace x4 := x4.below bw8
      replace x_r := x_r.on bw8
      replace x6 := x6.below bw8
      refine take_yes (i := 10) (v := ?vv10) rfl (by kernel_rfl) (by kernel_rfl) (by kernel_rfl) (fun _ _ _ h => h) (by rfl) (by assumption) ?hyv10 ?restv10
      case hyv10 => (intro w hSw; (try dsimp only at hSw); first | (go_simp; done) | (go_simp; with_reducible rfl))
      simp only [Act.put, List.setIfInBounds_toArray, List.set_cons_zero, List.set_cons_succ]
      refine take_yes (i := 11) (v := ?vv11) rfl (by kernel_rfl) (by kernel_rfl) (by kernel_rfl) (fun _ _ _ h => h) (by rfl) (by assumption) ?hyv11 ?restv11
      case hyv11 => (intro w hSw; (try dsimp only at hSw); first | (go_simp; done) | (go_simp; with_reducible rfl))
      simp only [Act.put, List.setIfInBounds_toArray, List.set_cons_zero, List.set_cons_succ]
      refine wpAnyH_done (by kernel_rfl) ?_ _
      go_wp2
      go_ret
      exact ⟨rfl, BB⟩
set_option maxRecDepth 100000 in
set_option maxHeartbeats 10000000 in
theorem cD (u t1 t2 : ByteArray) (T : Nat) (z : Int) (w : World) (hpa : ∀ w, Calls Tryz.prog 4 #[.string u] w (GotMk w 0 1 4)) (hw1 : ∀ w, Calls Tryz.prog 5 #[.string t1] w (GotW1 w z 0)) (hl : u.size ≤ 200) (he1 : u.extract 0 T = t1) (hne : ∀ k (hk : k < u.size), k < T → ¬ (u[k].toNat : Int) = 47) (he2 : u.extract (T + 1) u.size = t2) (hT : T < u.size) (hch : ∀ hk : T < u.size, (u[T].toNat : Int) = 47) (hp2 : ∀ w, Calls Tryz.prog 6 #[.string t2] w (GotHPF w 0 0)) (hq : qText (lowN 0 1) (lowD 0 1) ≠ u) :
    Calls Tryz.prog 3 #[.string u] w fun e w' => e = .returned (.bool true) ∧ Below w.heap.size w w' := by
  have HPA : Hid _ := hpa
  clear hpa
  have HW1 : Hid _ := hw1
  clear hw1
  have HNE : Hid _ := hne
  clear hne
  have HE1 : Hid _ := he1
  clear he1
  have HE2 : Hid _ := he2
  clear he2
  have HCH : Hid _ := hch
  clear hch
  have HP2 : Hid _ := hp2
  clear hp2
  obtain ⟨s', hs'⟩ : ∃ s', s' = qText (lowN 0 1) (lowD 0 1) := ⟨_, rfl⟩
  rw [← hs'] at hq
  have HS : Hid _ := hs'
  have hq1 : ¬ s'.toList = u.toList := fun e => hq (ByteArray.ext (Array.toList_inj.1 (by rw [← Lib.toList_data, ← Lib.toList_data]; exact e)))
  have hq2 : (s'.toList == u.toList) = false := by simpa using hq1
  clear hs'
  have hl' : ¬ (200 : Int) < (u.size : Int) := by omega
  have hsz := hl
  have BB := Below.refl w.heap.size w
  go_enter Tryz.func3, Tryz.ntmps3
  go_wp2_with (go_at_call 4; fail)
  refine (HPA.out w).mono ?_
  rintro e w1 ⟨n1, a1, l1, c1, d1, m1, k1, rfl, h1, f1, g1, bw1⟩
  have zbw1 := bw1.size
  replace BB := also BB bw1
  obtain ⟨V1, hV1, bV1, x_a, sV1⟩ := bs_3 w1 (.bool n1) (.slice a1 l1 c1) (.slice d1 m1 k1) 27
  have zbV1 := bV1.size
  replace BB := also BB bV1
  replace h1 := h1.below bV1
  go_wp2
  rw [← hV1]
  clear hV1
  go_loopw [5] (fun i wr => ∃ k : Nat, k ≤ T ∧ i = .int .i64 (k : Int) ∧ V1 = wr) (fun i _ => T - (intOf i).toNat)
  case atStart => exact ⟨0, Nat.zero_le _, rfl, rfl⟩
  case round =>
    obtain ⟨k, hk, rfl, hwr⟩ := hrel
    subst hwr
    rcases Nat.lt_or_eq_of_le hk with hlt | hkT
    · have hk2 : k < u.size := by omega
      have hc := HNE.out k hk2 hlt
      have hcb : ((u[k].toNat : Int) == 47) = false := by simpa using hc
      have i1 : (k : Int) < u.size := by omega
      have i0 : (0 : Int) ≤ k := by omega
      go_wp2
      go_roundw
      case rel => exact ⟨k + 1, hlt, by simp, by first | rfl | trivial⟩
      case measure => simp [intOf]; omega
    · subst hkT
      have hcx := HCH.out hT
      have hcb : ((u[k].toNat : Int) == 47) = true := by simpa using hcx
      have i1 : (k : Int) < u.size := by omega
      have i3 : (k : Int) + 1 ≤ u.size := by omega
      have i4 : wrap64 ((k : Int) + 1) = (k : Int) + 1 := by unfold wrap64; omega
      have i0 : (0 : Int) ≤ k := by omega
      have i2 : (k : Int) ≤ u.size := by omega
      go_wp2_with (go_at_call 5; fail)
      rw [HE1.out]
      refine (HW1.out V1).mono ?_
      rintro e w2 ⟨s2, d2, l2, c2, rfl, r2, bw2⟩
      have zbw2 := bw2.size
      replace BB := also BB bw2
      replace h1 := h1.below bw2
      replace x_a := x_a.on bw2
      obtain ⟨Vn, hVn, bVn, x_n, sVn⟩ := bs_2 w2 (.int .i64 s2) (.slice d2 l2 c2) 34
      have zbVn := bVn.size
      replace BB := also BB bVn
      replace h1 := h1.below bVn
      replace x_a := x_a.on bVn
      replace r2 := r2.below bVn
      obtain ⟨Vd, hVd⟩ : ∃ Vd, Vd = Vn.alloc (.cells #[.int .i64 1] 3) := ⟨_, rfl⟩
      have bVd : Below Vn.heap.size Vn Vd := by rw [hVd]; exact (Below.refl _ _).alloc (Nat.le_refl _) _
      have hd1 : HD Vd (some ⟨w2.heap.size + 1, 0, none⟩) 1 1 1 := by rw [hVd, show w2.heap.size + 1 = Vn.heap.size by rw [hVn]; simp]; exact hd_one Vn
      have zbVd := bVd.size
      replace BB := also BB bVd
      replace h1 := h1.below bVd
      replace x_a := x_a.on bVd
      replace r2 := r2.below bVd
      replace x_n := x_n.on bVd
      go_wp2_with (go_at_call 6; fail)
      rw [← hVn, ← hVd]
      clear hVn hVd
      rw [HE2.out]
      refine (HP2.out Vd).mono ?_
      rintro e w3 ⟨d3, l3, c3, rfl, h3, f3, bw3⟩
      have zbw3 := bw3.size
      replace BB := also BB bw3
      replace h1 := h1.below bw3
      replace x_a := x_a.on bw3
      replace r2 := r2.below bw3
      replace x_n := x_n.on bw3
      replace hd1 := hd1.below bw3
      obtain rfl : l3 = 0 := h3.pos.2 rfl
      go_wp2_with (go_at_call 7; fail)
      refine (rqLong 0 w3 (by decide) (by decide)).mono ?_
      rintro e w4 ⟨s4, d4, l4, c4, t4, g4, h4, k4, rfl, x4, r4, bw4⟩
      have zbw4 := bw4.size
      replace BB := also BB bw4
      replace h1 := h1.below bw4
      replace x_a := x_a.on bw4
      replace r2 := r2.below bw4
      replace x_n := x_n.on bw4
      replace hd1 := hd1.below bw4
      replace h3 := h3.below bw4
      obtain ⟨Vr, hVr, bVr, x_r, sVr⟩ := bs_4 w4 (.int .i64 s4) (.slice d4 l4 c4) (.int .i64 t4) (.slice g4 h4 k4) 40
      have zbVr := bVr.size
      replace BB := also BB bVr
      replace h1 := h1.below bVr
      replace x_a := x_a.on bVr
      replace r2 := r2.below bVr
      replace x_n := x_n.on bVr
      replace hd1 := hd1.below bVr
      replace h3 := h3.below bVr
      replace x4 := x4.below bVr
      go_wp2_with (go_at_call 8; fail)
      rw [← hVr]
      clear hVr
      refine (rqShow s4 d4 l4 c4 t4 g4 h4 k4 0 1 2 Vr x4 HS.out).mono ?_
      rintro e w5 ⟨rfl, bw5⟩
      have zbw5 := bw5.size
      replace BB := also BB bw5
      replace h1 := h1.below bw5
      replace x_a := x_a.on bw5
      replace r2 := r2.below bw5
      replace x_n := x_n.on bw5
      replace hd1 := hd1.below bw5
      replace h3 := h3.below bw5
      replace x4 := x4.below bw5
      replace x_r := x_r.on bw5
      have ⟨x_a_0, x_a_1, x_a_2, x_a_3, x_a_4, x_a_5⟩ := x_a
      have ⟨x_r_0, x_r_1, x_r_2, x_r_3, x_r_4, x_r_5, x_r_6, x_r_7⟩ := x_r
      go_wp2
      have dd1 : Below w5.heap.size w5 w5.drew := (Below.refl _ _).drew
      clear x_a_0 x_a_1 x_a_2 x_a_3 x_a_4 x_a_5 x_r_0 x_r_1 x_r_2 x_r_3 x_r_4 x_r_5 x_r_6 x_r_7
      have zdd1 := dd1.size
      replace BB := also BB dd1
      replace h1 := h1.below dd1
      replace x_a := x_a.on dd1
      replace r2 := r2.below dd1
      replace x_n := x_n.on dd1
      replace hd1 := hd1.below dd1
      replace h3 := h3.below dd1
      replace x4 := x4.below dd1
      replace x_r := x_r.on dd1
      refine wp_region_held_drew (S := (fun w' => w'.cell? ⟨w1.heap.size, 0, none⟩ = some (.bool n1) ∧ w'.cell? ⟨w1.heap.size, 1, none⟩ = some (.slice a1 l1 c1) ∧ w'.cell? ⟨w1.heap.size, 2, none⟩ = some (.slice d1 m1 k1) ∧ Below w.heap.size w w')) (by kernel_rfl) ?_ (fun hHeld => ?_)
      · first | exact ⟨x_a.c0, x_a.c1, x_a.c2, BB⟩ | exact ⟨cell_on bw8 hHeld.1, cell_on bw8 hHeld.2.1, cell_on bw8 hHeld.2.2.1, also hHeld.2.2.2 bw8⟩ | exact ⟨cell_on bw7 hHeld.1, cell_on bw7 hHeld.2.1, cell_on bw7 hHeld.2.2.1, also hHeld.2.2.2 bw7⟩ | exact ⟨cell_on bw6 hHeld.1, cell_on bw6 hHeld.2.1, cell_on bw6 hHeld.2.2.1, also hHeld.2.2.2 bw6⟩
      refine take_yes (i := 0) (v := ?vv0) rfl (by kernel_rfl) (by kernel_rfl) (by kernel_rfl) (fun _ _ _ h => h) (by rfl) (by assumption) ?hyv0 ?restv0
      case hyv0 => (intro w hSw; (try dsimp only at hSw); first | (go_simp; done) | (go_simp; with_reducible rfl))
      simp only [Act.put, List.setIfInBounds_toArray, List.set_cons_zero, List.set_cons_succ]
      refine take_call (i := 1) rfl (by kernel_rfl) (fun Kc hK => ?_)
      go_simp
      (go_at_call 7; refine (rqLong 0 _ (by decide) (by decide)).mono ?_; rintro e w6 ⟨s6, d6, l6, c6, t6, g6, h6, k6, rfl, x6, r6, bw6⟩)
      refine hK.out _ _ ?_ (fun hHeld => ?_)
      · first | exact ⟨x_a.c0, x_a.c1, x_a.c2, BB⟩ | exact ⟨cell_on bw8 hHeld.1, cell_on bw8 hHeld.2.1, cell_on bw8 hHeld.2.2.1, also hHeld.2.2.2 bw8⟩ | exact ⟨cell_on bw7 hHeld.1, cell_on bw7 hHeld.2.1, cell_on bw7 hHeld.2.2.1, also hHeld.2.2.2 bw7⟩ | exact ⟨cell_on bw6 hHeld.1, cell_on bw6 hHeld.2.1, cell_on bw6 hHeld.2.2.1, also hHeld.2.2.2 bw6⟩
      clear hK Kc
      have zbw6 := bw6.size
      replace BB := also BB bw6
      replace h1 := h1.below bw6
      replace x_a := x_a.on bw6
      replace r2 := r2.below bw6
      replace x_n := x_n.on bw6
      replace hd1 := hd1.below bw6
      replace h3 := h3.below bw6
      replace x4 := x4.below bw6
      replace x_r := x_r.on bw6
      refine take_call (i := 2) rfl (by kernel_rfl) (fun Kc hK => ?_)
      go_simp
      (go_at_call 9; refine (rqSame n1 a1 l1 c1 d1 m1 k1 0 1 s6 d6 l6 c6 t6 g6 h6 k6 0 1 2 _ h1 x6 rfl rfl).mono ?_; rintro e w7 ⟨rfl, bw7⟩)
      refine hK.out _ _ ?_ (fun hHeld => ?_)
      · first | exact ⟨x_a.c0, x_a.c1, x_a.c2, BB⟩ | exact ⟨cell_on bw8 hHeld.1, cell_on bw8 hHeld.2.1, cell_on bw8 hHeld.2.2.1, also hHeld.2.2.2 bw8⟩ | exact ⟨cell_on bw7 hHeld.1, cell_on bw7 hHeld.2.1, cell_on bw7 hHeld.2.2.1, also hHeld.2.2.2 bw7⟩ | exact ⟨cell_on bw6 hHeld.1, cell_on bw6 hHeld.2.1, cell_on bw6 hHeld.2.2.1, also hHeld.2.2.2 bw6⟩
      clear hK Kc
      have zbw7 := bw7.size
      replace BB := also BB bw7
      replace h1 := h1.below bw7
      replace x_a := x_a.on bw7
      replace r2 := r2.below bw7
      replace x_n := x_n.on bw7
      replace hd1 := hd1.below bw7
      replace h3 := h3.below bw7
      replace x4 := x4.below bw7
      replace x_r := x_r.on bw7
      replace x6 := x6.below bw7
      refine take_yes (i := 3) (v := ?vv3) rfl (by kernel_rfl) (by kernel_rfl) (by kernel_rfl) (fun _ _ _ h => h) (by rfl) (by assumption) ?hyv3 ?restv3
      case hyv3 => (intro w hSw; (try dsimp only at hSw); first | (go_simp; done) | (go_simp; with_reducible rfl))
      simp only [Act.put, List.setIfInBounds_toArray, List.set_cons_zero, List.set_cons_succ]
      refine take_yes (i := 4) (v := ?vv4) rfl (by kernel_rfl) (by kernel_rfl) (by kernel_rfl) (fun _ _ _ h => h) (by rfl) (by assumption) ?hyv4 ?restv4
      case hyv4 => (intro w hSw; (try dsimp only at hSw); first | (go_simp; done) | (go_simp; with_reducible rfl))
      simp only [Act.put, List.setIfInBounds_toArray, List.set_cons_zero, List.set_cons_succ]
      refine take_yes (i := 5) (v := ?vv5) rfl (by kernel_rfl) (by kernel_rfl) (by kernel_rfl) (fun _ _ _ h => h) (by rfl) (by assumption) ?hyv5 ?restv5
      case hyv5 => (intro w hSw; (try dsimp only at hSw); first | (go_simp; done) | (go_simp; with_reducible rfl))
      simp only [Act.put, List.setIfInBounds_toArray, List.set_cons_zero, List.set_cons_succ]
      refine take_yes (i := 6) (v := ?vv6) rfl (by kernel_rfl) (by kernel_rfl) (by kernel_rfl) (fun _ _ _ h => h) (by rfl) (by assumption) ?hyv6 ?restv6
      case hyv6 => (intro w hSw; (try dsimp only at hSw); first | (go_simp; done) | (go_simp; with_reducible rfl))
      simp only [Act.put, List.setIfInBounds_toArray, List.set_cons_zero, List.set_cons_succ]
      refine take_yes (i := 7) (v := ?vv7) rfl (by kernel_rfl) (by kernel_rfl) (by kernel_rfl) (fun _ _ _ h => h) (by rfl) (by assumption) ?hyv7 ?restv7
      case hyv7 => (intro w hSw; (try dsimp only at hSw); first | (go_simp; done) | (go_simp; with_reducible rfl))
      simp only [Act.put, List.setIfInBounds_toArray, List.set_cons_zero, List.set_cons_succ]
      refine take_yes (i := 8) (v := ?vv8) rfl (by kernel_rfl) (by kernel_rfl) (by kernel_rfl) (fun _ _ _ h => h) (by rfl) (by assumption) ?hyv8 ?restv8
      case hyv8 => (intro w hSw; (try dsimp only at hSw); first | (go_simp; done) | (go_simp; with_reducible rfl))
      simp only [Act.put, List.setIfInBounds_toArray, List.set_cons_zero, List.set_cons_succ]
      refine take_call (i := 9) rfl (by kernel_rfl) (fun Kc hK => ?_)
      go_simp
      (go_at_call 10; refine (lives5_any _).mono ?_; rintro e w8 ⟨rfl, bw8⟩)
      refine hK.out _ _ ?_ (fun hHeld => ?_)
      · first | exact ⟨x_a.c0, x_a.c1, x_a.c2, BB⟩ | exact ⟨cell_on bw8 hHeld.1, cell_on bw8 hHeld.2.1, cell_on bw8 hHeld.2.2.1, also hHeld.2.2.2 bw8⟩ | exact ⟨cell_on bw7 hHeld.1, cell_on bw7 hHeld.2.1, cell_on bw7 hHeld.2.2.1, also hHeld.2.2.2 bw7⟩ | exact ⟨cell_on bw6 hHeld.1, cell_on bw6 hHeld.2.1, cell_on bw6 hHeld.2.2.1, also hHeld.2.2.2 bw6⟩
      clear hK Kc
      have zbw8 := bw8.size
      replace BB := also BB bw8
      replace h1 := h1.below bw8
      replace x_a := x_a.on bw8
      replace r2 := r2.below bw8
      replace x_n := x_n.on bw8
      replace hd1 := hd1.below bw8
      replace h3 := h3.below bw8
      replace x4 := x4.below bw8
      replace x_r := x_r.on bw8
      replace x6 := x6.below bw8
      refine take_yes (i := 10) (v := ?vv10) rfl (by kernel_rfl) (by kernel_rfl) (by kernel_rfl) (fun _ _ _ h => h) (by rfl) (by assumption) ?hyv10 ?restv10
      case hyv10 => (intro w hSw; (try dsimp only at hSw); first | (go_simp; done) | (go_simp; with_reducible rfl))
      simp only [Act.put, List.setIfInBounds_toArray, List.set_cons_zero, List.set_cons_succ]
      refine take_yes (i := 11) (v := ?vv11) rfl (by kernel_rfl) (by kernel_rfl) (by kernel_rfl) (fun _ _ _ h => h) (by rfl) (by assumption) ?hyv11 ?restv11
      case hyv11 => (intro w hSw; (try dsimp only at hSw); first | (go_simp; done) | (go_simp; with_reducible rfl))
      simp only [Act.put, List.setIfInBounds_toArray, List.set_cons_zero, List.set_cons_succ]
      refine wpAnyH_done (by kernel_rfl) ?_ _
      go_wp2
      go_ret
      exact ⟨rfl, BB⟩
set_option maxRecDepth 100000 in
set_option maxHeartbeats 10000000 in
theorem cE (u t1 t2 : ByteArray) (T : Nat) (z : Int) (N2 : Nat) (w : World) (hpa : ∀ w, Calls Tryz.prog 4 #[.string u] w (GotMk w 0 1 4)) (hw1 : ∀ w, Calls Tryz.prog 5 #[.string t1] w (GotW1 w z 0)) (hl : u.size ≤ 200) (he1 : u.extract 0 T = t1) (hne : ∀ k (hk : k < u.size), k < T → ¬ (u[k].toNat : Int) = 47) (he2 : u.extract (T + 1) u.size = t2) (hT : T < u.size) (hch : ∀ hk : T < u.size, (u[T].toNat : Int) = 47) (hp2 : ∀ w, Calls Tryz.prog 6 #[.string t2] w (GotHPF w N2 0)) (hz : z.natAbs < 4294967296 ^ 21) (hN : N2 < 4294967296 ^ 21) (hN0 : 0 < N2) (hq : qText (lowN z N2) (lowD z N2) ≠ u) :
    Calls Tryz.prog 3 #[.string u] w fun e w' => e = .returned (.bool true) ∧ Below w.heap.size w w' := by
  have HPA : Hid _ := hpa
  clear hpa
  have HW1 : Hid _ := hw1
  clear hw1
  have HNE : Hid _ := hne
  clear hne
  have HE1 : Hid _ := he1
  clear he1
  have HE2 : Hid _ := he2
  clear he2
  have HCH : Hid _ := hch
  clear hch
  have HP2 : Hid _ := hp2
  clear hp2
  have HZ : Hid _ := hz
  clear hz
  have HN : Hid _ := hN
  clear hN
  obtain ⟨s', hs'⟩ : ∃ s', s' = qText (lowN z N2) (lowD z N2) := ⟨_, rfl⟩
  rw [← hs'] at hq
  have HS : Hid _ := hs'
  have hq1 : ¬ s'.toList = u.toList := fun e => hq (ByteArray.ext (Array.toList_inj.1 (by rw [← Lib.toList_data, ← Lib.toList_data]; exact e)))
  have hq2 : (s'.toList == u.toList) = false := by simpa using hq1
  clear hs'
  have hl' : ¬ (200 : Int) < (u.size : Int) := by omega
  have hsz := hl
  have BB := Below.refl w.heap.size w
  go_enter Tryz.func3, Tryz.ntmps3
  go_wp2_with (go_at_call 4; fail)
  refine (HPA.out w).mono ?_
  rintro e w1 ⟨n1, a1, l1, c1, d1, m1, k1, rfl, h1, f1, g1, bw1⟩
  have zbw1 := bw1.size
  replace BB := also BB bw1
  obtain ⟨V1, hV1, bV1, x_a, sV1⟩ := bs_3 w1 (.bool n1) (.slice a1 l1 c1) (.slice d1 m1 k1) 27
  have zbV1 := bV1.size
  replace BB := also BB bV1
  replace h1 := h1.below bV1
  go_wp2
  rw [← hV1]
  clear hV1
  go_loopw [5] (fun i wr => ∃ k : Nat, k ≤ T ∧ i = .int .i64 (k : Int) ∧ V1 = wr) (fun i _ => T - (intOf i).toNat)
  case atStart => exact ⟨0, Nat.zero_le _, rfl, rfl⟩
  case round =>
    obtain ⟨k, hk, rfl, hwr⟩ := hrel
    subst hwr
    rcases Nat.lt_or_eq_of_le hk with hlt | hkT
    · have hk2 : k < u.size := by omega
      have hc := HNE.out k hk2 hlt
      have hcb : ((u[k].toNat : Int) == 47) = false := by simpa using hc
      have i1 : (k : Int) < u.size := by omega
      have i0 : (0 : Int) ≤ k := by omega
      go_wp2
      go_roundw
      case rel => exact ⟨k + 1, hlt, by simp, by first | rfl | trivial⟩
      case measure => simp [intOf]; omega
    · subst hkT
      have hcx := HCH.out hT
      have hcb : ((u[k].toNat : Int) == 47) = true := by simpa using hcx
      have i1 : (k : Int) < u.size := by omega
      have i3 : (k : Int) + 1 ≤ u.size := by omega
      have i4 : wrap64 ((k : Int) + 1) = (k : Int) + 1 := by unfold wrap64; omega
      have i0 : (0 : Int) ≤ k := by omega
      have i2 : (k : Int) ≤ u.size := by omega
      go_wp2_with (go_at_call 5; fail)
      rw [HE1.out]
      refine (HW1.out V1).mono ?_
      rintro e w2 ⟨s2, d2, l2, c2, rfl, r2, bw2⟩
      have zbw2 := bw2.size
      replace BB := also BB bw2
      replace h1 := h1.below bw2
      replace x_a := x_a.on bw2
      obtain ⟨Vn, hVn, bVn, x_n, sVn⟩ := bs_2 w2 (.int .i64 s2) (.slice d2 l2 c2) 34
      have zbVn := bVn.size
      replace BB := also BB bVn
      replace h1 := h1.below bVn
      replace x_a := x_a.on bVn
      replace r2 := r2.below bVn
      obtain ⟨Vd, hVd⟩ : ∃ Vd, Vd = Vn.alloc (.cells #[.int .i64 1] 3) := ⟨_, rfl⟩
      have bVd : Below Vn.heap.size Vn Vd := by rw [hVd]; exact (Below.refl _ _).alloc (Nat.le_refl _) _
      have hd1 : HD Vd (some ⟨w2.heap.size + 1, 0, none⟩) 1 1 1 := by rw [hVd, show w2.heap.size + 1 = Vn.heap.size by rw [hVn]; simp]; exact hd_one Vn
      have zbVd := bVd.size
      replace BB := also BB bVd
      replace h1 := h1.below bVd
      replace x_a := x_a.on bVd
      replace r2 := r2.below bVd
      replace x_n := x_n.on bVd
      go_wp2_with (go_at_call 6; fail)
      rw [← hVn, ← hVd]
      clear hVn hVd
      rw [HE2.out]
      refine (HP2.out Vd).mono ?_
      rintro e w3 ⟨d3, l3, c3, rfl, h3, f3, bw3⟩
      have zbw3 := bw3.size
      replace BB := also BB bw3
      replace h1 := h1.below bw3
      replace x_a := x_a.on bw3
      replace r2 := r2.below bw3
      replace x_n := x_n.on bw3
      replace hd1 := hd1.below bw3
      have hl3 : (0 : Int) < l3 := by have := h3.pos; omega
      go_wp2_with (go_at_call 7; fail)
      refine (rqLong 0 w3 (by decide) (by decide)).mono ?_
      rintro e w4 ⟨s4, d4, l4, c4, t4, g4, h4, k4, rfl, x4, r4, bw4⟩
      have zbw4 := bw4.size
      replace BB := also BB bw4
      replace h1 := h1.below bw4
      replace x_a := x_a.on bw4
      replace r2 := r2.below bw4
      replace x_n := x_n.on bw4
      replace hd1 := hd1.below bw4
      replace h3 := h3.below bw4
      have hx5 : RQ w4 21 s2 d2 l2 c2 1 d3 l3 c3 z N2 := ⟨r2, rn_nat h3 hN0, hN0, HZ.out, HN.out, by decide⟩
      have bt : Below w4.heap.size w4 (w4.alloc (.cells #[.int .i64 s4, .slice d4 l4 c4, .int .i64 t4, .slice g4 h4 k4] 40)) := (Below.refl _ _).alloc (Nat.le_refl _) _
      have ⟨tn0, tn1, tn2, tn3⟩ := x_n.on bt
      obtain ⟨Vr, hVr, bVr, x_r, sVr⟩ := bs_4 w4 (.int .i64 s2) (.slice d2 l2 c2) (.int .i64 1) (.slice d3 l3 c3) 40
      have zbVr := bVr.size
      replace BB := also BB bVr
      replace h1 := h1.below bVr
      replace x_a := x_a.on bVr
      replace r2 := r2.below bVr
      replace x_n := x_n.on bVr
      replace hd1 := hd1.below bVr
      replace h3 := h3.below bVr
      replace x4 := x4.below bVr
      replace hx5 := hx5.below bVr
      go_wp2_with (go_at_call 8; fail)
      rw [← hVr]
      clear hVr
      refine (rqShow s2 d2 l2 c2 1 d3 l3 c3 z N2 21 Vr hx5 HS.out).mono ?_
      rintro e w5 ⟨rfl, bw5⟩
      have zbw5 := bw5.size
      replace BB := also BB bw5
      replace h1 := h1.below bw5
      replace x_a := x_a.on bw5
      replace r2 := r2.below bw5
      replace x_n := x_n.on bw5
      replace hd1 := hd1.below bw5
      replace h3 := h3.below bw5
      replace x4 := x4.below bw5
      replace hx5 := hx5.below bw5
      replace x_r := x_r.on bw5
      have ⟨x_a_0, x_a_1, x_a_2, x_a_3, x_a_4, x_a_5⟩ := x_a
      have ⟨x_r_0, x_r_1, x_r_2, x_r_3, x_r_4, x_r_5, x_r_6, x_r_7⟩ := x_r
      go_wp2
      have dd1 : Below w5.heap.size w5 w5.drew := (Below.refl _ _).drew
      clear x_a_0 x_a_1 x_a_2 x_a_3 x_a_4 x_a_5 x_r_0 x_r_1 x_r_2 x_r_3 x_r_4 x_r_5 x_r_6 x_r_7
      have zdd1 := dd1.size
      replace BB := also BB dd1
      replace h1 := h1.below dd1
      replace x_a := x_a.on dd1
      replace r2 := r2.below dd1
      replace x_n := x_n.on dd1
      replace hd1 := hd1.below dd1
      replace h3 := h3.below dd1
      replace x4 := x4.below dd1
      replace hx5 := hx5.below dd1
      replace x_r := x_r.on dd1
      refine wp_region_held_drew (S := (fun w' => w'.cell? ⟨w1.heap.size, 0, none⟩ = some (.bool n1) ∧ w'.cell? ⟨w1.heap.size, 1, none⟩ = some (.slice a1 l1 c1) ∧ w'.cell? ⟨w1.heap.size, 2, none⟩ = some (.slice d1 m1 k1) ∧ Below w.heap.size w w')) (by kernel_rfl) ?_ (fun hHeld => ?_)
      · first | exact ⟨x_a.c0, x_a.c1, x_a.c2, BB⟩ | exact ⟨cell_on bw8 hHeld.1, cell_on bw8 hHeld.2.1, cell_on bw8 hHeld.2.2.1, also hHeld.2.2.2 bw8⟩ | exact ⟨cell_on bw7 hHeld.1, cell_on bw7 hHeld.2.1, cell_on bw7 hHeld.2.2.1, also hHeld.2.2.2 bw7⟩ | exact ⟨cell_on bw6 hHeld.1, cell_on bw6 hHeld.2.1, cell_on bw6 hHeld.2.2.1, also hHeld.2.2.2 bw6⟩
      refine take_yes (i := 0) (v := ?vv0) rfl (by kernel_rfl) (by kernel_rfl) (by kernel_rfl) (fun _ _ _ h => h) (by rfl) (by assumption) ?hyv0 ?restv0
      case hyv0 => (intro w hSw; (try dsimp only at hSw); first | (go_simp; done) | (go_simp; with_reducible rfl))
      simp only [Act.put, List.setIfInBounds_toArray, List.set_cons_zero, List.set_cons_succ]
      refine take_call (i := 1) rfl (by kernel_rfl) (fun Kc hK => ?_)
      go_simp
      (go_at_call 7; refine (rqLong 0 _ (by decide) (by decide)).mono ?_; rintro e w6 ⟨s6, d6, l6, c6, t6, g6, h6, k6, rfl, x6, r6, bw6⟩)
      refine hK.out _ _ ?_ (fun hHeld => ?_)
      · first | exact ⟨x_a.c0, x_a.c1, x_a.c2, BB⟩ | exact ⟨cell_on bw8 hHeld.1, cell_on bw8 hHeld.2.1, cell_on bw8 hHeld.2.2.1, also hHeld.2.2.2 bw8⟩ | exact ⟨cell_on bw7 hHeld.1, cell_on bw7 hHeld.2.1, cell_on bw7 hHeld.2.2.1, also hHeld.2.2.2 bw7⟩ | exact ⟨cell_on bw6 hHeld.1, cell_on bw6 hHeld.2.1, cell_on bw6 hHeld.2.2.1, also hHeld.2.2.2 bw6⟩
      clear hK Kc
      have zbw6 := bw6.size
      replace BB := also BB bw6
      replace h1 := h1.below bw6
      replace x_a := x_a.on bw6
      replace r2 := r2.below bw6
      replace x_n := x_n.on bw6
      replace hd1 := hd1.below bw6
      replace h3 := h3.below bw6
      replace x4 := x4.below bw6
      replace hx5 := hx5.below bw6
      replace x_r := x_r.on bw6
      refine take_call (i := 2) rfl (by kernel_rfl) (fun Kc hK => ?_)
      go_simp
      (go_at_call 9; refine (rqSame n1 a1 l1 c1 d1 m1 k1 0 1 s6 d6 l6 c6 t6 g6 h6 k6 0 1 2 _ h1 x6 rfl rfl).mono ?_; rintro e w7 ⟨rfl, bw7⟩)
      refine hK.out _ _ ?_ (fun hHeld => ?_)
      · first | exact ⟨x_a.c0, x_a.c1, x_a.c2, BB⟩ | exact ⟨cell_on bw8 hHeld.1, cell_on bw8 hHeld.2.1, cell_on bw8 hHeld.2.2.1, also hHeld.2.2.2 bw8⟩ | exact ⟨cell_on bw7 hHeld.1, cell_on bw7 hHeld.2.1, cell_on bw7 hHeld.2.2.1, also hHeld.2.2.2 bw7⟩ | exact ⟨cell_on bw6 hHeld.1, cell_on bw6 hHeld.2.1, cell_on bw6 hHeld.2.2.1, also hHeld.2.2.2 bw6⟩
      clear hK Kc
      have zbw7 := bw7.size
      replace BB := also BB bw7
      replace h1 := h1.below bw7
      replace x_a := x_a.on bw7
      replace r2 := r2.below bw7
      replace x_n := x_n.on bw7
      replace hd1 := hd1.below bw7
      replace h3 := h3.below bw7
      replace x4 := x4.below bw7
      replace hx5 := hx5.below bw7
      replace x_r := x_r.on bw7
      replace x6 := x6.below bw7
      refine take_yes (i := 3) (v := ?vv3) rfl (by kernel_rfl) (by kernel_rfl) (by kernel_rfl) (fun _ _ _ h => h) (by rfl) (by assumption) ?hyv3 ?restv3
      case hyv3 => (intro w hSw; (try dsimp only at hSw); first | (go_simp; done) | (go_simp; with_reducible rfl))
      simp only [Act.put, List.setIfInBounds_toArray, List.set_cons_zero, List.set_cons_succ]
      refine take_yes (i := 4) (v := ?vv4) rfl (by kernel_rfl) (by kernel_rfl) (by kernel_rfl) (fun _ _ _ h => h) (by rfl) (by assumption) ?hyv4 ?restv4
      case hyv4 => (intro w hSw; (try dsimp only at hSw); first | (go_simp; done) | (go_simp; with_reducible rfl))
      simp only [Act.put, List.setIfInBounds_toArray, List.set_cons_zero, List.set_cons_succ]
      refine take_yes (i := 5) (v := ?vv5) rfl (by kernel_rfl) (by kernel_rfl) (by kernel_rfl) (fun _ _ _ h => h) (by rfl) (by assumption) ?hyv5 ?restv5
      case hyv5 => (intro w hSw; (try dsimp only at hSw); first | (go_simp; done) | (go_simp; with_reducible rfl))
      simp only [Act.put, List.setIfInBounds_toArray, List.set_cons_zero, List.set_cons_succ]
      refine take_yes (i := 6) (v := ?vv6) rfl (by kernel_rfl) (by kernel_rfl) (by kernel_rfl) (fun _ _ _ h => h) (by rfl) (by assumption) ?hyv6 ?restv6
      case hyv6 => (intro w hSw; (try dsimp only at hSw); first | (go_simp; done) | (go_simp; with_reducible rfl))
      simp only [Act.put, List.setIfInBounds_toArray, List.set_cons_zero, List.set_cons_succ]
      refine take_yes (i := 7) (v := ?vv7) rfl (by kernel_rfl) (by kernel_rfl) (by kernel_rfl) (fun _ _ _ h => h) (by rfl) (by assumption) ?hyv7 ?restv7
      case hyv7 => (intro w hSw; (try dsimp only at hSw); first | (go_simp; done) | (go_simp; with_reducible rfl))
      simp only [Act.put, List.setIfInBounds_toArray, List.set_cons_zero, List.set_cons_succ]
      refine take_yes (i := 8) (v := ?vv8) rfl (by kernel_rfl) (by kernel_rfl) (by kernel_rfl) (fun _ _ _ h => h) (by rfl) (by assumption) ?hyv8 ?restv8
      case hyv8 => (intro w hSw; (try dsimp only at hSw); first | (go_simp; done) | (go_simp; with_reducible rfl))
      simp only [Act.put, List.setIfInBounds_toArray, List.set_cons_zero, List.set_cons_succ]
      refine take_call (i := 9) rfl (by kernel_rfl) (fun Kc hK => ?_)
      go_simp
      (go_at_call 10; refine (lives5_any _).mono ?_; rintro e w8 ⟨rfl, bw8⟩)
      refine hK.out _ _ ?_ (fun hHeld => ?_)
      · first | exact ⟨x_a.c0, x_a.c1, x_a.c2, BB⟩ | exact ⟨cell_on bw8 hHeld.1, cell_on bw8 hHeld.2.1, cell_on bw8 hHeld.2.2.1, also hHeld.2.2.2 bw8⟩ | exact ⟨cell_on bw7 hHeld.1, cell_on bw7 hHeld.2.1, cell_on bw7 hHeld.2.2.1, also hHeld.2.2.2 bw7⟩ | exact ⟨cell_on bw6 hHeld.1, cell_on bw6 hHeld.2.1, cell_on bw6 hHeld.2.2.1, also hHeld.2.2.2 bw6⟩
      clear hK Kc
      have zbw8 := bw8.size
      replace BB := also BB bw8
      replace h1 := h1.below bw8
      replace x_a := x_a.on bw8
      replace r2 := r2.below bw8
      replace x_n := x_n.on bw8
      replace hd1 := hd1.below bw8
      replace h3 := h3.below bw8
      replace x4 := x4.below bw8
      replace hx5 := hx5.below bw8
      replace x_r := x_r.on bw8
      replace x6 := x6.below bw8
      refine take_yes (i := 10) (v := ?vv10) rfl (by kernel_rfl) (by kernel_rfl) (by kernel_rfl) (fun _ _ _ h => h) (by rfl) (by assumption) ?hyv10 ?restv10
      case hyv10 => (intro w hSw; (try dsimp only at hSw); first | (go_simp; done) | (go_simp; with_reducible rfl))
      simp only [Act.put, List.setIfInBounds_toArray, List.set_cons_zero, List.set_cons_succ]
      refine take_yes (i := 11) (v := ?vv11) rfl (by kernel_rfl) (by kernel_rfl) (by kernel_rfl) (fun _ _ _ h => h) (by rfl) (by assumption) ?hyv11 ?restv11
      case hyv11 => (intro w hSw; (try dsimp only at hSw); first | (go_simp; done) | (go_simp; with_reducible rfl))
      simp only [Act.put, List.setIfInBounds_toArray, List.set_cons_zero, List.set_cons_succ]
      refine wpAnyH_done (by kernel_rfl) ?_ _
      go_wp2
      go_ret
      exact ⟨rfl, BB⟩
set_option maxRecDepth 100000 in
set_option maxHeartbeats 10000000 in
theorem cF (u t1 t2 : ByteArray) (T : Nat) (z : Int) (N2 : Nat) (w : World) (hpa : ∀ w, Calls Tryz.prog 4 #[.string u] w (GotMk w z N2 0)) (hw1 : ∀ w, Calls Tryz.prog 5 #[.string t1] w (GotW1 w z 0)) (hl : u.size ≤ 200) (he1 : u.extract 0 T = t1) (hne : ∀ k (hk : k < u.size), k < T → ¬ (u[k].toNat : Int) = 47) (he2 : u.extract (T + 1) u.size = t2) (hT : T < u.size) (hch : ∀ hk : T < u.size, (u[T].toNat : Int) = 47) (hp2 : ∀ w, Calls Tryz.prog 6 #[.string t2] w (GotHPF w N2 0)) (hz : z.natAbs < 4294967296 ^ 21) (hN : N2 < 4294967296 ^ 21) (hN0 : 0 < N2) (hS : u = qText (lowN z N2) (lowD z N2)) (hL1 : z = lowN z N2) (hL2 : N2 = lowD z N2) :
    Calls Tryz.prog 3 #[.string u] w fun e w' => e = .returned (.bool true) ∧ Below w.heap.size w w' := by
  have HPA : Hid _ := hpa
  clear hpa
  have HW1 : Hid _ := hw1
  clear hw1
  have HNE : Hid _ := hne
  clear hne
  have HE1 : Hid _ := he1
  clear he1
  have HE2 : Hid _ := he2
  clear he2
  have HCH : Hid _ := hch
  clear hch
  have HP2 : Hid _ := hp2
  clear hp2
  have HZ : Hid _ := hz
  clear hz
  have HN : Hid _ := hN
  clear hN
  have HS : Hid _ := hS
  clear hS
  have HL1 : Hid _ := hL1
  clear hL1
  have HL2 : Hid _ := hL2
  clear hL2
  have hl' : ¬ (200 : Int) < (u.size : Int) := by omega
  have hsz := hl
  have BB := Below.refl w.heap.size w
  go_enter Tryz.func3, Tryz.ntmps3
  go_wp2_with (go_at_call 4; fail)
  refine (HPA.out w).mono ?_
  rintro e w1 ⟨n1, a1, l1, c1, d1, m1, k1, rfl, h1, f1, g1, bw1⟩
  have zbw1 := bw1.size
  replace BB := also BB bw1
  obtain ⟨V1, hV1, bV1, x_a, sV1⟩ := bs_3 w1 (.bool n1) (.slice a1 l1 c1) (.slice d1 m1 k1) 27
  have zbV1 := bV1.size
  replace BB := also BB bV1
  replace h1 := h1.below bV1
  go_wp2
  rw [← hV1]
  clear hV1
  go_loopw [5] (fun i wr => ∃ k : Nat, k ≤ T ∧ i = .int .i64 (k : Int) ∧ V1 = wr) (fun i _ => T - (intOf i).toNat)
  case atStart => exact ⟨0, Nat.zero_le _, rfl, rfl⟩
  case round =>
    obtain ⟨k, hk, rfl, hwr⟩ := hrel
    subst hwr
    rcases Nat.lt_or_eq_of_le hk with hlt | hkT
    · have hk2 : k < u.size := by omega
      have hc := HNE.out k hk2 hlt
      have hcb : ((u[k].toNat : Int) == 47) = false := by simpa using hc
      have i1 : (k : Int) < u.size := by omega
      have i0 : (0 : Int) ≤ k := by omega
      go_wp2
      go_roundw
      case rel => exact ⟨k + 1, hlt, by simp, by first | rfl | trivial⟩
      case measure => simp [intOf]; omega
    · subst hkT
      have hcx := HCH.out hT
      have hcb : ((u[k].toNat : Int) == 47) = true := by simpa using hcx
      have i1 : (k : Int) < u.size := by omega
      have i3 : (k : Int) + 1 ≤ u.size := by omega
      have i4 : wrap64 ((k : Int) + 1) = (k : Int) + 1 := by unfold wrap64; omega
      have i0 : (0 : Int) ≤ k := by omega
      have i2 : (k : Int) ≤ u.size := by omega
      go_wp2_with (go_at_call 5; fail)
      rw [HE1.out]
      refine (HW1.out V1).mono ?_
      rintro e w2 ⟨s2, d2, l2, c2, rfl, r2, bw2⟩
      have zbw2 := bw2.size
      replace BB := also BB bw2
      replace h1 := h1.below bw2
      replace x_a := x_a.on bw2
      obtain ⟨Vn, hVn, bVn, x_n, sVn⟩ := bs_2 w2 (.int .i64 s2) (.slice d2 l2 c2) 34
      have zbVn := bVn.size
      replace BB := also BB bVn
      replace h1 := h1.below bVn
      replace x_a := x_a.on bVn
      replace r2 := r2.below bVn
      obtain ⟨Vd, hVd⟩ : ∃ Vd, Vd = Vn.alloc (.cells #[.int .i64 1] 3) := ⟨_, rfl⟩
      have bVd : Below Vn.heap.size Vn Vd := by rw [hVd]; exact (Below.refl _ _).alloc (Nat.le_refl _) _
      have hd1 : HD Vd (some ⟨w2.heap.size + 1, 0, none⟩) 1 1 1 := by rw [hVd, show w2.heap.size + 1 = Vn.heap.size by rw [hVn]; simp]; exact hd_one Vn
      have zbVd := bVd.size
      replace BB := also BB bVd
      replace h1 := h1.below bVd
      replace x_a := x_a.on bVd
      replace r2 := r2.below bVd
      replace x_n := x_n.on bVd
      go_wp2_with (go_at_call 6; fail)
      rw [← hVn, ← hVd]
      clear hVn hVd
      rw [HE2.out]
      refine (HP2.out Vd).mono ?_
      rintro e w3 ⟨d3, l3, c3, rfl, h3, f3, bw3⟩
      have zbw3 := bw3.size
      replace BB := also BB bw3
      replace h1 := h1.below bw3
      replace x_a := x_a.on bw3
      replace r2 := r2.below bw3
      replace x_n := x_n.on bw3
      replace hd1 := hd1.below bw3
      have hl3 : (0 : Int) < l3 := by have := h3.pos; omega
      go_wp2_with (go_at_call 7; fail)
      refine (rqLong 0 w3 (by decide) (by decide)).mono ?_
      rintro e w4 ⟨s4, d4, l4, c4, t4, g4, h4, k4, rfl, x4, r4, bw4⟩
      have zbw4 := bw4.size
      replace BB := also BB bw4
      replace h1 := h1.below bw4
      replace x_a := x_a.on bw4
      replace r2 := r2.below bw4
      replace x_n := x_n.on bw4
      replace hd1 := hd1.below bw4
      replace h3 := h3.below bw4
      have hx5 : RQ w4 21 s2 d2 l2 c2 1 d3 l3 c3 z N2 := ⟨r2, rn_nat h3 hN0, hN0, HZ.out, HN.out, by decide⟩
      have bt : Below w4.heap.size w4 (w4.alloc (.cells #[.int .i64 s4, .slice d4 l4 c4, .int .i64 t4, .slice g4 h4 k4] 40)) := (Below.refl _ _).alloc (Nat.le_refl _) _
      have ⟨tn0, tn1, tn2, tn3⟩ := x_n.on bt
      obtain ⟨Vr, hVr, bVr, x_r, sVr⟩ := bs_4 w4 (.int .i64 s2) (.slice d2 l2 c2) (.int .i64 1) (.slice d3 l3 c3) 40
      have zbVr := bVr.size
      replace BB := also BB bVr
      replace h1 := h1.below bVr
      replace x_a := x_a.on bVr
      replace r2 := r2.below bVr
      replace x_n := x_n.on bVr
      replace hd1 := hd1.below bVr
      replace h3 := h3.below bVr
      replace x4 := x4.below bVr
      replace hx5 := hx5.below bVr
      go_wp2_with (go_at_call 8; fail)
      rw [← hVr]
      clear hVr
      refine (rqShow s2 d2 l2 c2 1 d3 l3 c3 z N2 21 Vr hx5 HS.out).mono ?_
      rintro e w5 ⟨rfl, bw5⟩
      have zbw5 := bw5.size
      replace BB := also BB bw5
      replace h1 := h1.below bw5
      replace x_a := x_a.on bw5
      replace r2 := r2.below bw5
      replace x_n := x_n.on bw5
      replace hd1 := hd1.below bw5
      replace h3 := h3.below bw5
      replace x4 := x4.below bw5
      replace hx5 := hx5.below bw5
      replace x_r := x_r.on bw5
      have ⟨x_a_0, x_a_1, x_a_2, x_a_3, x_a_4, x_a_5⟩ := x_a
      have ⟨x_r_0, x_r_1, x_r_2, x_r_3, x_r_4, x_r_5, x_r_6, x_r_7⟩ := x_r
      go_wp2_with (go_at_call 9; fail)
      refine (rqSame n1 a1 l1 c1 d1 m1 k1 z N2 s2 d2 l2 c2 1 d3 l3 c3 z N2 21 w5 h1 hx5 HL1.out HL2.out).mono ?_
      rintro e w6 ⟨rfl, bw6⟩
      clear x_a_0 x_a_1 x_a_2 x_a_3 x_a_4 x_a_5 x_r_0 x_r_1 x_r_2 x_r_3 x_r_4 x_r_5 x_r_6 x_r_7
      have zbw6 := bw6.size
      replace BB := also BB bw6
      replace h1 := h1.below bw6
      replace x_a := x_a.on bw6
      replace r2 := r2.below bw6
      replace x_n := x_n.on bw6
      replace hd1 := hd1.below bw6
      replace h3 := h3.below bw6
      replace x4 := x4.below bw6
      replace hx5 := hx5.below bw6
      replace x_r := x_r.on bw6
      go_wp2_with (go_at_call 10; fail)
      refine (lives5_any w6).mono ?_
      rintro e w7 ⟨rfl, bw7⟩
      have zbw7 := bw7.size
      replace BB := also BB bw7
      replace h1 := h1.below bw7
      replace x_a := x_a.on bw7
      replace r2 := r2.below bw7
      replace x_n := x_n.on bw7
      replace hd1 := hd1.below bw7
      replace h3 := h3.below bw7
      replace x4 := x4.below bw7
      replace hx5 := hx5.below bw7
      replace x_r := x_r.on bw7
      go_wp2
      go_ret
      exact ⟨rfl, BB⟩
end prsw
end Go.Proofs.YtaekgomplkkocabGreatDoor
