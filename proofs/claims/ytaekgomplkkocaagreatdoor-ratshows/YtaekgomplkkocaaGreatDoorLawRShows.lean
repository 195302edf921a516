/-
  RatShows: any fraction's text, and that it is read as the fraction, in lowest terms.
-/
import Derived.Test.YtaekgomplkkocaaGreatDoorP6
import Derived.Test.YtaekgomplkkocaaGreatDoorP9
import Derived.Test.YtaekgomplkkocaaGreatDoorP12
namespace Go.Proofs.YtaekgomplkkocaaGreatDoor
open Go.RowKit
set_option linter.unusedVariables false

namespace rshows
open Go.ChangeShapes Go.WideShapes Go.ChangeAt
set_option maxRecDepth 100000 in
set_option maxHeartbeats 80000000 in
theorem walk (n : Bool) (a : Option Addr) (la ca u : Nat) (d : Option Addr) (ld cd v : Nat) (w : World) (ha : Sl w a la ca (wd.dcells la (u : Int))) (hu : u < 4294967296 ^ la) (hd : Sl w d ld cd (wd.dcells ld (v : Int))) (hv : v < 4294967296 ^ ld) :
    Calls Tryz.prog 6 #[.agg #[.bool n, .slice a la ca, .slice d ld cd]] w fun e w' => e = .returned (.bool true) ∧ Below w.heap.size w w' := by
  obtain ⟨W, hW, bW, x_a, sW⟩ := bs_3 w (.bool n) (.slice a la ca) (.slice d ld cd) 27
  have zbW := bW.size
  replace ha := ha.below bW
  replace hd := hd.below bW
  have BB := bW
  go_enter Tryz.func6, Tryz.ntmps6
  go_wp2_with (go_at_call 7; fail)
  rw [← hW]
  clear hW
  refine (short5_any n a la ca u d ld cd v W ha hu hd hv).mono ?_
  rintro e w1 ⟨a1, m1, c1, x1, d1, k1, g1, y1, rfl, q1, f1, e1, bw1⟩
  have zbw1 := bw1.size
  replace ha := ha.below bw1
  replace hd := hd.below bw1
  replace BB := also BB bw1
  replace x_a := x_a.on bw1
  clear ha hd hu hv
  generalize sgz n x1 = Z at q1
  obtain ⟨LN, hLN⟩ : ∃ LN, LN = lowN (pN Z y1) (pD y1) := ⟨_, rfl⟩
  obtain ⟨LD, hLD⟩ : ∃ LD, LD = lowD (pN Z y1) (pD y1) := ⟨_, rfl⟩
  have BN : Hid (LN.natAbs < 4294967296 ^ 6) := by unfold Hid; rw [hLN]; exact Nat.lt_of_le_of_lt (lowN_le _ _) q1.pn
  have BD : Hid (LD < 4294967296 ^ 6) := by unfold Hid; rw [hLD]; exact Nat.lt_of_le_of_lt (lowD_le _ _) q1.pd
  have B0 : Hid (0 < LD) := by unfold Hid; rw [hLD]; exact lowD_pos (pD_pos _)
  have BG : Hid (Nat.gcd LN.natAbs LD = 1) := by unfold Hid; rw [hLN, hLD]; exact low_gcd (pD_pos _)
  obtain ⟨s, hs⟩ : ∃ s, s = qText LN LD := ⟨_, rfl⟩
  have HP : Hid _ := hs
  have HS : Hid (s = qText (lowN (pN Z y1) (pD y1)) (lowD (pN Z y1) (pD y1))) := by unfold Hid; rw [hs, hLN, hLD]
  have HLN : Hid _ := hLN
  have HLD : Hid _ := hLD
  clear hs hLN hLD
  have ⟨x_a_0, x_a_1, x_a_2, x_a_3, x_a_4, x_a_5⟩ := x_a
  go_wp2_with (go_at_call 31; fail)
  clear x_a_0 x_a_1 x_a_2 x_a_3 x_a_4 x_a_5
  obtain ⟨U, hU⟩ : ∃ U, U = (((w1.setCell ⟨w.heap.size, 0, none⟩ (.bool n)).setCell ⟨w.heap.size, 1, none⟩ (.slice a1 m1 c1)).setCell ⟨w.heap.size, 2, none⟩ (.slice d1 k1 g1)) := ⟨_, rfl⟩
  have zU : U.heap.size = w1.heap.size := by rw [hU]; simp
  replace BB : Below w.heap.size w U := by rw [hU]; exact below_put3 BB (by omega) _ _ _
  replace x_a : B3 U (w.heap.size) (.bool n) (.slice a1 m1 c1) (.slice d1 k1 g1) := by rw [hU]; exact x_a.set
  replace q1 := q1.set3 hU (f1 _ (by omega)) (e1 _ (by omega))
  rw [← hU]
  clear hU
  refine (qShow n a1 m1 c1 d1 k1 g1 Z y1 6 U q1 HS.out).mono ?_
  rintro e w2 ⟨rfl, bw2⟩
  have zbw2 := bw2.size
  replace BB := also BB bw2
  replace x_a := x_a.on bw2
  replace q1 := q1.below bw2
  go_wp2_with (go_at_call 32; fail)
  refine (qParse s LN LD w2 HP.out BN.out BD.out B0.out BG.out).mono ?_
  rintro e w3 ⟨n5, a5, l5, c5, d5, m5, k5, rfl, h5, f5, e5, bw3⟩
  have zbw3 := bw3.size
  replace BB := also BB bw3
  replace x_a := x_a.on bw3
  replace q1 := q1.below bw3
  obtain ⟨V5, hV5, bV5, x_b, sV5⟩ := bs_3 w3 (.bool n5) (.slice a5 l5 c5) (.slice d5 m5 k5) 27
  have zbV5 := bV5.size
  replace BB := also BB bV5
  replace x_a := x_a.on bV5
  replace q1 := q1.below bV5
  replace h5 := h5.below bV5
  go_wp2
  rw [← hV5]
  clear hV5
  have dd1 : Below V5.heap.size V5 V5.drew := (Below.refl _ _).drew
  have zdd1 := dd1.size
  replace BB := also BB dd1
  replace x_a := x_a.on dd1
  replace q1 := q1.below dd1
  replace h5 := h5.below dd1
  replace x_b := x_b.on dd1
  refine wp_region_held_drew (S := (fun w' => w'.cell? ⟨w.heap.size, 0, none⟩ = some (.bool n) ∧ w'.cell? ⟨w.heap.size, 1, none⟩ = some (.slice a1 m1 c1) ∧ w'.cell? ⟨w.heap.size, 2, none⟩ = some (.slice d1 k1 g1) ∧ w'.cell? ⟨w3.heap.size, 0, none⟩ = some (.bool n5) ∧ w'.cell? ⟨w3.heap.size, 1, none⟩ = some (.slice a5 l5 c5) ∧ w'.cell? ⟨w3.heap.size, 2, none⟩ = some (.slice d5 m5 k5) ∧ Below w.heap.size w w')) (by kernel_rfl) ?_ (fun hHeld => ?_)
  · first | exact ⟨x_a.c0, x_a.c1, x_a.c2, x_b.c0, x_b.c1, x_b.c2, BB⟩ | exact ⟨cell_on bw10 hHeld.1, cell_on bw10 hHeld.2.1, cell_on bw10 hHeld.2.2.1, cell_on bw10 hHeld.2.2.2.1, cell_on bw10 hHeld.2.2.2.2.1, cell_on bw10 hHeld.2.2.2.2.2.1, also hHeld.2.2.2.2.2.2 bw10⟩ | exact ⟨cell_on bw9 hHeld.1, cell_on bw9 hHeld.2.1, cell_on bw9 hHeld.2.2.1, cell_on bw9 hHeld.2.2.2.1, cell_on bw9 hHeld.2.2.2.2.1, cell_on bw9 hHeld.2.2.2.2.2.1, also hHeld.2.2.2.2.2.2 bw9⟩ | exact ⟨cell_on bw8 hHeld.1, cell_on bw8 hHeld.2.1, cell_on bw8 hHeld.2.2.1, cell_on bw8 hHeld.2.2.2.1, cell_on bw8 hHeld.2.2.2.2.1, cell_on bw8 hHeld.2.2.2.2.2.1, also hHeld.2.2.2.2.2.2 bw8⟩ | exact ⟨cell_on bw7 hHeld.1, cell_on bw7 hHeld.2.1, cell_on bw7 hHeld.2.2.1, cell_on bw7 hHeld.2.2.2.1, cell_on bw7 hHeld.2.2.2.2.1, cell_on bw7 hHeld.2.2.2.2.2.1, also hHeld.2.2.2.2.2.2 bw7⟩ | exact ⟨cell_on bw6 hHeld.1, cell_on bw6 hHeld.2.1, cell_on bw6 hHeld.2.2.1, cell_on bw6 hHeld.2.2.2.1, cell_on bw6 hHeld.2.2.2.2.1, cell_on bw6 hHeld.2.2.2.2.2.1, also hHeld.2.2.2.2.2.2 bw6⟩
  refine take_yes (i := 0) (v := ?vw0) rfl (by kernel_rfl) (by kernel_rfl) (by kernel_rfl) (fun _ _ _ h => h) (by rfl) (by assumption) ?hyw0 ?restw0
  case hyw0 => (intro w hSw; (try dsimp only at hSw); first | (go_simp; done) | (go_simp; with_reducible rfl))
  simp only [Act.put, List.setIfInBounds_toArray, List.set_cons_zero, List.set_cons_succ]
  refine take_yes (i := 1) (v := ?vw1) rfl (by kernel_rfl) (by kernel_rfl) (by kernel_rfl) (fun _ _ _ h => h) (by rfl) (by assumption) ?hyw1 ?restw1
  case hyw1 => (intro w hSw; (try dsimp only at hSw); first | (go_simp; done) | (go_simp; with_reducible rfl))
  simp only [Act.put, List.setIfInBounds_toArray, List.set_cons_zero, List.set_cons_succ]
  refine take_call (i := 2) rfl (by kernel_rfl) (fun Kc hK => ?_)
  go_simp
  (go_at_call 8; refine (rqOf n a1 m1 c1 d1 k1 g1 Z y1 6 _ q1).mono ?_; rintro e w6 ⟨s6, d6, l6, c6, t6, g6, h6, k6, rfl, x6, r6, bw6⟩)
  refine hK.out _ _ ?_ (fun hHeld => ?_)
  · first | exact ⟨x_a.c0, x_a.c1, x_a.c2, x_b.c0, x_b.c1, x_b.c2, BB⟩ | exact ⟨cell_on bw10 hHeld.1, cell_on bw10 hHeld.2.1, cell_on bw10 hHeld.2.2.1, cell_on bw10 hHeld.2.2.2.1, cell_on bw10 hHeld.2.2.2.2.1, cell_on bw10 hHeld.2.2.2.2.2.1, also hHeld.2.2.2.2.2.2 bw10⟩ | exact ⟨cell_on bw9 hHeld.1, cell_on bw9 hHeld.2.1, cell_on bw9 hHeld.2.2.1, cell_on bw9 hHeld.2.2.2.1, cell_on bw9 hHeld.2.2.2.2.1, cell_on bw9 hHeld.2.2.2.2.2.1, also hHeld.2.2.2.2.2.2 bw9⟩ | exact ⟨cell_on bw8 hHeld.1, cell_on bw8 hHeld.2.1, cell_on bw8 hHeld.2.2.1, cell_on bw8 hHeld.2.2.2.1, cell_on bw8 hHeld.2.2.2.2.1, cell_on bw8 hHeld.2.2.2.2.2.1, also hHeld.2.2.2.2.2.2 bw8⟩ | exact ⟨cell_on bw7 hHeld.1, cell_on bw7 hHeld.2.1, cell_on bw7 hHeld.2.2.1, cell_on bw7 hHeld.2.2.2.1, cell_on bw7 hHeld.2.2.2.2.1, cell_on bw7 hHeld.2.2.2.2.2.1, also hHeld.2.2.2.2.2.2 bw7⟩ | exact ⟨cell_on bw6 hHeld.1, cell_on bw6 hHeld.2.1, cell_on bw6 hHeld.2.2.1, cell_on bw6 hHeld.2.2.2.1, cell_on bw6 hHeld.2.2.2.2.1, cell_on bw6 hHeld.2.2.2.2.2.1, also hHeld.2.2.2.2.2.2 bw6⟩
  clear hK Kc
  have zbw6 := bw6.size
  replace BB := also BB bw6
  replace x_a := x_a.on bw6
  replace q1 := q1.below bw6
  replace h5 := h5.below bw6
  replace x_b := x_b.on bw6
  refine take_call (i := 3) rfl (by kernel_rfl) (fun Kc hK => ?_)
  go_simp
  (go_at_call 33; refine (rqShow s6 d6 l6 c6 t6 g6 h6 k6 (pN Z y1) (pD y1) 6 _ x6 HS.out).mono ?_; rintro e w7 ⟨rfl, bw7⟩)
  refine hK.out _ _ ?_ (fun hHeld => ?_)
  · first | exact ⟨x_a.c0, x_a.c1, x_a.c2, x_b.c0, x_b.c1, x_b.c2, BB⟩ | exact ⟨cell_on bw10 hHeld.1, cell_on bw10 hHeld.2.1, cell_on bw10 hHeld.2.2.1, cell_on bw10 hHeld.2.2.2.1, cell_on bw10 hHeld.2.2.2.2.1, cell_on bw10 hHeld.2.2.2.2.2.1, also hHeld.2.2.2.2.2.2 bw10⟩ | exact ⟨cell_on bw9 hHeld.1, cell_on bw9 hHeld.2.1, cell_on bw9 hHeld.2.2.1, cell_on bw9 hHeld.2.2.2.1, cell_on bw9 hHeld.2.2.2.2.1, cell_on bw9 hHeld.2.2.2.2.2.1, also hHeld.2.2.2.2.2.2 bw9⟩ | exact ⟨cell_on bw8 hHeld.1, cell_on bw8 hHeld.2.1, cell_on bw8 hHeld.2.2.1, cell_on bw8 hHeld.2.2.2.1, cell_on bw8 hHeld.2.2.2.2.1, cell_on bw8 hHeld.2.2.2.2.2.1, also hHeld.2.2.2.2.2.2 bw8⟩ | exact ⟨cell_on bw7 hHeld.1, cell_on bw7 hHeld.2.1, cell_on bw7 hHeld.2.2.1, cell_on bw7 hHeld.2.2.2.1, cell_on bw7 hHeld.2.2.2.2.1, cell_on bw7 hHeld.2.2.2.2.2.1, also hHeld.2.2.2.2.2.2 bw7⟩ | exact ⟨cell_on bw6 hHeld.1, cell_on bw6 hHeld.2.1, cell_on bw6 hHeld.2.2.1, cell_on bw6 hHeld.2.2.2.1, cell_on bw6 hHeld.2.2.2.2.1, cell_on bw6 hHeld.2.2.2.2.2.1, also hHeld.2.2.2.2.2.2 bw6⟩
  clear hK Kc
  have zbw7 := bw7.size
  replace BB := also BB bw7
  replace x_a := x_a.on bw7
  replace q1 := q1.below bw7
  replace h5 := h5.below bw7
  replace x_b := x_b.on bw7
  replace x6 := x6.below bw7
  refine take_yes (i := 4) (v := ?vw4) rfl (by kernel_rfl) (by kernel_rfl) (by kernel_rfl) (fun _ _ _ h => h) (by rfl) (by assumption) ?hyw4 ?restw4
  case hyw4 => (intro w hSw; (try dsimp only at hSw); first | (go_simp; done) | (go_simp; with_reducible rfl))
  simp only [Act.put, List.setIfInBounds_toArray, List.set_cons_zero, List.set_cons_succ]
  refine take_yes (i := 5) (v := ?vw5) rfl (by kernel_rfl) (by kernel_rfl) (by kernel_rfl) (fun _ _ _ h => h) (by rfl) (by assumption) ?hyw5 ?restw5
  case hyw5 => (intro w hSw; (try dsimp only at hSw); first | (go_simp; done) | (go_simp; with_reducible rfl))
  simp only [Act.put, List.setIfInBounds_toArray, List.set_cons_zero, List.set_cons_succ]
  refine take_yes (i := 6) (v := ?vw6) rfl (by kernel_rfl) (by kernel_rfl) (by kernel_rfl) (fun _ _ _ h => h) (by rfl) (by assumption) ?hyw6 ?restw6
  case hyw6 => (intro w hSw; (try dsimp only at hSw); first | (go_simp; done) | (go_simp; with_reducible rfl))
  simp only [Act.put, List.setIfInBounds_toArray, List.set_cons_zero, List.set_cons_succ]
  refine take_yes (i := 7) (v := ?vw7) rfl (by kernel_rfl) (by kernel_rfl) (by kernel_rfl) (fun _ _ _ h => h) (by rfl) (by assumption) ?hyw7 ?restw7
  case hyw7 => (intro w hSw; (try dsimp only at hSw); first | (go_simp; done) | (go_simp; with_reducible rfl))
  simp only [Act.put, List.setIfInBounds_toArray, List.set_cons_zero, List.set_cons_succ]
  refine take_call (i := 8) rfl (by kernel_rfl) (fun Kc hK => ?_)
  go_simp
  (go_at_call 8; refine (rqOf n a1 m1 c1 d1 k1 g1 Z y1 6 _ q1).mono ?_; rintro e w8 ⟨s8, d8, l8, c8, t8, g8, h8, k8, rfl, x8, r8, bw8⟩)
  refine hK.out _ _ ?_ (fun hHeld => ?_)
  · first | exact ⟨x_a.c0, x_a.c1, x_a.c2, x_b.c0, x_b.c1, x_b.c2, BB⟩ | exact ⟨cell_on bw10 hHeld.1, cell_on bw10 hHeld.2.1, cell_on bw10 hHeld.2.2.1, cell_on bw10 hHeld.2.2.2.1, cell_on bw10 hHeld.2.2.2.2.1, cell_on bw10 hHeld.2.2.2.2.2.1, also hHeld.2.2.2.2.2.2 bw10⟩ | exact ⟨cell_on bw9 hHeld.1, cell_on bw9 hHeld.2.1, cell_on bw9 hHeld.2.2.1, cell_on bw9 hHeld.2.2.2.1, cell_on bw9 hHeld.2.2.2.2.1, cell_on bw9 hHeld.2.2.2.2.2.1, also hHeld.2.2.2.2.2.2 bw9⟩ | exact ⟨cell_on bw8 hHeld.1, cell_on bw8 hHeld.2.1, cell_on bw8 hHeld.2.2.1, cell_on bw8 hHeld.2.2.2.1, cell_on bw8 hHeld.2.2.2.2.1, cell_on bw8 hHeld.2.2.2.2.2.1, also hHeld.2.2.2.2.2.2 bw8⟩ | exact ⟨cell_on bw7 hHeld.1, cell_on bw7 hHeld.2.1, cell_on bw7 hHeld.2.2.1, cell_on bw7 hHeld.2.2.2.1, cell_on bw7 hHeld.2.2.2.2.1, cell_on bw7 hHeld.2.2.2.2.2.1, also hHeld.2.2.2.2.2.2 bw7⟩ | exact ⟨cell_on bw6 hHeld.1, cell_on bw6 hHeld.2.1, cell_on bw6 hHeld.2.2.1, cell_on bw6 hHeld.2.2.2.1, cell_on bw6 hHeld.2.2.2.2.1, cell_on bw6 hHeld.2.2.2.2.2.1, also hHeld.2.2.2.2.2.2 bw6⟩
  clear hK Kc
  have zbw8 := bw8.size
  replace BB := also BB bw8
  replace x_a := x_a.on bw8
  replace q1 := q1.below bw8
  replace h5 := h5.below bw8
  replace x_b := x_b.on bw8
  replace x6 := x6.below bw8
  refine take_call (i := 9) rfl (by kernel_rfl) (fun Kc hK => ?_)
  go_simp
  (go_at_call 9; refine (rqSame n5 a5 l5 c5 d5 m5 k5 LN LD s8 d8 l8 c8 t8 g8 h8 k8 (pN Z y1) (pD y1) 6 _ h5 x8 HLN.out HLD.out).mono ?_; rintro e w9 ⟨rfl, bw9⟩)
  refine hK.out _ _ ?_ (fun hHeld => ?_)
  · first | exact ⟨x_a.c0, x_a.c1, x_a.c2, x_b.c0, x_b.c1, x_b.c2, BB⟩ | exact ⟨cell_on bw10 hHeld.1, cell_on bw10 hHeld.2.1, cell_on bw10 hHeld.2.2.1, cell_on bw10 hHeld.2.2.2.1, cell_on bw10 hHeld.2.2.2.2.1, cell_on bw10 hHeld.2.2.2.2.2.1, also hHeld.2.2.2.2.2.2 bw10⟩ | exact ⟨cell_on bw9 hHeld.1, cell_on bw9 hHeld.2.1, cell_on bw9 hHeld.2.2.1, cell_on bw9 hHeld.2.2.2.1, cell_on bw9 hHeld.2.2.2.2.1, cell_on bw9 hHeld.2.2.2.2.2.1, also hHeld.2.2.2.2.2.2 bw9⟩ | exact ⟨cell_on bw8 hHeld.1, cell_on bw8 hHeld.2.1, cell_on bw8 hHeld.2.2.1, cell_on bw8 hHeld.2.2.2.1, cell_on bw8 hHeld.2.2.2.2.1, cell_on bw8 hHeld.2.2.2.2.2.1, also hHeld.2.2.2.2.2.2 bw8⟩ | exact ⟨cell_on bw7 hHeld.1, cell_on bw7 hHeld.2.1, cell_on bw7 hHeld.2.2.1, cell_on bw7 hHeld.2.2.2.1, cell_on bw7 hHeld.2.2.2.2.1, cell_on bw7 hHeld.2.2.2.2.2.1, also hHeld.2.2.2.2.2.2 bw7⟩ | exact ⟨cell_on bw6 hHeld.1, cell_on bw6 hHeld.2.1, cell_on bw6 hHeld.2.2.1, cell_on bw6 hHeld.2.2.2.1, cell_on bw6 hHeld.2.2.2.2.1, cell_on bw6 hHeld.2.2.2.2.2.1, also hHeld.2.2.2.2.2.2 bw6⟩
  clear hK Kc
  have zbw9 := bw9.size
  replace BB := also BB bw9
  replace x_a := x_a.on bw9
  replace q1 := q1.below bw9
  replace h5 := h5.below bw9
  replace x_b := x_b.on bw9
  replace x6 := x6.below bw9
  replace x8 := x8.below bw9
  refine take_yes (i := 10) (v := ?vw10) rfl (by kernel_rfl) (by kernel_rfl) (by kernel_rfl) (fun _ _ _ h => h) (by rfl) (by assumption) ?hyw10 ?restw10
  case hyw10 => (intro w hSw; (try dsimp only at hSw); first | (go_simp; done) | (go_simp; with_reducible rfl))
  simp only [Act.put, List.setIfInBounds_toArray, List.set_cons_zero, List.set_cons_succ]
  refine take_yes (i := 11) (v := ?vw11) rfl (by kernel_rfl) (by kernel_rfl) (by kernel_rfl) (fun _ _ _ h => h) (by rfl) (by assumption) ?hyw11 ?restw11
  case hyw11 => (intro w hSw; (try dsimp only at hSw); first | (go_simp; done) | (go_simp; with_reducible rfl))
  simp only [Act.put, List.setIfInBounds_toArray, List.set_cons_zero, List.set_cons_succ]
  refine take_yes (i := 12) (v := ?vw12) rfl (by kernel_rfl) (by kernel_rfl) (by kernel_rfl) (fun _ _ _ h => h) (by rfl) (by assumption) ?hyw12 ?restw12
  case hyw12 => (intro w hSw; (try dsimp only at hSw); first | (go_simp; done) | (go_simp; with_reducible rfl))
  simp only [Act.put, List.setIfInBounds_toArray, List.set_cons_zero, List.set_cons_succ]
  refine take_yes (i := 13) (v := ?vw13) rfl (by kernel_rfl) (by kernel_rfl) (by kernel_rfl) (fun _ _ _ h => h) (by rfl) (by assumption) ?hyw13 ?restw13
  case hyw13 => (intro w hSw; (try dsimp only at hSw); first | (go_simp; done) | (go_simp; with_reducible rfl))
  simp only [Act.put, List.setIfInBounds_toArray, List.set_cons_zero, List.set_cons_succ]
  refine take_yes (i := 14) (v := ?vw14) rfl (by kernel_rfl) (by kernel_rfl) (by kernel_rfl) (fun _ _ _ h => h) (by rfl) (by assumption) ?hyw14 ?restw14
  case hyw14 => (intro w hSw; (try dsimp only at hSw); first | (go_simp; done) | (go_simp; with_reducible rfl))
  simp only [Act.put, List.setIfInBounds_toArray, List.set_cons_zero, List.set_cons_succ]
  refine take_yes (i := 15) (v := ?vw15) rfl (by kernel_rfl) (by kernel_rfl) (by kernel_rfl) (fun _ _ _ h => h) (by rfl) (by assumption) ?hyw15 ?restw15
  case hyw15 => (intro w hSw; (try dsimp only at hSw); first | (go_simp; done) | (go_simp; with_reducible rfl))
  simp only [Act.put, List.setIfInBounds_toArray, List.set_cons_zero, List.set_cons_succ]
  refine take_call (i := 16) rfl (by kernel_rfl) (fun Kc hK => ?_)
  go_simp
  (go_at_call 17; refine (lives5_any _).mono ?_; rintro e w10 ⟨rfl, bw10⟩)
  refine hK.out _ _ ?_ (fun hHeld => ?_)
  · first | exact ⟨x_a.c0, x_a.c1, x_a.c2, x_b.c0, x_b.c1, x_b.c2, BB⟩ | exact ⟨cell_on bw10 hHeld.1, cell_on bw10 hHeld.2.1, cell_on bw10 hHeld.2.2.1, cell_on bw10 hHeld.2.2.2.1, cell_on bw10 hHeld.2.2.2.2.1, cell_on bw10 hHeld.2.2.2.2.2.1, also hHeld.2.2.2.2.2.2 bw10⟩ | exact ⟨cell_on bw9 hHeld.1, cell_on bw9 hHeld.2.1, cell_on bw9 hHeld.2.2.1, cell_on bw9 hHeld.2.2.2.1, cell_on bw9 hHeld.2.2.2.2.1, cell_on bw9 hHeld.2.2.2.2.2.1, also hHeld.2.2.2.2.2.2 bw9⟩ | exact ⟨cell_on bw8 hHeld.1, cell_on bw8 hHeld.2.1, cell_on bw8 hHeld.2.2.1, cell_on bw8 hHeld.2.2.2.1, cell_on bw8 hHeld.2.2.2.2.1, cell_on bw8 hHeld.2.2.2.2.2.1, also hHeld.2.2.2.2.2.2 bw8⟩ | exact ⟨cell_on bw7 hHeld.1, cell_on bw7 hHeld.2.1, cell_on bw7 hHeld.2.2.1, cell_on bw7 hHeld.2.2.2.1, cell_on bw7 hHeld.2.2.2.2.1, cell_on bw7 hHeld.2.2.2.2.2.1, also hHeld.2.2.2.2.2.2 bw7⟩ | exact ⟨cell_on bw6 hHeld.1, cell_on bw6 hHeld.2.1, cell_on bw6 hHeld.2.2.1, cell_on bw6 hHeld.2.2.2.1, cell_on bw6 hHeld.2.2.2.2.1, cell_on bw6 hHeld.2.2.2.2.2.1, also hHeld.2.2.2.2.2.2 bw6⟩
  clear hK Kc
  have zbw10 := bw10.size
  replace BB := also BB bw10
  replace x_a := x_a.on bw10
  replace q1 := q1.below bw10
  replace h5 := h5.below bw10
  replace x_b := x_b.on bw10
  replace x6 := x6.below bw10
  replace x8 := x8.below bw10
  refine take_yes (i := 17) (v := ?vw17) rfl (by kernel_rfl) (by kernel_rfl) (by kernel_rfl) (fun _ _ _ h => h) (by rfl) (by assumption) ?hyw17 ?restw17
  case hyw17 => (intro w hSw; (try dsimp only at hSw); first | (go_simp; done) | (go_simp; with_reducible rfl))
  simp only [Act.put, List.setIfInBounds_toArray, List.set_cons_zero, List.set_cons_succ]
  refine take_yes (i := 18) (v := ?vw18) rfl (by kernel_rfl) (by kernel_rfl) (by kernel_rfl) (fun _ _ _ h => h) (by rfl) (by assumption) ?hyw18 ?restw18
  case hyw18 => (intro w hSw; (try dsimp only at hSw); first | (go_simp; done) | (go_simp; with_reducible rfl))
  simp only [Act.put, List.setIfInBounds_toArray, List.set_cons_zero, List.set_cons_succ]
  refine wpAnyH_done (by kernel_rfl) ?_ _
  go_wp2
  go_ret
  exact ⟨rfl, BB⟩
theorem own : ownKnob Tryz.prog.godebug = none := by kernel_rfl
set_option maxRecDepth 100000 in
theorem lifted (os : Os) (started : os.Started) (H : Type) (enc : TypeId × Value → H) :
    ReturnsInHanded {} Tryz.checked os 6 .any (fun w args => (Rows.ratShowsSpec.pre enc Tryz.prog Tryz.f6 [] false w args ∧ laidMetH Tryz.prog Rows.ratShowsRow.laid w) ∧ sizedMet enc Tryz.prog Tryz.f6 (OpenSpec.ofChange Rows.ratShowsSpec) false w args)
      (Rows.ratShowsSpec.post enc Tryz.prog Tryz.f6 false true false false) := by
  refine returnsInHanded_of_change_and (C := Tryz.checked) (X := fun w _ => laidMetH Tryz.prog Rows.ratShowsRow.laid w) (fun _ _ _ hh h => h.of_heap hh) own started (by kernel_rfl) Tryz.func6
    (ChangeSpec.witness_shaped (enc := enc) (C := Tryz.checked) (os := os) (X := fun w _ => laidMetH Tryz.prog Rows.ratShowsRow.laid w) false (World.laidAll Tryz.prog os Rows.ratShowsRow.laid) #[.agg #[.bool false, .slice none 0 0, .slice none 0 0]] 8 (World.laidAll_os _ _ _)
      (World.shaped_of_ZipB (by kernel_rfl) (by kernel_rfl)) (by kernel_rfl) (by kernel_rfl) (by kernel_rfl)
      (by rw [MakeChecks.laidMetH_plain _ _ _ (by kernel_rfl)]; exact laidMet_laidAll _ (by kernel_rfl) (by kernel_rfl))) ?_
  intro W base args ds gs before hval0 hW _ _ hL _
  have hval : ∀ (j : Nat) t v, Tryz.f6.params[j]? = some t → args[j]? = some v → Value.okWide Tryz.prog W .any base t v := hval0
  have hW' := hW
  obtain ⟨p, q, hA0, hV, rfl, hfz, hnd⟩ := hW
  have hA : DataW.TrodAll enc Tryz.prog W 0 (fun _ => true) true Tryz.f6.params.toList args.toList ds p := hA0
  rw [Tryz.params6] at hA hval
  obtain ⟨v0, vs0, d0, ds0, p0, q0, hargs, rfl, rfl, h0, r0⟩ := trodAll_cons hA
  obtain ⟨rfl, rfl, rfl⟩ := trodAll_nil r0
  obtain rfl : args = #[v0] := by cases args; simp_all
  obtain ⟨rfl, rfl⟩ := trodVars_none hV
  have hlt : ∀ x ∈ p0, x.block < W.heap.size := fun x hx => by simpa using hW'.lt x (by simpa using hx)
  have h0k := h0
  obtain ⟨n0, a0, l0, c0, u0, e0, m0, k0, x0, rfl, hu0, hs0, hx0, ht0⟩ := rat_view (hval 0 27 v0 rfl rfl) h0 (fun b o h => hfz b o (by simp [h])) (fun x hx => hlt x (by simp [hx]))
  clear hA0 hval0
  refine (walk n0 a0 l0 c0 u0 e0 m0 k0 x0 W hs0 hu0 ht0 hx0).mono fun e W' ⟨he, bel⟩ => ?_
  subst he
  exact ⟨_, rfl, _, _, _, [], _, [], hW', trodAll_mk1 (shut_bool Tryz.underlying4 _), (trodAll_cons_mk (Below.trod laidOutAll (by kernel_rfl) (of_decide_eq_true (by kernel_rfl)) h0k bel (fun x hx => hlt x (by simp [hx]))) trodAll_mk0), rfl, bel.frame _, fun h => by cases h⟩

theorem said : Rows.RatShowsSaid :=
  OpenClaim.holds_of_wide 6 Tryz.f6 rfl rfl rfl rfl rfl rfl rfl ⟨rfl, rfl, rfl, rfl, rfl⟩ rfl rfl rfl rfl rfl (by kernel_rfl) Tryz.func6 (by kernel_rfl)
    (of_decide_eq_true (by kernel_rfl)) (by unfold Func.isWrapper; first | (rw [if_pos (by decide +kernel)]; kernel_rfl) | (rw [if_neg (by decide +kernel)]; exact ⟨rfl, rfl⟩))
    (fun os started H enc _ => lifted os started H enc)
/-- The program's own looks are off, and no parameter wants a stand-in: what the card asks. -/
theorem plain (f : FuncId) (fn : Func) (hf : Tryz.pinned.checked.prog.funcNamed "zellige/zelligelaw05.RatShows" = some f) (hfn : Tryz.pinned.checked.prog.funcs[f]? = some fn) :
    false = Tryz.pinned.checked.prog.looks [] ∧ ∀ (j : Nat) t, fn.params[j]? = some t → Tryz.pinned.checked.prog.wantsStandIn t = false := by
  obtain rfl : f = 6 := Option.some.inj ((show Tryz.prog.funcNamed "zellige/zelligelaw05.RatShows" = some 6 by kernel_rfl).symm.trans hf) |>.symm
  obtain rfl : fn = Tryz.f6 := (Option.some.inj (Tryz.func6.symm.trans hfn)).symm
  refine ⟨by kernel_rfl, fun j t ht => ?_⟩
  rw [Tryz.params6] at ht
  have hm : t ∈ [27] := by simpa using Array.mem_of_getElem? ht
  have hall : ([27].all fun u => !Tryz.prog.wantsStandIn u) = true := by kernel_rfl
  exact (show Tryz.prog.wantsStandIn t = false by simpa using List.all_eq_true.1 hall t hm)
/-- The statement: the card. -/
theorem proved : Rows.RatShowsCardSaid :=
  Claim7.holds_tied_plain_at .later [] _ _ _ _ said (fun _ h => by cases h) (by kernel_rfl) (fun _ h => by cases h) ratShows_row_tie rfl ⟨rfl, rfl⟩ (by kernel_rfl) rfl plain (by kernel_rfl)
#print axioms proved
end rshows
end Go.Proofs.YtaekgomplkkocaaGreatDoor
