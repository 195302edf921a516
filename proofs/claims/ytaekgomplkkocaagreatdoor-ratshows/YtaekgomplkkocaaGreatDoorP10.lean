/-
  Joined texts, part 10:
  What zelligeref05's Over, Mul, Div and Cmp answer.
  What zelligeref05's Add and Sub answer.
  What zelligeref05's Floor and Round answer.
-/
import Derived.Test.YtaekgomplkkocaaGreatDoorP9
namespace Go.Proofs.YtaekgomplkkocaaGreatDoor
open Go.RowKit
set_option linter.unusedVariables false

set_option maxRecDepth 100000 in
set_option maxHeartbeats 1000000 in
theorem rqOver (s1 : Int) (d1 : Option Addr) (l1 c1 : Nat) (t1 : Int) (g1 : Option Addr) (h1 k1 : Nat) (x y : Int) (K : Nat) (w : World) (hx : RN w s1 d1 l1 c1 x) (hy : RN w t1 g1 h1 k1 y) (h0 : y ≠ 0) (fx : x.natAbs < 4294967296 ^ K) (fy : y.natAbs < 4294967296 ^ K) (kk : K ≤ 10000) (N : Int) (D : Nat) (hN : N = x * y.sign) (hD : D = y.natAbs) :
    Calls Tryz.prog 49 #[.agg #[.int .i64 s1, .slice d1 l1 c1], .agg #[.int .i64 t1, .slice g1 h1 k1]] w (GotRQ w (fun j => NA j d1 l1 ∧ NA j g1 h1) K N D) := by
  have n1 : NA (w.heap.size + 1 + 1) d1 l1 := hx.hd.sl.na (by omega)
  have n2 : NA (w.heap.size + 1 + 1) g1 h1 := hy.hd.sl.na (by omega)
  have hs := hy.sg
  rcases sign_cases y with ⟨hy0, e⟩ | ⟨hy0, e⟩ | ⟨hy0, e⟩
  · obtain rfl : t1 = -1 := by rw [hs, e]
    have HN : Hid (N = -x) := by unfold Hid; rw [hN, e]; omega
    have HD : Hid ((D : Int) = -y) := by unfold Hid; omega
    have d0 : 0 < D := by omega
    have HS : Hid (N.natAbs < 4294967296 ^ K) := by unfold Hid; rw [HN.out, Int.natAbs_neg]; exact fx
    have HT : Hid (D < 4294967296 ^ K) := by unfold Hid; rw [hD]; exact fy
    clear hN hD hs e hy0 h0
    obtain ⟨W, hW, bW, x_a, x_b, x_z, sW⟩ := bs_224 w (.int .i64 s1) (.slice d1 l1 c1) (.int .i64 (-1)) (.slice g1 h1 k1) (.int .i64 0) (.slice none 0 0) (.int .i64 0) (.slice none 0 0) 32 32 34
    have zbW := bW.size
    replace hx := hx.below bW
    replace hy := hy.below bW
    have BB := bW
    go_enter Tryz.func49, Tryz.ntmps49
    go_wp2
    rw [← hW]
    clear hW
    have dd1 : Below W.heap.size W W.drew := (Below.refl _ _).drew
    have zdd1 := dd1.size
    replace hx := hx.below dd1
    replace hy := hy.below dd1
    replace BB := also BB dd1
    replace x_a := x_a.on dd1
    replace x_b := x_b.on dd1
    replace x_z := x_z.on dd1
    refine wp_region_held_drew (S := (fun w' => w'.cell? ⟨w.heap.size, 0, none⟩ = some (.int .i64 s1) ∧ w'.cell? ⟨w.heap.size, 1, none⟩ = some (.slice d1 l1 c1) ∧ w'.cell? ⟨w.heap.size + 1, 0, none⟩ = some (.int .i64 (-1)) ∧ w'.cell? ⟨w.heap.size + 1, 1, none⟩ = some (.slice g1 h1 k1) ∧ Below w.heap.size w w')) (by kernel_rfl) ?_ (fun hHeld => ?_)
    · first | exact ⟨x_a.c0, x_a.c1, x_b.c0, x_b.c1, BB⟩ | exact ⟨cell_on bw4 hHeld.1, cell_on bw4 hHeld.2.1, cell_on bw4 hHeld.2.2.1, cell_on bw4 hHeld.2.2.2.1, also hHeld.2.2.2.2 bw4⟩ | exact ⟨cell_on bw3 hHeld.1, cell_on bw3 hHeld.2.1, cell_on bw3 hHeld.2.2.1, cell_on bw3 hHeld.2.2.2.1, also hHeld.2.2.2.2 bw3⟩ | exact ⟨cell_put4 hHeld.1 (by omega) _ _ _ _, cell_put4 hHeld.2.1 (by omega) _ _ _ _, cell_put4 hHeld.2.2.1 (by omega) _ _ _ _, cell_put4 hHeld.2.2.2.1 (by omega) _ _ _ _, below_put4 hHeld.2.2.2.2 (by omega) _ _ _ _⟩
    refine take_yes (i := 0) (v := ?vr0) rfl (by kernel_rfl) (by kernel_rfl) (by kernel_rfl) (fun _ _ _ h => h) (by rfl) (by assumption) ?hyr0 ?restr0
    case hyr0 => (intro w hSw; (try dsimp only at hSw); first | (go_simp; done) | (go_simp; with_reducible rfl))
    simp only [Act.put, List.setIfInBounds_toArray, List.set_cons_zero, List.set_cons_succ]
    refine take_yes (i := 2) (v := ?vr2) rfl (by kernel_rfl) (by kernel_rfl) (by kernel_rfl) (fun _ _ _ h => h) (by rfl) (by assumption) ?hyr2 ?restr2
    case hyr2 => (intro w hSw; (try dsimp only at hSw); first | (go_simp; done) | (go_simp; with_reducible rfl))
    simp only [Act.put, List.setIfInBounds_toArray, List.set_cons_zero, List.set_cons_succ]
    refine take_call (i := 1) rfl (by kernel_rfl) (fun Kc hK => ?_)
    go_simp
    (go_at_call 46; refine (rwNeg s1 d1 l1 c1 x N _ hx HN.out).mono ?_; rintro e w3 ⟨s3, d3, l3, c3, rfl, h3, f3, bw3⟩)
    refine hK.out _ _ ?_ (fun hHeld => ?_)
    · first | exact ⟨x_a.c0, x_a.c1, x_b.c0, x_b.c1, BB⟩ | exact ⟨cell_on bw4 hHeld.1, cell_on bw4 hHeld.2.1, cell_on bw4 hHeld.2.2.1, cell_on bw4 hHeld.2.2.2.1, also hHeld.2.2.2.2 bw4⟩ | exact ⟨cell_on bw3 hHeld.1, cell_on bw3 hHeld.2.1, cell_on bw3 hHeld.2.2.1, cell_on bw3 hHeld.2.2.2.1, also hHeld.2.2.2.2 bw3⟩ | exact ⟨cell_put4 hHeld.1 (by omega) _ _ _ _, cell_put4 hHeld.2.1 (by omega) _ _ _ _, cell_put4 hHeld.2.2.1 (by omega) _ _ _ _, cell_put4 hHeld.2.2.2.1 (by omega) _ _ _ _, below_put4 hHeld.2.2.2.2 (by omega) _ _ _ _⟩
    clear hK Kc
    have zbw3 := bw3.size
    replace hx := hx.below bw3
    replace hy := hy.below bw3
    replace BB := also BB bw3
    replace x_a := x_a.on bw3
    replace x_b := x_b.on bw3
    replace x_z := x_z.on bw3
    refine take_call (i := 3) rfl (by kernel_rfl) (fun Kc hK => ?_)
    go_simp
    (go_at_call 46; refine (rwNeg (-1) g1 h1 k1 y D _ hy HD.out).mono ?_; rintro e w4 ⟨s4, d4, l4, c4, rfl, h4, f4, bw4⟩)
    refine hK.out _ _ ?_ (fun hHeld => ?_)
    · first | exact ⟨x_a.c0, x_a.c1, x_b.c0, x_b.c1, BB⟩ | exact ⟨cell_on bw4 hHeld.1, cell_on bw4 hHeld.2.1, cell_on bw4 hHeld.2.2.1, cell_on bw4 hHeld.2.2.2.1, also hHeld.2.2.2.2 bw4⟩ | exact ⟨cell_on bw3 hHeld.1, cell_on bw3 hHeld.2.1, cell_on bw3 hHeld.2.2.1, cell_on bw3 hHeld.2.2.2.1, also hHeld.2.2.2.2 bw3⟩ | exact ⟨cell_put4 hHeld.1 (by omega) _ _ _ _, cell_put4 hHeld.2.1 (by omega) _ _ _ _, cell_put4 hHeld.2.2.1 (by omega) _ _ _ _, cell_put4 hHeld.2.2.2.1 (by omega) _ _ _ _, below_put4 hHeld.2.2.2.2 (by omega) _ _ _ _⟩
    clear hK Kc
    have zbw4 := bw4.size
    replace hx := hx.below bw4
    replace hy := hy.below bw4
    replace BB := also BB bw4
    replace x_a := x_a.on bw4
    replace x_b := x_b.on bw4
    replace x_z := x_z.on bw4
    replace h3 := h3.below bw4
    refine take_yes (i := 4) (v := ?vr4) rfl (by kernel_rfl) (by kernel_rfl) (by kernel_rfl) (fun _ _ _ h => h) (by rfl) (by assumption) ?hyr4 ?restr4
    case hyr4 => (intro w hSw; (try dsimp only at hSw); first | (go_simp; done) | (go_simp; with_reducible rfl))
    simp only [Act.put, List.setIfInBounds_toArray, List.set_cons_zero, List.set_cons_succ]
    have ⟨x_z_0, x_z_1, x_z_2, x_z_3, x_z_4, x_z_5, x_z_6, x_z_7⟩ := x_z
    refine take_call (i := 5) rfl (by kernel_rfl) (fun Kc hK => ?_)
    go_simp
    refine hK.out _ _ ?_ (fun hHeld => ?_)
    · first | exact ⟨x_a.c0, x_a.c1, x_b.c0, x_b.c1, BB⟩ | exact ⟨cell_on bw4 hHeld.1, cell_on bw4 hHeld.2.1, cell_on bw4 hHeld.2.2.1, cell_on bw4 hHeld.2.2.2.1, also hHeld.2.2.2.2 bw4⟩ | exact ⟨cell_on bw3 hHeld.1, cell_on bw3 hHeld.2.1, cell_on bw3 hHeld.2.2.1, cell_on bw3 hHeld.2.2.2.1, also hHeld.2.2.2.2 bw3⟩ | exact ⟨cell_put4 hHeld.1 (by omega) _ _ _ _, cell_put4 hHeld.2.1 (by omega) _ _ _ _, cell_put4 hHeld.2.2.1 (by omega) _ _ _ _, cell_put4 hHeld.2.2.2.1 (by omega) _ _ _ _, below_put4 hHeld.2.2.2.2 (by omega) _ _ _ _⟩
    clear hK Kc
    refine wpAnyH_done (by kernel_rfl) ?_ _
    go_wp2
    exact bodyPost_ret (v := .agg #[.int .i64 s3, .slice d3 l3 c3, .int .i64 s4, .slice d4 l4 c4]) (by simp [results, Tryz.results49, go_sem, *]) rfl (endRQ _ (by omega) BB ⟨h3, h4, d0, HS.out, HT.out, kk⟩ (f3 _ (by omega) n1) (f4 _ (by omega) n2) (fun j hj q => ⟨f3 j (by omega) q.1, f4 j (by omega) q.2⟩) _ _ _ _)
  · exact absurd hy0 h0
  · obtain rfl : t1 = 1 := by rw [hs, e]
    have HN : Hid (N = x) := by unfold Hid; rw [hN, e]; omega
    have HD : Hid ((D : Int) = y) := by unfold Hid; omega
    have d0 : 0 < D := by omega
    have HS : Hid (N.natAbs < 4294967296 ^ K) := by unfold Hid; rw [HN.out]; exact fx
    have HT : Hid (D < 4294967296 ^ K) := by unfold Hid; rw [hD]; exact fy
    clear hN hD hs e hy0 h0
    have hx0 := hx
    have hy0' := hy
    obtain ⟨W, hW, bW, x_a, x_b, x_z, sW⟩ := bs_224 w (.int .i64 s1) (.slice d1 l1 c1) (.int .i64 1) (.slice g1 h1 k1) (.int .i64 0) (.slice none 0 0) (.int .i64 0) (.slice none 0 0) 32 32 34
    have zbW := bW.size
    replace hx := hx.below bW
    replace hy := hy.below bW
    have BB := bW
    go_enter Tryz.func49, Tryz.ntmps49
    go_wp2
    have B1 : Below w.heap.size w _ := (((Below.refl w.heap.size w).alloc (Nat.le_refl _) (.cells #[.int .i64 s1, .slice d1 l1 c1] 32)).alloc (by simp) (.cells #[.int .i64 1, .slice g1 h1 k1] 32)).alloc (by simp; omega) (.cells #[.int .i64 s1, .slice d1 l1 c1, .int .i64 1, .slice g1 h1 k1] 34)
    have X1 := hx0.below B1
    have Y1 := hy0'.below B1
    exact bodyPost_ret (v := .agg #[.int .i64 s1, .slice d1 l1 c1, .int .i64 1, .slice g1 h1 k1]) (by simp [results, Tryz.results49, go_sem, *]) rfl (⟨s1, d1, l1, c1, 1, g1, h1, k1, rfl, ⟨by rw [HN.out]; exact X1, by rw [HD.out]; exact Y1, d0, HS.out, HT.out, kk⟩, fun j hj q => q, B1⟩)
set_option maxRecDepth 100000 in
set_option maxHeartbeats 1000000 in
theorem rqMul (s1 : Int) (d1 : Option Addr) (l1 c1 : Nat) (t1 : Int) (g1 : Option Addr) (h1 k1 : Nat) (N1 : Int) (D1 : Nat) (s2 : Int) (d2 : Option Addr) (l2 c2 : Nat) (t2 : Int) (g2 : Option Addr) (h2 k2 : Nat) (N2 : Int) (D2 : Nat) (K : Nat) (w : World) (x : RQ w K s1 d1 l1 c1 t1 g1 h1 k1 N1 D1) (y : RQ w K s2 d2 l2 c2 t2 g2 h2 k2 N2 D2) (kk : K + K ≤ 10000) (N : Int) (D : Nat) (hN : N = N1 * N2) (hD : D = D1 * D2) :
    Calls Tryz.prog 21 #[.agg #[.int .i64 s1, .slice d1 l1 c1, .int .i64 t1, .slice g1 h1 k1], .agg #[.int .i64 s2, .slice d2 l2 c2, .int .i64 t2, .slice g2 h2 k2]] w (GotRQ w (fun _ => True) (K + K) N D) := by
  have fx := x.fn
  have fy := y.fn
  have gx := x.fd
  have gy := y.fd
  have HS : Hid (N.natAbs < 4294967296 ^ (K + K)) := by unfold Hid; rw [hN]; exact abs_mul' x.ns y.ns
  have HT : Hid (D < 4294967296 ^ (K + K)) := by unfold Hid; rw [hD]; exact nat_mul' x.ds y.ds
  have d0 : 0 < D := by rw [hD]; exact Nat.mul_pos x.dp y.dp
  have HN : Hid _ := hN
  have HD : Hid ((D : Int) = (D1 : Int) * (D2 : Int)) := by unfold Hid; rw [hD]; simp
  clear hN hD
  obtain ⟨W, hW, bW, x_a, x_b, x_z, sW⟩ := bs_444 w (.int .i64 s1) (.slice d1 l1 c1) (.int .i64 t1) (.slice g1 h1 k1) (.int .i64 s2) (.slice d2 l2 c2) (.int .i64 t2) (.slice g2 h2 k2) (.int .i64 0) (.slice none 0 0) (.int .i64 0) (.slice none 0 0) 34 34 34
  have zbW := bW.size
  replace x := x.below bW
  replace y := y.below bW
  have BB := bW
  go_enter Tryz.func21, Tryz.ntmps21
  go_wp2
  rw [← hW]
  clear hW
  have dd1 : Below W.heap.size W W.drew := (Below.refl _ _).drew
  have zdd1 := dd1.size
  replace x := x.below dd1
  replace y := y.below dd1
  replace BB := also BB dd1
  replace x_a := x_a.on dd1
  replace x_b := x_b.on dd1
  replace x_z := x_z.on dd1
  refine wp_region_held_drew (S := (fun w' => w'.cell? ⟨w.heap.size, 0, none⟩ = some (.int .i64 s1) ∧ w'.cell? ⟨w.heap.size, 1, none⟩ = some (.slice d1 l1 c1) ∧ w'.cell? ⟨w.heap.size, 2, none⟩ = some (.int .i64 t1) ∧ w'.cell? ⟨w.heap.size, 3, none⟩ = some (.slice g1 h1 k1) ∧ w'.cell? ⟨w.heap.size + 1, 0, none⟩ = some (.int .i64 s2) ∧ w'.cell? ⟨w.heap.size + 1, 1, none⟩ = some (.slice d2 l2 c2) ∧ w'.cell? ⟨w.heap.size + 1, 2, none⟩ = some (.int .i64 t2) ∧ w'.cell? ⟨w.heap.size + 1, 3, none⟩ = some (.slice g2 h2 k2) ∧ Below w.heap.size w w')) (by kernel_rfl) ?_ (fun hHeld => ?_)
  · first | exact ⟨x_a.c0, x_a.c1, x_a.c2, x_a.c3, x_b.c0, x_b.c1, x_b.c2, x_b.c3, BB⟩ | exact ⟨cell_on bw6 hHeld.1, cell_on bw6 hHeld.2.1, cell_on bw6 hHeld.2.2.1, cell_on bw6 hHeld.2.2.2.1, cell_on bw6 hHeld.2.2.2.2.1, cell_on bw6 hHeld.2.2.2.2.2.1, cell_on bw6 hHeld.2.2.2.2.2.2.1, cell_on bw6 hHeld.2.2.2.2.2.2.2.1, also hHeld.2.2.2.2.2.2.2.2 bw6⟩ | exact ⟨cell_on bw3 hHeld.1, cell_on bw3 hHeld.2.1, cell_on bw3 hHeld.2.2.1, cell_on bw3 hHeld.2.2.2.1, cell_on bw3 hHeld.2.2.2.2.1, cell_on bw3 hHeld.2.2.2.2.2.1, cell_on bw3 hHeld.2.2.2.2.2.2.1, cell_on bw3 hHeld.2.2.2.2.2.2.2.1, also hHeld.2.2.2.2.2.2.2.2 bw3⟩ | exact ⟨cell_put4 hHeld.1 (by omega) _ _ _ _, cell_put4 hHeld.2.1 (by omega) _ _ _ _, cell_put4 hHeld.2.2.1 (by omega) _ _ _ _, cell_put4 hHeld.2.2.2.1 (by omega) _ _ _ _, cell_put4 hHeld.2.2.2.2.1 (by omega) _ _ _ _, cell_put4 hHeld.2.2.2.2.2.1 (by omega) _ _ _ _, cell_put4 hHeld.2.2.2.2.2.2.1 (by omega) _ _ _ _, cell_put4 hHeld.2.2.2.2.2.2.2.1 (by omega) _ _ _ _, below_put4 hHeld.2.2.2.2.2.2.2.2 (by omega) _ _ _ _⟩
  refine take_yes (i := 0) (v := ?vr0) rfl (by kernel_rfl) (by kernel_rfl) (by kernel_rfl) (fun _ _ _ h => h) (by rfl) (by assumption) ?hyr0 ?restr0
  case hyr0 => (intro w hSw; (try dsimp only at hSw); first | (go_simp; done) | (go_simp; with_reducible rfl))
  simp only [Act.put, List.setIfInBounds_toArray, List.set_cons_zero, List.set_cons_succ]
  refine take_yes (i := 1) (v := ?vr1) rfl (by kernel_rfl) (by kernel_rfl) (by kernel_rfl) (fun _ _ _ h => h) (by rfl) (by assumption) ?hyr1 ?restr1
  case hyr1 => (intro w hSw; (try dsimp only at hSw); first | (go_simp; done) | (go_simp; with_reducible rfl))
  simp only [Act.put, List.setIfInBounds_toArray, List.set_cons_zero, List.set_cons_succ]
  refine take_yes (i := 2) (v := ?vr2) rfl (by kernel_rfl) (by kernel_rfl) (by kernel_rfl) (fun _ _ _ h => h) (by rfl) (by assumption) ?hyr2 ?restr2
  case hyr2 => (intro w hSw; (try dsimp only at hSw); first | (go_simp; done) | (go_simp; with_reducible rfl))
  simp only [Act.put, List.setIfInBounds_toArray, List.set_cons_zero, List.set_cons_succ]
  refine take_yes (i := 3) (v := ?vr3) rfl (by kernel_rfl) (by kernel_rfl) (by kernel_rfl) (fun _ _ _ h => h) (by rfl) (by assumption) ?hyr3 ?restr3
  case hyr3 => (intro w hSw; (try dsimp only at hSw); first | (go_simp; done) | (go_simp; with_reducible rfl))
  simp only [Act.put, List.setIfInBounds_toArray, List.set_cons_zero, List.set_cons_succ]
  refine take_yes (i := 5) (v := ?vr5) rfl (by kernel_rfl) (by kernel_rfl) (by kernel_rfl) (fun _ _ _ h => h) (by rfl) (by assumption) ?hyr5 ?restr5
  case hyr5 => (intro w hSw; (try dsimp only at hSw); first | (go_simp; done) | (go_simp; with_reducible rfl))
  simp only [Act.put, List.setIfInBounds_toArray, List.set_cons_zero, List.set_cons_succ]
  refine take_yes (i := 6) (v := ?vr6) rfl (by kernel_rfl) (by kernel_rfl) (by kernel_rfl) (fun _ _ _ h => h) (by rfl) (by assumption) ?hyr6 ?restr6
  case hyr6 => (intro w hSw; (try dsimp only at hSw); first | (go_simp; done) | (go_simp; with_reducible rfl))
  simp only [Act.put, List.setIfInBounds_toArray, List.set_cons_zero, List.set_cons_succ]
  refine take_yes (i := 7) (v := ?vr7) rfl (by kernel_rfl) (by kernel_rfl) (by kernel_rfl) (fun _ _ _ h => h) (by rfl) (by assumption) ?hyr7 ?restr7
  case hyr7 => (intro w hSw; (try dsimp only at hSw); first | (go_simp; done) | (go_simp; with_reducible rfl))
  simp only [Act.put, List.setIfInBounds_toArray, List.set_cons_zero, List.set_cons_succ]
  refine take_yes (i := 8) (v := ?vr8) rfl (by kernel_rfl) (by kernel_rfl) (by kernel_rfl) (fun _ _ _ h => h) (by rfl) (by assumption) ?hyr8 ?restr8
  case hyr8 => (intro w hSw; (try dsimp only at hSw); first | (go_simp; done) | (go_simp; with_reducible rfl))
  simp only [Act.put, List.setIfInBounds_toArray, List.set_cons_zero, List.set_cons_succ]
  refine take_call (i := 4) rfl (by kernel_rfl) (fun Kc hK => ?_)
  go_simp
  (go_at_call 42; refine (rwMul s1 s2 d1 d2 l1 c1 l2 c2 N1 N2 N _ x.rn y.rn fx fy HN.out).mono ?_; rintro e w3 ⟨s3, d3, l3, c3, rfl, q3, f3, bw3⟩)
  refine hK.out _ _ ?_ (fun hHeld => ?_)
  · first | exact ⟨x_a.c0, x_a.c1, x_a.c2, x_a.c3, x_b.c0, x_b.c1, x_b.c2, x_b.c3, BB⟩ | exact ⟨cell_on bw6 hHeld.1, cell_on bw6 hHeld.2.1, cell_on bw6 hHeld.2.2.1, cell_on bw6 hHeld.2.2.2.1, cell_on bw6 hHeld.2.2.2.2.1, cell_on bw6 hHeld.2.2.2.2.2.1, cell_on bw6 hHeld.2.2.2.2.2.2.1, cell_on bw6 hHeld.2.2.2.2.2.2.2.1, also hHeld.2.2.2.2.2.2.2.2 bw6⟩ | exact ⟨cell_on bw3 hHeld.1, cell_on bw3 hHeld.2.1, cell_on bw3 hHeld.2.2.1, cell_on bw3 hHeld.2.2.2.1, cell_on bw3 hHeld.2.2.2.2.1, cell_on bw3 hHeld.2.2.2.2.2.1, cell_on bw3 hHeld.2.2.2.2.2.2.1, cell_on bw3 hHeld.2.2.2.2.2.2.2.1, also hHeld.2.2.2.2.2.2.2.2 bw3⟩ | exact ⟨cell_put4 hHeld.1 (by omega) _ _ _ _, cell_put4 hHeld.2.1 (by omega) _ _ _ _, cell_put4 hHeld.2.2.1 (by omega) _ _ _ _, cell_put4 hHeld.2.2.2.1 (by omega) _ _ _ _, cell_put4 hHeld.2.2.2.2.1 (by omega) _ _ _ _, cell_put4 hHeld.2.2.2.2.2.1 (by omega) _ _ _ _, cell_put4 hHeld.2.2.2.2.2.2.1 (by omega) _ _ _ _, cell_put4 hHeld.2.2.2.2.2.2.2.1 (by omega) _ _ _ _, below_put4 hHeld.2.2.2.2.2.2.2.2 (by omega) _ _ _ _⟩
  clear hK Kc
  have zbw3 := bw3.size
  replace x := x.below bw3
  replace y := y.below bw3
  replace BB := also BB bw3
  replace x_a := x_a.on bw3
  replace x_b := x_b.on bw3
  replace x_z := x_z.on bw3
  refine take_call (i := 9) rfl (by kernel_rfl) (fun Kc hK => ?_)
  go_simp
  (go_at_call 42; refine (rwMul t1 t2 g1 g2 h1 k1 h2 k2 D1 D2 D _ x.rd y.rd gx gy HD.out).mono ?_; rintro e w6 ⟨s6, d6, l6, c6, rfl, q6, f6, bw6⟩)
  refine hK.out _ _ ?_ (fun hHeld => ?_)
  · first | exact ⟨x_a.c0, x_a.c1, x_a.c2, x_a.c3, x_b.c0, x_b.c1, x_b.c2, x_b.c3, BB⟩ | exact ⟨cell_on bw6 hHeld.1, cell_on bw6 hHeld.2.1, cell_on bw6 hHeld.2.2.1, cell_on bw6 hHeld.2.2.2.1, cell_on bw6 hHeld.2.2.2.2.1, cell_on bw6 hHeld.2.2.2.2.2.1, cell_on bw6 hHeld.2.2.2.2.2.2.1, cell_on bw6 hHeld.2.2.2.2.2.2.2.1, also hHeld.2.2.2.2.2.2.2.2 bw6⟩ | exact ⟨cell_on bw3 hHeld.1, cell_on bw3 hHeld.2.1, cell_on bw3 hHeld.2.2.1, cell_on bw3 hHeld.2.2.2.1, cell_on bw3 hHeld.2.2.2.2.1, cell_on bw3 hHeld.2.2.2.2.2.1, cell_on bw3 hHeld.2.2.2.2.2.2.1, cell_on bw3 hHeld.2.2.2.2.2.2.2.1, also hHeld.2.2.2.2.2.2.2.2 bw3⟩ | exact ⟨cell_put4 hHeld.1 (by omega) _ _ _ _, cell_put4 hHeld.2.1 (by omega) _ _ _ _, cell_put4 hHeld.2.2.1 (by omega) _ _ _ _, cell_put4 hHeld.2.2.2.1 (by omega) _ _ _ _, cell_put4 hHeld.2.2.2.2.1 (by omega) _ _ _ _, cell_put4 hHeld.2.2.2.2.2.1 (by omega) _ _ _ _, cell_put4 hHeld.2.2.2.2.2.2.1 (by omega) _ _ _ _, cell_put4 hHeld.2.2.2.2.2.2.2.1 (by omega) _ _ _ _, below_put4 hHeld.2.2.2.2.2.2.2.2 (by omega) _ _ _ _⟩
  clear hK Kc
  have zbw6 := bw6.size
  replace x := x.below bw6
  replace y := y.below bw6
  replace BB := also BB bw6
  replace x_a := x_a.on bw6
  replace x_b := x_b.on bw6
  replace x_z := x_z.on bw6
  replace q3 := q3.below bw6
  refine take_yes (i := 10) (v := ?vr10) rfl (by kernel_rfl) (by kernel_rfl) (by kernel_rfl) (fun _ _ _ h => h) (by rfl) (by assumption) ?hyr10 ?restr10
  case hyr10 => (intro w hSw; (try dsimp only at hSw); first | (go_simp; done) | (go_simp; with_reducible rfl))
  simp only [Act.put, List.setIfInBounds_toArray, List.set_cons_zero, List.set_cons_succ]
  have ⟨x_z_0, x_z_1, x_z_2, x_z_3, x_z_4, x_z_5, x_z_6, x_z_7⟩ := x_z
  refine take_call (i := 11) rfl (by kernel_rfl) (fun Kc hK => ?_)
  go_simp
  refine hK.out _ _ ?_ (fun hHeld => ?_)
  · first | exact ⟨x_a.c0, x_a.c1, x_a.c2, x_a.c3, x_b.c0, x_b.c1, x_b.c2, x_b.c3, BB⟩ | exact ⟨cell_on bw6 hHeld.1, cell_on bw6 hHeld.2.1, cell_on bw6 hHeld.2.2.1, cell_on bw6 hHeld.2.2.2.1, cell_on bw6 hHeld.2.2.2.2.1, cell_on bw6 hHeld.2.2.2.2.2.1, cell_on bw6 hHeld.2.2.2.2.2.2.1, cell_on bw6 hHeld.2.2.2.2.2.2.2.1, also hHeld.2.2.2.2.2.2.2.2 bw6⟩ | exact ⟨cell_on bw3 hHeld.1, cell_on bw3 hHeld.2.1, cell_on bw3 hHeld.2.2.1, cell_on bw3 hHeld.2.2.2.1, cell_on bw3 hHeld.2.2.2.2.1, cell_on bw3 hHeld.2.2.2.2.2.1, cell_on bw3 hHeld.2.2.2.2.2.2.1, cell_on bw3 hHeld.2.2.2.2.2.2.2.1, also hHeld.2.2.2.2.2.2.2.2 bw3⟩ | exact ⟨cell_put4 hHeld.1 (by omega) _ _ _ _, cell_put4 hHeld.2.1 (by omega) _ _ _ _, cell_put4 hHeld.2.2.1 (by omega) _ _ _ _, cell_put4 hHeld.2.2.2.1 (by omega) _ _ _ _, cell_put4 hHeld.2.2.2.2.1 (by omega) _ _ _ _, cell_put4 hHeld.2.2.2.2.2.1 (by omega) _ _ _ _, cell_put4 hHeld.2.2.2.2.2.2.1 (by omega) _ _ _ _, cell_put4 hHeld.2.2.2.2.2.2.2.1 (by omega) _ _ _ _, below_put4 hHeld.2.2.2.2.2.2.2.2 (by omega) _ _ _ _⟩
  clear hK Kc
  refine wpAnyH_done (by kernel_rfl) ?_ _
  go_wp2
  exact bodyPost_ret (v := .agg #[.int .i64 s3, .slice d3 l3 c3, .int .i64 s6, .slice d6 l6 c6]) (by simp [results, Tryz.results21, go_sem, *]) rfl (endRQ _ (by omega) BB ⟨q3, q6, d0, HS.out, HT.out, kk⟩ (f3 _ (by omega) trivial) (f6 _ (by omega) trivial) (fun j hj _ => ⟨f3 j (by omega) trivial, f6 j (by omega) trivial⟩) _ _ _ _)
set_option maxRecDepth 100000 in
set_option maxHeartbeats 1000000 in
theorem rqDiv (s1 : Int) (d1 : Option Addr) (l1 c1 : Nat) (t1 : Int) (g1 : Option Addr) (h1 k1 : Nat) (N1 : Int) (D1 : Nat) (s2 : Int) (d2 : Option Addr) (l2 c2 : Nat) (t2 : Int) (g2 : Option Addr) (h2 k2 : Nat) (N2 : Int) (D2 : Nat) (K : Nat) (w : World) (x : RQ w K s1 d1 l1 c1 t1 g1 h1 k1 N1 D1) (y : RQ w K s2 d2 l2 c2 t2 g2 h2 k2 N2 D2) (kk : K + K ≤ 10000) (N : Int) (D : Nat) (hN : N = (N1 * (D2 : Int)) * ((D1 : Int) * N2).sign) (hD : D = ((D1 : Int) * N2).natAbs) (h0 : N2 ≠ 0) :
    Calls Tryz.prog 22 #[.agg #[.int .i64 s1, .slice d1 l1 c1, .int .i64 t1, .slice g1 h1 k1], .agg #[.int .i64 s2, .slice d2 l2 c2, .int .i64 t2, .slice g2 h2 k2]] w (GotRQ w (fun _ => True) (K + K) N D) := by
  have fx := x.fn
  have fy := y.fn
  have gx := x.fd
  have gy := y.fd
  have HN : Hid _ := hN
  have HD : Hid _ := hD
  have HZ : Hid ((D1 : Int) * N2 ≠ 0) := Int.mul_ne_zero (by have := x.dp; omega) h0
  have b1 : (N1 * (D2 : Int)).natAbs < 4294967296 ^ (K + K) := abs_mul' x.ns (by simpa using y.ds)
  have b2 : ((D1 : Int) * N2).natAbs < 4294967296 ^ (K + K) := abs_mul' (by simpa using x.ds) y.ns
  clear hN hD h0
  obtain ⟨W, hW, bW, x_a, x_b, x_z, sW⟩ := bs_444 w (.int .i64 s1) (.slice d1 l1 c1) (.int .i64 t1) (.slice g1 h1 k1) (.int .i64 s2) (.slice d2 l2 c2) (.int .i64 t2) (.slice g2 h2 k2) (.int .i64 0) (.slice none 0 0) (.int .i64 0) (.slice none 0 0) 34 34 34
  have zbW := bW.size
  replace x := x.below bW
  replace y := y.below bW
  have BB := bW
  go_enter Tryz.func22, Tryz.ntmps22
  go_wp2
  rw [← hW]
  clear hW
  have dd1 : Below W.heap.size W W.drew := (Below.refl _ _).drew
  have zdd1 := dd1.size
  replace x := x.below dd1
  replace y := y.below dd1
  replace BB := also BB dd1
  replace x_a := x_a.on dd1
  replace x_b := x_b.on dd1
  replace x_z := x_z.on dd1
  refine wp_region_held_drew (S := (fun w' => w'.cell? ⟨w.heap.size, 0, none⟩ = some (.int .i64 s1) ∧ w'.cell? ⟨w.heap.size, 1, none⟩ = some (.slice d1 l1 c1) ∧ w'.cell? ⟨w.heap.size, 2, none⟩ = some (.int .i64 t1) ∧ w'.cell? ⟨w.heap.size, 3, none⟩ = some (.slice g1 h1 k1) ∧ w'.cell? ⟨w.heap.size + 1, 0, none⟩ = some (.int .i64 s2) ∧ w'.cell? ⟨w.heap.size + 1, 1, none⟩ = some (.slice d2 l2 c2) ∧ w'.cell? ⟨w.heap.size + 1, 2, none⟩ = some (.int .i64 t2) ∧ w'.cell? ⟨w.heap.size + 1, 3, none⟩ = some (.slice g2 h2 k2) ∧ Below w.heap.size w w')) (by kernel_rfl) ?_ (fun hHeld => ?_)
  · first | exact ⟨x_a.c0, x_a.c1, x_a.c2, x_a.c3, x_b.c0, x_b.c1, x_b.c2, x_b.c3, BB⟩ | exact ⟨cell_on bw5 hHeld.1, cell_on bw5 hHeld.2.1, cell_on bw5 hHeld.2.2.1, cell_on bw5 hHeld.2.2.2.1, cell_on bw5 hHeld.2.2.2.2.1, cell_on bw5 hHeld.2.2.2.2.2.1, cell_on bw5 hHeld.2.2.2.2.2.2.1, cell_on bw5 hHeld.2.2.2.2.2.2.2.1, also hHeld.2.2.2.2.2.2.2.2 bw5⟩ | exact ⟨cell_on bw4 hHeld.1, cell_on bw4 hHeld.2.1, cell_on bw4 hHeld.2.2.1, cell_on bw4 hHeld.2.2.2.1, cell_on bw4 hHeld.2.2.2.2.1, cell_on bw4 hHeld.2.2.2.2.2.1, cell_on bw4 hHeld.2.2.2.2.2.2.1, cell_on bw4 hHeld.2.2.2.2.2.2.2.1, also hHeld.2.2.2.2.2.2.2.2 bw4⟩ | exact ⟨cell_on bw3 hHeld.1, cell_on bw3 hHeld.2.1, cell_on bw3 hHeld.2.2.1, cell_on bw3 hHeld.2.2.2.1, cell_on bw3 hHeld.2.2.2.2.1, cell_on bw3 hHeld.2.2.2.2.2.1, cell_on bw3 hHeld.2.2.2.2.2.2.1, cell_on bw3 hHeld.2.2.2.2.2.2.2.1, also hHeld.2.2.2.2.2.2.2.2 bw3⟩ | exact ⟨cell_put4 hHeld.1 (by omega) _ _ _ _, cell_put4 hHeld.2.1 (by omega) _ _ _ _, cell_put4 hHeld.2.2.1 (by omega) _ _ _ _, cell_put4 hHeld.2.2.2.1 (by omega) _ _ _ _, cell_put4 hHeld.2.2.2.2.1 (by omega) _ _ _ _, cell_put4 hHeld.2.2.2.2.2.1 (by omega) _ _ _ _, cell_put4 hHeld.2.2.2.2.2.2.1 (by omega) _ _ _ _, cell_put4 hHeld.2.2.2.2.2.2.2.1 (by omega) _ _ _ _, below_put4 hHeld.2.2.2.2.2.2.2.2 (by omega) _ _ _ _⟩
  refine take_yes (i := 0) (v := ?vr0) rfl (by kernel_rfl) (by kernel_rfl) (by kernel_rfl) (fun _ _ _ h => h) (by rfl) (by assumption) ?hyr0 ?restr0
  case hyr0 => (intro w hSw; (try dsimp only at hSw); first | (go_simp; done) | (go_simp; with_reducible rfl))
  simp only [Act.put, List.setIfInBounds_toArray, List.set_cons_zero, List.set_cons_succ]
  refine take_yes (i := 1) (v := ?vr1) rfl (by kernel_rfl) (by kernel_rfl) (by kernel_rfl) (fun _ _ _ h => h) (by rfl) (by assumption) ?hyr1 ?restr1
  case hyr1 => (intro w hSw; (try dsimp only at hSw); first | (go_simp; done) | (go_simp; with_reducible rfl))
  simp only [Act.put, List.setIfInBounds_toArray, List.set_cons_zero, List.set_cons_succ]
  refine take_yes (i := 2) (v := ?vr2) rfl (by kernel_rfl) (by kernel_rfl) (by kernel_rfl) (fun _ _ _ h => h) (by rfl) (by assumption) ?hyr2 ?restr2
  case hyr2 => (intro w hSw; (try dsimp only at hSw); first | (go_simp; done) | (go_simp; with_reducible rfl))
  simp only [Act.put, List.setIfInBounds_toArray, List.set_cons_zero, List.set_cons_succ]
  refine take_yes (i := 3) (v := ?vr3) rfl (by kernel_rfl) (by kernel_rfl) (by kernel_rfl) (fun _ _ _ h => h) (by rfl) (by assumption) ?hyr3 ?restr3
  case hyr3 => (intro w hSw; (try dsimp only at hSw); first | (go_simp; done) | (go_simp; with_reducible rfl))
  simp only [Act.put, List.setIfInBounds_toArray, List.set_cons_zero, List.set_cons_succ]
  refine take_yes (i := 5) (v := ?vr5) rfl (by kernel_rfl) (by kernel_rfl) (by kernel_rfl) (fun _ _ _ h => h) (by rfl) (by assumption) ?hyr5 ?restr5
  case hyr5 => (intro w hSw; (try dsimp only at hSw); first | (go_simp; done) | (go_simp; with_reducible rfl))
  simp only [Act.put, List.setIfInBounds_toArray, List.set_cons_zero, List.set_cons_succ]
  refine take_yes (i := 6) (v := ?vr6) rfl (by kernel_rfl) (by kernel_rfl) (by kernel_rfl) (fun _ _ _ h => h) (by rfl) (by assumption) ?hyr6 ?restr6
  case hyr6 => (intro w hSw; (try dsimp only at hSw); first | (go_simp; done) | (go_simp; with_reducible rfl))
  simp only [Act.put, List.setIfInBounds_toArray, List.set_cons_zero, List.set_cons_succ]
  refine take_yes (i := 7) (v := ?vr7) rfl (by kernel_rfl) (by kernel_rfl) (by kernel_rfl) (fun _ _ _ h => h) (by rfl) (by assumption) ?hyr7 ?restr7
  case hyr7 => (intro w hSw; (try dsimp only at hSw); first | (go_simp; done) | (go_simp; with_reducible rfl))
  simp only [Act.put, List.setIfInBounds_toArray, List.set_cons_zero, List.set_cons_succ]
  refine take_yes (i := 8) (v := ?vr8) rfl (by kernel_rfl) (by kernel_rfl) (by kernel_rfl) (fun _ _ _ h => h) (by rfl) (by assumption) ?hyr8 ?restr8
  case hyr8 => (intro w hSw; (try dsimp only at hSw); first | (go_simp; done) | (go_simp; with_reducible rfl))
  simp only [Act.put, List.setIfInBounds_toArray, List.set_cons_zero, List.set_cons_succ]
  refine take_call (i := 4) rfl (by kernel_rfl) (fun Kc hK => ?_)
  go_simp
  (go_at_call 42; refine (rwMul s1 t2 d1 g2 l1 c1 h2 k2 N1 D2 _ _ x.rn y.rd fx gy rfl).mono ?_; rintro e w3 ⟨s3, d3, l3, c3, rfl, q3, f3, bw3⟩)
  refine hK.out _ _ ?_ (fun hHeld => ?_)
  · first | exact ⟨x_a.c0, x_a.c1, x_a.c2, x_a.c3, x_b.c0, x_b.c1, x_b.c2, x_b.c3, BB⟩ | exact ⟨cell_on bw5 hHeld.1, cell_on bw5 hHeld.2.1, cell_on bw5 hHeld.2.2.1, cell_on bw5 hHeld.2.2.2.1, cell_on bw5 hHeld.2.2.2.2.1, cell_on bw5 hHeld.2.2.2.2.2.1, cell_on bw5 hHeld.2.2.2.2.2.2.1, cell_on bw5 hHeld.2.2.2.2.2.2.2.1, also hHeld.2.2.2.2.2.2.2.2 bw5⟩ | exact ⟨cell_on bw4 hHeld.1, cell_on bw4 hHeld.2.1, cell_on bw4 hHeld.2.2.1, cell_on bw4 hHeld.2.2.2.1, cell_on bw4 hHeld.2.2.2.2.1, cell_on bw4 hHeld.2.2.2.2.2.1, cell_on bw4 hHeld.2.2.2.2.2.2.1, cell_on bw4 hHeld.2.2.2.2.2.2.2.1, also hHeld.2.2.2.2.2.2.2.2 bw4⟩ | exact ⟨cell_on bw3 hHeld.1, cell_on bw3 hHeld.2.1, cell_on bw3 hHeld.2.2.1, cell_on bw3 hHeld.2.2.2.1, cell_on bw3 hHeld.2.2.2.2.1, cell_on bw3 hHeld.2.2.2.2.2.1, cell_on bw3 hHeld.2.2.2.2.2.2.1, cell_on bw3 hHeld.2.2.2.2.2.2.2.1, also hHeld.2.2.2.2.2.2.2.2 bw3⟩ | exact ⟨cell_put4 hHeld.1 (by omega) _ _ _ _, cell_put4 hHeld.2.1 (by omega) _ _ _ _, cell_put4 hHeld.2.2.1 (by omega) _ _ _ _, cell_put4 hHeld.2.2.2.1 (by omega) _ _ _ _, cell_put4 hHeld.2.2.2.2.1 (by omega) _ _ _ _, cell_put4 hHeld.2.2.2.2.2.1 (by omega) _ _ _ _, cell_put4 hHeld.2.2.2.2.2.2.1 (by omega) _ _ _ _, cell_put4 hHeld.2.2.2.2.2.2.2.1 (by omega) _ _ _ _, below_put4 hHeld.2.2.2.2.2.2.2.2 (by omega) _ _ _ _⟩
  clear hK Kc
  have zbw3 := bw3.size
  replace x := x.below bw3
  replace y := y.below bw3
  replace BB := also BB bw3
  replace x_a := x_a.on bw3
  replace x_b := x_b.on bw3
  replace x_z := x_z.on bw3
  refine take_call (i := 9) rfl (by kernel_rfl) (fun Kc hK => ?_)
  go_simp
  (go_at_call 42; refine (rwMul t1 s2 g1 d2 h1 k1 l2 c2 D1 N2 _ _ x.rd y.rn gx fy rfl).mono ?_; rintro e w4 ⟨s4, d4, l4, c4, rfl, q4, f4, bw4⟩)
  refine hK.out _ _ ?_ (fun hHeld => ?_)
  · first | exact ⟨x_a.c0, x_a.c1, x_a.c2, x_a.c3, x_b.c0, x_b.c1, x_b.c2, x_b.c3, BB⟩ | exact ⟨cell_on bw5 hHeld.1, cell_on bw5 hHeld.2.1, cell_on bw5 hHeld.2.2.1, cell_on bw5 hHeld.2.2.2.1, cell_on bw5 hHeld.2.2.2.2.1, cell_on bw5 hHeld.2.2.2.2.2.1, cell_on bw5 hHeld.2.2.2.2.2.2.1, cell_on bw5 hHeld.2.2.2.2.2.2.2.1, also hHeld.2.2.2.2.2.2.2.2 bw5⟩ | exact ⟨cell_on bw4 hHeld.1, cell_on bw4 hHeld.2.1, cell_on bw4 hHeld.2.2.1, cell_on bw4 hHeld.2.2.2.1, cell_on bw4 hHeld.2.2.2.2.1, cell_on bw4 hHeld.2.2.2.2.2.1, cell_on bw4 hHeld.2.2.2.2.2.2.1, cell_on bw4 hHeld.2.2.2.2.2.2.2.1, also hHeld.2.2.2.2.2.2.2.2 bw4⟩ | exact ⟨cell_on bw3 hHeld.1, cell_on bw3 hHeld.2.1, cell_on bw3 hHeld.2.2.1, cell_on bw3 hHeld.2.2.2.1, cell_on bw3 hHeld.2.2.2.2.1, cell_on bw3 hHeld.2.2.2.2.2.1, cell_on bw3 hHeld.2.2.2.2.2.2.1, cell_on bw3 hHeld.2.2.2.2.2.2.2.1, also hHeld.2.2.2.2.2.2.2.2 bw3⟩ | exact ⟨cell_put4 hHeld.1 (by omega) _ _ _ _, cell_put4 hHeld.2.1 (by omega) _ _ _ _, cell_put4 hHeld.2.2.1 (by omega) _ _ _ _, cell_put4 hHeld.2.2.2.1 (by omega) _ _ _ _, cell_put4 hHeld.2.2.2.2.1 (by omega) _ _ _ _, cell_put4 hHeld.2.2.2.2.2.1 (by omega) _ _ _ _, cell_put4 hHeld.2.2.2.2.2.2.1 (by omega) _ _ _ _, cell_put4 hHeld.2.2.2.2.2.2.2.1 (by omega) _ _ _ _, below_put4 hHeld.2.2.2.2.2.2.2.2 (by omega) _ _ _ _⟩
  clear hK Kc
  have zbw4 := bw4.size
  replace x := x.below bw4
  replace y := y.below bw4
  replace BB := also BB bw4
  replace x_a := x_a.on bw4
  replace x_b := x_b.on bw4
  replace x_z := x_z.on bw4
  replace q3 := q3.below bw4
  refine take_call (i := 10) rfl (by kernel_rfl) (fun Kc hK => ?_)
  go_simp
  (go_at_call 49; refine (rqOver s3 d3 l3 c3 s4 d4 l4 c4 _ _ (K + K) _ q3 q4 HZ.out b1 b2 kk N D HN.out HD.out).mono ?_; rintro e w5 ⟨s5, d5, l5, c5, t5, g5, h5, k5, rfl, q5, f5, bw5⟩)
  refine hK.out _ _ ?_ (fun hHeld => ?_)
  · first | exact ⟨x_a.c0, x_a.c1, x_a.c2, x_a.c3, x_b.c0, x_b.c1, x_b.c2, x_b.c3, BB⟩ | exact ⟨cell_on bw5 hHeld.1, cell_on bw5 hHeld.2.1, cell_on bw5 hHeld.2.2.1, cell_on bw5 hHeld.2.2.2.1, cell_on bw5 hHeld.2.2.2.2.1, cell_on bw5 hHeld.2.2.2.2.2.1, cell_on bw5 hHeld.2.2.2.2.2.2.1, cell_on bw5 hHeld.2.2.2.2.2.2.2.1, also hHeld.2.2.2.2.2.2.2.2 bw5⟩ | exact ⟨cell_on bw4 hHeld.1, cell_on bw4 hHeld.2.1, cell_on bw4 hHeld.2.2.1, cell_on bw4 hHeld.2.2.2.1, cell_on bw4 hHeld.2.2.2.2.1, cell_on bw4 hHeld.2.2.2.2.2.1, cell_on bw4 hHeld.2.2.2.2.2.2.1, cell_on bw4 hHeld.2.2.2.2.2.2.2.1, also hHeld.2.2.2.2.2.2.2.2 bw4⟩ | exact ⟨cell_on bw3 hHeld.1, cell_on bw3 hHeld.2.1, cell_on bw3 hHeld.2.2.1, cell_on bw3 hHeld.2.2.2.1, cell_on bw3 hHeld.2.2.2.2.1, cell_on bw3 hHeld.2.2.2.2.2.1, cell_on bw3 hHeld.2.2.2.2.2.2.1, cell_on bw3 hHeld.2.2.2.2.2.2.2.1, also hHeld.2.2.2.2.2.2.2.2 bw3⟩ | exact ⟨cell_put4 hHeld.1 (by omega) _ _ _ _, cell_put4 hHeld.2.1 (by omega) _ _ _ _, cell_put4 hHeld.2.2.1 (by omega) _ _ _ _, cell_put4 hHeld.2.2.2.1 (by omega) _ _ _ _, cell_put4 hHeld.2.2.2.2.1 (by omega) _ _ _ _, cell_put4 hHeld.2.2.2.2.2.1 (by omega) _ _ _ _, cell_put4 hHeld.2.2.2.2.2.2.1 (by omega) _ _ _ _, cell_put4 hHeld.2.2.2.2.2.2.2.1 (by omega) _ _ _ _, below_put4 hHeld.2.2.2.2.2.2.2.2 (by omega) _ _ _ _⟩
  clear hK Kc
  have zbw5 := bw5.size
  replace x := x.below bw5
  replace y := y.below bw5
  replace BB := also BB bw5
  replace x_a := x_a.on bw5
  replace x_b := x_b.on bw5
  replace x_z := x_z.on bw5
  replace q3 := q3.below bw5
  replace q4 := q4.below bw5
  have ⟨x_z_0, x_z_1, x_z_2, x_z_3, x_z_4, x_z_5, x_z_6, x_z_7⟩ := x_z
  refine take_call (i := 11) rfl (by kernel_rfl) (fun Kc hK => ?_)
  go_simp
  refine hK.out _ _ ?_ (fun hHeld => ?_)
  · first | exact ⟨x_a.c0, x_a.c1, x_a.c2, x_a.c3, x_b.c0, x_b.c1, x_b.c2, x_b.c3, BB⟩ | exact ⟨cell_on bw5 hHeld.1, cell_on bw5 hHeld.2.1, cell_on bw5 hHeld.2.2.1, cell_on bw5 hHeld.2.2.2.1, cell_on bw5 hHeld.2.2.2.2.1, cell_on bw5 hHeld.2.2.2.2.2.1, cell_on bw5 hHeld.2.2.2.2.2.2.1, cell_on bw5 hHeld.2.2.2.2.2.2.2.1, also hHeld.2.2.2.2.2.2.2.2 bw5⟩ | exact ⟨cell_on bw4 hHeld.1, cell_on bw4 hHeld.2.1, cell_on bw4 hHeld.2.2.1, cell_on bw4 hHeld.2.2.2.1, cell_on bw4 hHeld.2.2.2.2.1, cell_on bw4 hHeld.2.2.2.2.2.1, cell_on bw4 hHeld.2.2.2.2.2.2.1, cell_on bw4 hHeld.2.2.2.2.2.2.2.1, also hHeld.2.2.2.2.2.2.2.2 bw4⟩ | exact ⟨cell_on bw3 hHeld.1, cell_on bw3 hHeld.2.1, cell_on bw3 hHeld.2.2.1, cell_on bw3 hHeld.2.2.2.1, cell_on bw3 hHeld.2.2.2.2.1, cell_on bw3 hHeld.2.2.2.2.2.1, cell_on bw3 hHeld.2.2.2.2.2.2.1, cell_on bw3 hHeld.2.2.2.2.2.2.2.1, also hHeld.2.2.2.2.2.2.2.2 bw3⟩ | exact ⟨cell_put4 hHeld.1 (by omega) _ _ _ _, cell_put4 hHeld.2.1 (by omega) _ _ _ _, cell_put4 hHeld.2.2.1 (by omega) _ _ _ _, cell_put4 hHeld.2.2.2.1 (by omega) _ _ _ _, cell_put4 hHeld.2.2.2.2.1 (by omega) _ _ _ _, cell_put4 hHeld.2.2.2.2.2.1 (by omega) _ _ _ _, cell_put4 hHeld.2.2.2.2.2.2.1 (by omega) _ _ _ _, cell_put4 hHeld.2.2.2.2.2.2.2.1 (by omega) _ _ _ _, below_put4 hHeld.2.2.2.2.2.2.2.2 (by omega) _ _ _ _⟩
  clear hK Kc
  refine wpAnyH_done (by kernel_rfl) ?_ _
  go_wp2
  exact bodyPost_ret (v := .agg #[.int .i64 s5, .slice d5 l5 c5, .int .i64 t5, .slice g5 h5 k5]) (by simp [results, Tryz.results22, go_sem, *]) rfl (endRQ _ (by omega) BB q5 (f5 _ (by omega) ⟨f3 _ (by omega) trivial, f4 _ (by omega) trivial⟩).1 (f5 _ (by omega) ⟨f3 _ (by omega) trivial, f4 _ (by omega) trivial⟩).2 (fun j hj _ => f5 j (by omega) ⟨f3 _ (by omega) trivial, f4 _ (by omega) trivial⟩) _ _ _ _)
set_option maxRecDepth 100000 in
set_option maxHeartbeats 1000000 in
theorem rqCmp (s1 : Int) (d1 : Option Addr) (l1 c1 : Nat) (t1 : Int) (g1 : Option Addr) (h1 k1 : Nat) (N1 : Int) (D1 : Nat) (s2 : Int) (d2 : Option Addr) (l2 c2 : Nat) (t2 : Int) (g2 : Option Addr) (h2 k2 : Nat) (N2 : Int) (D2 : Nat) (K : Nat) (w : World) (x : RQ w K s1 d1 l1 c1 t1 g1 h1 k1 N1 D1) (y : RQ w K s2 d2 l2 c2 t2 g2 h2 k2 N2 D2) (kk : K + K ≤ 10000) {e0 : Int} (he : e0 = (N1 * (D2 : Int) - N2 * (D1 : Int)).sign) :
    Calls Tryz.prog 30 #[.agg #[.int .i64 s1, .slice d1 l1 c1, .int .i64 t1, .slice g1 h1 k1], .agg #[.int .i64 s2, .slice d2 l2 c2, .int .i64 t2, .slice g2 h2 k2]] w fun e w' => e = .returned (.int .i64 e0) ∧ Below w.heap.size w w' := by
  have fx := x.fn
  have fy := y.fn
  have gx := x.fd
  have gy := y.fd
  have f1 : hf.nlen (N1 * (D2 : Int)).natAbs ≤ 1000000 := hfew (abs_mul' x.ns (by simpa using y.ds)) (by omega)
  have f2 : hf.nlen (N2 * (D1 : Int)).natAbs ≤ 1000000 := hfew (abs_mul' y.ns (by simpa using x.ds)) (by omega)
  have HE : Hid _ := he
  clear he
  obtain ⟨W, hW, bW, x_a, x_b, sW⟩ := bs_44 w (.int .i64 s1) (.slice d1 l1 c1) (.int .i64 t1) (.slice g1 h1 k1) (.int .i64 s2) (.slice d2 l2 c2) (.int .i64 t2) (.slice g2 h2 k2) 34 34
  have zbW := bW.size
  replace x := x.below bW
  replace y := y.below bW
  have BB := bW
  go_enter Tryz.func30, Tryz.ntmps30
  go_wp2
  rw [← hW]
  clear hW
  have dd1 : Below W.heap.size W W.drew := (Below.refl _ _).drew
  have zdd1 := dd1.size
  replace x := x.below dd1
  replace y := y.below dd1
  replace BB := also BB dd1
  replace x_a := x_a.on dd1
  replace x_b := x_b.on dd1
  refine wp_region_held_drew (S := (fun w' => w'.cell? ⟨w.heap.size, 0, none⟩ = some (.int .i64 s1) ∧ w'.cell? ⟨w.heap.size, 1, none⟩ = some (.slice d1 l1 c1) ∧ w'.cell? ⟨w.heap.size, 2, none⟩ = some (.int .i64 t1) ∧ w'.cell? ⟨w.heap.size, 3, none⟩ = some (.slice g1 h1 k1) ∧ w'.cell? ⟨w.heap.size + 1, 0, none⟩ = some (.int .i64 s2) ∧ w'.cell? ⟨w.heap.size + 1, 1, none⟩ = some (.slice d2 l2 c2) ∧ w'.cell? ⟨w.heap.size + 1, 2, none⟩ = some (.int .i64 t2) ∧ w'.cell? ⟨w.heap.size + 1, 3, none⟩ = some (.slice g2 h2 k2) ∧ Below w.heap.size w w')) (by kernel_rfl) ?_ (fun hHeld => ?_)
  · first | exact ⟨x_a.c0, x_a.c1, x_a.c2, x_a.c3, x_b.c0, x_b.c1, x_b.c2, x_b.c3, BB⟩ | exact ⟨cell_on bw5 hHeld.1, cell_on bw5 hHeld.2.1, cell_on bw5 hHeld.2.2.1, cell_on bw5 hHeld.2.2.2.1, cell_on bw5 hHeld.2.2.2.2.1, cell_on bw5 hHeld.2.2.2.2.2.1, cell_on bw5 hHeld.2.2.2.2.2.2.1, cell_on bw5 hHeld.2.2.2.2.2.2.2.1, also hHeld.2.2.2.2.2.2.2.2 bw5⟩ | exact ⟨cell_on bw4 hHeld.1, cell_on bw4 hHeld.2.1, cell_on bw4 hHeld.2.2.1, cell_on bw4 hHeld.2.2.2.1, cell_on bw4 hHeld.2.2.2.2.1, cell_on bw4 hHeld.2.2.2.2.2.1, cell_on bw4 hHeld.2.2.2.2.2.2.1, cell_on bw4 hHeld.2.2.2.2.2.2.2.1, also hHeld.2.2.2.2.2.2.2.2 bw4⟩ | exact ⟨cell_on bw3 hHeld.1, cell_on bw3 hHeld.2.1, cell_on bw3 hHeld.2.2.1, cell_on bw3 hHeld.2.2.2.1, cell_on bw3 hHeld.2.2.2.2.1, cell_on bw3 hHeld.2.2.2.2.2.1, cell_on bw3 hHeld.2.2.2.2.2.2.1, cell_on bw3 hHeld.2.2.2.2.2.2.2.1, also hHeld.2.2.2.2.2.2.2.2 bw3⟩
  refine take_yes (i := 0) (v := ?vr0) rfl (by kernel_rfl) (by kernel_rfl) (by kernel_rfl) (fun _ _ _ h => h) (by rfl) (by assumption) ?hyr0 ?restr0
  case hyr0 => (intro w hSw; (try dsimp only at hSw); first | (go_simp; done) | (go_simp; with_reducible rfl))
  simp only [Act.put, List.setIfInBounds_toArray, List.set_cons_zero, List.set_cons_succ]
  refine take_yes (i := 1) (v := ?vr1) rfl (by kernel_rfl) (by kernel_rfl) (by kernel_rfl) (fun _ _ _ h => h) (by rfl) (by assumption) ?hyr1 ?restr1
  case hyr1 => (intro w hSw; (try dsimp only at hSw); first | (go_simp; done) | (go_simp; with_reducible rfl))
  simp only [Act.put, List.setIfInBounds_toArray, List.set_cons_zero, List.set_cons_succ]
  refine take_yes (i := 2) (v := ?vr2) rfl (by kernel_rfl) (by kernel_rfl) (by kernel_rfl) (fun _ _ _ h => h) (by rfl) (by assumption) ?hyr2 ?restr2
  case hyr2 => (intro w hSw; (try dsimp only at hSw); first | (go_simp; done) | (go_simp; with_reducible rfl))
  simp only [Act.put, List.setIfInBounds_toArray, List.set_cons_zero, List.set_cons_succ]
  refine take_yes (i := 3) (v := ?vr3) rfl (by kernel_rfl) (by kernel_rfl) (by kernel_rfl) (fun _ _ _ h => h) (by rfl) (by assumption) ?hyr3 ?restr3
  case hyr3 => (intro w hSw; (try dsimp only at hSw); first | (go_simp; done) | (go_simp; with_reducible rfl))
  simp only [Act.put, List.setIfInBounds_toArray, List.set_cons_zero, List.set_cons_succ]
  refine take_yes (i := 5) (v := ?vr5) rfl (by kernel_rfl) (by kernel_rfl) (by kernel_rfl) (fun _ _ _ h => h) (by rfl) (by assumption) ?hyr5 ?restr5
  case hyr5 => (intro w hSw; (try dsimp only at hSw); first | (go_simp; done) | (go_simp; with_reducible rfl))
  simp only [Act.put, List.setIfInBounds_toArray, List.set_cons_zero, List.set_cons_succ]
  refine take_yes (i := 6) (v := ?vr6) rfl (by kernel_rfl) (by kernel_rfl) (by kernel_rfl) (fun _ _ _ h => h) (by rfl) (by assumption) ?hyr6 ?restr6
  case hyr6 => (intro w hSw; (try dsimp only at hSw); first | (go_simp; done) | (go_simp; with_reducible rfl))
  simp only [Act.put, List.setIfInBounds_toArray, List.set_cons_zero, List.set_cons_succ]
  refine take_yes (i := 7) (v := ?vr7) rfl (by kernel_rfl) (by kernel_rfl) (by kernel_rfl) (fun _ _ _ h => h) (by rfl) (by assumption) ?hyr7 ?restr7
  case hyr7 => (intro w hSw; (try dsimp only at hSw); first | (go_simp; done) | (go_simp; with_reducible rfl))
  simp only [Act.put, List.setIfInBounds_toArray, List.set_cons_zero, List.set_cons_succ]
  refine take_yes (i := 8) (v := ?vr8) rfl (by kernel_rfl) (by kernel_rfl) (by kernel_rfl) (fun _ _ _ h => h) (by rfl) (by assumption) ?hyr8 ?restr8
  case hyr8 => (intro w hSw; (try dsimp only at hSw); first | (go_simp; done) | (go_simp; with_reducible rfl))
  simp only [Act.put, List.setIfInBounds_toArray, List.set_cons_zero, List.set_cons_succ]
  refine take_call (i := 4) rfl (by kernel_rfl) (fun Kc hK => ?_)
  go_simp
  (go_at_call 42; refine (rwMul s1 t2 d1 g2 l1 c1 h2 k2 N1 D2 _ _ x.rn y.rd fx gy rfl).mono ?_; rintro e w3 ⟨s3, d3, l3, c3, rfl, q3, f3, bw3⟩)
  refine hK.out _ _ ?_ (fun hHeld => ?_)
  · first | exact ⟨x_a.c0, x_a.c1, x_a.c2, x_a.c3, x_b.c0, x_b.c1, x_b.c2, x_b.c3, BB⟩ | exact ⟨cell_on bw5 hHeld.1, cell_on bw5 hHeld.2.1, cell_on bw5 hHeld.2.2.1, cell_on bw5 hHeld.2.2.2.1, cell_on bw5 hHeld.2.2.2.2.1, cell_on bw5 hHeld.2.2.2.2.2.1, cell_on bw5 hHeld.2.2.2.2.2.2.1, cell_on bw5 hHeld.2.2.2.2.2.2.2.1, also hHeld.2.2.2.2.2.2.2.2 bw5⟩ | exact ⟨cell_on bw4 hHeld.1, cell_on bw4 hHeld.2.1, cell_on bw4 hHeld.2.2.1, cell_on bw4 hHeld.2.2.2.1, cell_on bw4 hHeld.2.2.2.2.1, cell_on bw4 hHeld.2.2.2.2.2.1, cell_on bw4 hHeld.2.2.2.2.2.2.1, cell_on bw4 hHeld.2.2.2.2.2.2.2.1, also hHeld.2.2.2.2.2.2.2.2 bw4⟩ | exact ⟨cell_on bw3 hHeld.1, cell_on bw3 hHeld.2.1, cell_on bw3 hHeld.2.2.1, cell_on bw3 hHeld.2.2.2.1, cell_on bw3 hHeld.2.2.2.2.1, cell_on bw3 hHeld.2.2.2.2.2.1, cell_on bw3 hHeld.2.2.2.2.2.2.1, cell_on bw3 hHeld.2.2.2.2.2.2.2.1, also hHeld.2.2.2.2.2.2.2.2 bw3⟩
  clear hK Kc
  have zbw3 := bw3.size
  replace x := x.below bw3
  replace y := y.below bw3
  replace BB := also BB bw3
  replace x_a := x_a.on bw3
  replace x_b := x_b.on bw3
  refine take_call (i := 9) rfl (by kernel_rfl) (fun Kc hK => ?_)
  go_simp
  (go_at_call 42; refine (rwMul s2 t1 d2 g1 l2 c2 h1 k1 N2 D1 _ _ y.rn x.rd fy gx rfl).mono ?_; rintro e w4 ⟨s4, d4, l4, c4, rfl, q4, f4, bw4⟩)
  refine hK.out _ _ ?_ (fun hHeld => ?_)
  · first | exact ⟨x_a.c0, x_a.c1, x_a.c2, x_a.c3, x_b.c0, x_b.c1, x_b.c2, x_b.c3, BB⟩ | exact ⟨cell_on bw5 hHeld.1, cell_on bw5 hHeld.2.1, cell_on bw5 hHeld.2.2.1, cell_on bw5 hHeld.2.2.2.1, cell_on bw5 hHeld.2.2.2.2.1, cell_on bw5 hHeld.2.2.2.2.2.1, cell_on bw5 hHeld.2.2.2.2.2.2.1, cell_on bw5 hHeld.2.2.2.2.2.2.2.1, also hHeld.2.2.2.2.2.2.2.2 bw5⟩ | exact ⟨cell_on bw4 hHeld.1, cell_on bw4 hHeld.2.1, cell_on bw4 hHeld.2.2.1, cell_on bw4 hHeld.2.2.2.1, cell_on bw4 hHeld.2.2.2.2.1, cell_on bw4 hHeld.2.2.2.2.2.1, cell_on bw4 hHeld.2.2.2.2.2.2.1, cell_on bw4 hHeld.2.2.2.2.2.2.2.1, also hHeld.2.2.2.2.2.2.2.2 bw4⟩ | exact ⟨cell_on bw3 hHeld.1, cell_on bw3 hHeld.2.1, cell_on bw3 hHeld.2.2.1, cell_on bw3 hHeld.2.2.2.1, cell_on bw3 hHeld.2.2.2.2.1, cell_on bw3 hHeld.2.2.2.2.2.1, cell_on bw3 hHeld.2.2.2.2.2.2.1, cell_on bw3 hHeld.2.2.2.2.2.2.2.1, also hHeld.2.2.2.2.2.2.2.2 bw3⟩
  clear hK Kc
  have zbw4 := bw4.size
  replace x := x.below bw4
  replace y := y.below bw4
  replace BB := also BB bw4
  replace x_a := x_a.on bw4
  replace x_b := x_b.on bw4
  replace q3 := q3.below bw4
  refine take_call (i := 10) rfl (by kernel_rfl) (fun Kc hK => ?_)
  go_simp
  (go_at_call 53; refine (rwCmp s3 s4 d3 d4 l3 c3 l4 c4 _ _ _ q3 q4 f1 f2 HE.out).mono ?_; rintro e w5 ⟨rfl, bw5⟩)
  refine hK.out _ _ ?_ (fun hHeld => ?_)
  · first | exact ⟨x_a.c0, x_a.c1, x_a.c2, x_a.c3, x_b.c0, x_b.c1, x_b.c2, x_b.c3, BB⟩ | exact ⟨cell_on bw5 hHeld.1, cell_on bw5 hHeld.2.1, cell_on bw5 hHeld.2.2.1, cell_on bw5 hHeld.2.2.2.1, cell_on bw5 hHeld.2.2.2.2.1, cell_on bw5 hHeld.2.2.2.2.2.1, cell_on bw5 hHeld.2.2.2.2.2.2.1, cell_on bw5 hHeld.2.2.2.2.2.2.2.1, also hHeld.2.2.2.2.2.2.2.2 bw5⟩ | exact ⟨cell_on bw4 hHeld.1, cell_on bw4 hHeld.2.1, cell_on bw4 hHeld.2.2.1, cell_on bw4 hHeld.2.2.2.1, cell_on bw4 hHeld.2.2.2.2.1, cell_on bw4 hHeld.2.2.2.2.2.1, cell_on bw4 hHeld.2.2.2.2.2.2.1, cell_on bw4 hHeld.2.2.2.2.2.2.2.1, also hHeld.2.2.2.2.2.2.2.2 bw4⟩ | exact ⟨cell_on bw3 hHeld.1, cell_on bw3 hHeld.2.1, cell_on bw3 hHeld.2.2.1, cell_on bw3 hHeld.2.2.2.1, cell_on bw3 hHeld.2.2.2.2.1, cell_on bw3 hHeld.2.2.2.2.2.1, cell_on bw3 hHeld.2.2.2.2.2.2.1, cell_on bw3 hHeld.2.2.2.2.2.2.2.1, also hHeld.2.2.2.2.2.2.2.2 bw3⟩
  clear hK Kc
  have zbw5 := bw5.size
  replace x := x.below bw5
  replace y := y.below bw5
  replace BB := also BB bw5
  replace x_a := x_a.on bw5
  replace x_b := x_b.on bw5
  replace q3 := q3.below bw5
  replace q4 := q4.below bw5
  refine take_yes (i := 11) (v := ?vr11) rfl (by kernel_rfl) (by kernel_rfl) (by kernel_rfl) (fun _ _ _ h => h) (by rfl) (by assumption) ?hyr11 ?restr11
  case hyr11 => (intro w hSw; (try dsimp only at hSw); first | (go_simp; done) | (go_simp; with_reducible rfl))
  simp only [Act.put, List.setIfInBounds_toArray, List.set_cons_zero, List.set_cons_succ]
  refine wpAnyH_done (by kernel_rfl) ?_ _
  go_wp2
  go_ret
  exact ⟨rfl, BB⟩
end Go.Proofs.YtaekgomplkkocaaGreatDoor

namespace Go.Proofs.YtaekgomplkkocaaGreatDoor
open Go.RowKit
set_option linter.unusedVariables false

set_option maxRecDepth 100000 in
set_option maxHeartbeats 1000000 in
theorem rqAdd (s1 : Int) (d1 : Option Addr) (l1 c1 : Nat) (t1 : Int) (g1 : Option Addr) (h1 k1 : Nat) (N1 : Int) (D1 : Nat) (s2 : Int) (d2 : Option Addr) (l2 c2 : Nat) (t2 : Int) (g2 : Option Addr) (h2 k2 : Nat) (N2 : Int) (D2 : Nat) (K : Nat) (w : World) (x : RQ w K s1 d1 l1 c1 t1 g1 h1 k1 N1 D1) (y : RQ w K s2 d2 l2 c2 t2 g2 h2 k2 N2 D2) (kk : K + K + 1 ≤ 10000) (N : Int) (D : Nat) (hN : N = N1 * (D2 : Int) + N2 * (D1 : Int)) (hD : D = D1 * D2) :
    Calls Tryz.prog 11 #[.agg #[.int .i64 s1, .slice d1 l1 c1, .int .i64 t1, .slice g1 h1 k1], .agg #[.int .i64 s2, .slice d2 l2 c2, .int .i64 t2, .slice g2 h2 k2]] w (GotRQ w (fun _ => True) (K + K + 1) N D) := by
  have fx := x.fn
  have fy := y.fn
  have gx := x.fd
  have gy := y.fd
  have HS : Hid (N.natAbs < 4294967296 ^ (K + K + 1)) := by unfold Hid; rw [hN]; exact abs_add' (abs_mul' x.ns (by simpa using y.ds)) (abs_mul' y.ns (by simpa using x.ds))
  have HT : Hid (D < 4294967296 ^ (K + K + 1)) := by unfold Hid; rw [hD]; exact Nat.lt_of_lt_of_le (nat_mul' x.ds y.ds) (Nat.pow_le_pow_right (by decide) (by omega))
  have d0 : 0 < D := by rw [hD]; exact Nat.mul_pos x.dp y.dp
  have f1 : hf.nlen (N1 * (D2 : Int)).natAbs ≤ 1000000 := hfew (abs_mul' x.ns (by simpa using y.ds)) (by omega)
  have f2 : hf.nlen (N2 * (D1 : Int)).natAbs ≤ 1000000 := hfew (abs_mul' y.ns (by simpa using x.ds)) (by omega)
  have HN : Hid _ := hN
  have HD : Hid ((D : Int) = (D1 : Int) * (D2 : Int)) := by unfold Hid; rw [hD]; simp
  clear hN hD
  obtain ⟨W, hW, bW, x_a, x_b, x_z, sW⟩ := bs_444 w (.int .i64 s1) (.slice d1 l1 c1) (.int .i64 t1) (.slice g1 h1 k1) (.int .i64 s2) (.slice d2 l2 c2) (.int .i64 t2) (.slice g2 h2 k2) (.int .i64 0) (.slice none 0 0) (.int .i64 0) (.slice none 0 0) 34 34 34
  have zbW := bW.size
  replace x := x.below bW
  replace y := y.below bW
  have BB := bW
  go_enter Tryz.func11, Tryz.ntmps11
  go_wp2
  rw [← hW]
  clear hW
  have dd1 : Below W.heap.size W W.drew := (Below.refl _ _).drew
  have zdd1 := dd1.size
  replace x := x.below dd1
  replace y := y.below dd1
  replace BB := also BB dd1
  replace x_a := x_a.on dd1
  replace x_b := x_b.on dd1
  replace x_z := x_z.on dd1
  refine wp_region_held_drew (S := (fun w' => w'.cell? ⟨w.heap.size, 0, none⟩ = some (.int .i64 s1) ∧ w'.cell? ⟨w.heap.size, 1, none⟩ = some (.slice d1 l1 c1) ∧ w'.cell? ⟨w.heap.size, 2, none⟩ = some (.int .i64 t1) ∧ w'.cell? ⟨w.heap.size, 3, none⟩ = some (.slice g1 h1 k1) ∧ w'.cell? ⟨w.heap.size + 1, 0, none⟩ = some (.int .i64 s2) ∧ w'.cell? ⟨w.heap.size + 1, 1, none⟩ = some (.slice d2 l2 c2) ∧ w'.cell? ⟨w.heap.size + 1, 2, none⟩ = some (.int .i64 t2) ∧ w'.cell? ⟨w.heap.size + 1, 3, none⟩ = some (.slice g2 h2 k2) ∧ Below w.heap.size w w')) (by kernel_rfl) ?_ (fun hHeld => ?_)
  · first | exact ⟨x_a.c0, x_a.c1, x_a.c2, x_a.c3, x_b.c0, x_b.c1, x_b.c2, x_b.c3, BB⟩ | exact ⟨cell_on bw6 hHeld.1, cell_on bw6 hHeld.2.1, cell_on bw6 hHeld.2.2.1, cell_on bw6 hHeld.2.2.2.1, cell_on bw6 hHeld.2.2.2.2.1, cell_on bw6 hHeld.2.2.2.2.2.1, cell_on bw6 hHeld.2.2.2.2.2.2.1, cell_on bw6 hHeld.2.2.2.2.2.2.2.1, also hHeld.2.2.2.2.2.2.2.2 bw6⟩ | exact ⟨cell_on bw5 hHeld.1, cell_on bw5 hHeld.2.1, cell_on bw5 hHeld.2.2.1, cell_on bw5 hHeld.2.2.2.1, cell_on bw5 hHeld.2.2.2.2.1, cell_on bw5 hHeld.2.2.2.2.2.1, cell_on bw5 hHeld.2.2.2.2.2.2.1, cell_on bw5 hHeld.2.2.2.2.2.2.2.1, also hHeld.2.2.2.2.2.2.2.2 bw5⟩ | exact ⟨cell_on bw4 hHeld.1, cell_on bw4 hHeld.2.1, cell_on bw4 hHeld.2.2.1, cell_on bw4 hHeld.2.2.2.1, cell_on bw4 hHeld.2.2.2.2.1, cell_on bw4 hHeld.2.2.2.2.2.1, cell_on bw4 hHeld.2.2.2.2.2.2.1, cell_on bw4 hHeld.2.2.2.2.2.2.2.1, also hHeld.2.2.2.2.2.2.2.2 bw4⟩ | exact ⟨cell_on bw3 hHeld.1, cell_on bw3 hHeld.2.1, cell_on bw3 hHeld.2.2.1, cell_on bw3 hHeld.2.2.2.1, cell_on bw3 hHeld.2.2.2.2.1, cell_on bw3 hHeld.2.2.2.2.2.1, cell_on bw3 hHeld.2.2.2.2.2.2.1, cell_on bw3 hHeld.2.2.2.2.2.2.2.1, also hHeld.2.2.2.2.2.2.2.2 bw3⟩ | exact ⟨cell_put4 hHeld.1 (by omega) _ _ _ _, cell_put4 hHeld.2.1 (by omega) _ _ _ _, cell_put4 hHeld.2.2.1 (by omega) _ _ _ _, cell_put4 hHeld.2.2.2.1 (by omega) _ _ _ _, cell_put4 hHeld.2.2.2.2.1 (by omega) _ _ _ _, cell_put4 hHeld.2.2.2.2.2.1 (by omega) _ _ _ _, cell_put4 hHeld.2.2.2.2.2.2.1 (by omega) _ _ _ _, cell_put4 hHeld.2.2.2.2.2.2.2.1 (by omega) _ _ _ _, below_put4 hHeld.2.2.2.2.2.2.2.2 (by omega) _ _ _ _⟩
  refine take_yes (i := 0) (v := ?vr0) rfl (by kernel_rfl) (by kernel_rfl) (by kernel_rfl) (fun _ _ _ h => h) (by rfl) (by assumption) ?hyr0 ?restr0
  case hyr0 => (intro w hSw; (try dsimp only at hSw); first | (go_simp; done) | (go_simp; with_reducible rfl))
  simp only [Act.put, List.setIfInBounds_toArray, List.set_cons_zero, List.set_cons_succ]
  refine take_yes (i := 1) (v := ?vr1) rfl (by kernel_rfl) (by kernel_rfl) (by kernel_rfl) (fun _ _ _ h => h) (by rfl) (by assumption) ?hyr1 ?restr1
  case hyr1 => (intro w hSw; (try dsimp only at hSw); first | (go_simp; done) | (go_simp; with_reducible rfl))
  simp only [Act.put, List.setIfInBounds_toArray, List.set_cons_zero, List.set_cons_succ]
  refine take_yes (i := 2) (v := ?vr2) rfl (by kernel_rfl) (by kernel_rfl) (by kernel_rfl) (fun _ _ _ h => h) (by rfl) (by assumption) ?hyr2 ?restr2
  case hyr2 => (intro w hSw; (try dsimp only at hSw); first | (go_simp; done) | (go_simp; with_reducible rfl))
  simp only [Act.put, List.setIfInBounds_toArray, List.set_cons_zero, List.set_cons_succ]
  refine take_yes (i := 3) (v := ?vr3) rfl (by kernel_rfl) (by kernel_rfl) (by kernel_rfl) (fun _ _ _ h => h) (by rfl) (by assumption) ?hyr3 ?restr3
  case hyr3 => (intro w hSw; (try dsimp only at hSw); first | (go_simp; done) | (go_simp; with_reducible rfl))
  simp only [Act.put, List.setIfInBounds_toArray, List.set_cons_zero, List.set_cons_succ]
  refine take_yes (i := 5) (v := ?vr5) rfl (by kernel_rfl) (by kernel_rfl) (by kernel_rfl) (fun _ _ _ h => h) (by rfl) (by assumption) ?hyr5 ?restr5
  case hyr5 => (intro w hSw; (try dsimp only at hSw); first | (go_simp; done) | (go_simp; with_reducible rfl))
  simp only [Act.put, List.setIfInBounds_toArray, List.set_cons_zero, List.set_cons_succ]
  refine take_yes (i := 6) (v := ?vr6) rfl (by kernel_rfl) (by kernel_rfl) (by kernel_rfl) (fun _ _ _ h => h) (by rfl) (by assumption) ?hyr6 ?restr6
  case hyr6 => (intro w hSw; (try dsimp only at hSw); first | (go_simp; done) | (go_simp; with_reducible rfl))
  simp only [Act.put, List.setIfInBounds_toArray, List.set_cons_zero, List.set_cons_succ]
  refine take_yes (i := 7) (v := ?vr7) rfl (by kernel_rfl) (by kernel_rfl) (by kernel_rfl) (fun _ _ _ h => h) (by rfl) (by assumption) ?hyr7 ?restr7
  case hyr7 => (intro w hSw; (try dsimp only at hSw); first | (go_simp; done) | (go_simp; with_reducible rfl))
  simp only [Act.put, List.setIfInBounds_toArray, List.set_cons_zero, List.set_cons_succ]
  refine take_yes (i := 8) (v := ?vr8) rfl (by kernel_rfl) (by kernel_rfl) (by kernel_rfl) (fun _ _ _ h => h) (by rfl) (by assumption) ?hyr8 ?restr8
  case hyr8 => (intro w hSw; (try dsimp only at hSw); first | (go_simp; done) | (go_simp; with_reducible rfl))
  simp only [Act.put, List.setIfInBounds_toArray, List.set_cons_zero, List.set_cons_succ]
  refine take_yes (i := 11) (v := ?vr11) rfl (by kernel_rfl) (by kernel_rfl) (by kernel_rfl) (fun _ _ _ h => h) (by rfl) (by assumption) ?hyr11 ?restr11
  case hyr11 => (intro w hSw; (try dsimp only at hSw); first | (go_simp; done) | (go_simp; with_reducible rfl))
  simp only [Act.put, List.setIfInBounds_toArray, List.set_cons_zero, List.set_cons_succ]
  refine take_yes (i := 12) (v := ?vr12) rfl (by kernel_rfl) (by kernel_rfl) (by kernel_rfl) (fun _ _ _ h => h) (by rfl) (by assumption) ?hyr12 ?restr12
  case hyr12 => (intro w hSw; (try dsimp only at hSw); first | (go_simp; done) | (go_simp; with_reducible rfl))
  simp only [Act.put, List.setIfInBounds_toArray, List.set_cons_zero, List.set_cons_succ]
  refine take_yes (i := 13) (v := ?vr13) rfl (by kernel_rfl) (by kernel_rfl) (by kernel_rfl) (fun _ _ _ h => h) (by rfl) (by assumption) ?hyr13 ?restr13
  case hyr13 => (intro w hSw; (try dsimp only at hSw); first | (go_simp; done) | (go_simp; with_reducible rfl))
  simp only [Act.put, List.setIfInBounds_toArray, List.set_cons_zero, List.set_cons_succ]
  refine take_yes (i := 14) (v := ?vr14) rfl (by kernel_rfl) (by kernel_rfl) (by kernel_rfl) (fun _ _ _ h => h) (by rfl) (by assumption) ?hyr14 ?restr14
  case hyr14 => (intro w hSw; (try dsimp only at hSw); first | (go_simp; done) | (go_simp; with_reducible rfl))
  simp only [Act.put, List.setIfInBounds_toArray, List.set_cons_zero, List.set_cons_succ]
  refine take_call (i := 4) rfl (by kernel_rfl) (fun Kc hK => ?_)
  go_simp
  (go_at_call 42; refine (rwMul s1 t2 d1 g2 l1 c1 h2 k2 N1 D2 _ _ x.rn y.rd fx gy rfl).mono ?_; rintro e w3 ⟨s3, d3, l3, c3, rfl, q3, f3, bw3⟩)
  refine hK.out _ _ ?_ (fun hHeld => ?_)
  · first | exact ⟨x_a.c0, x_a.c1, x_a.c2, x_a.c3, x_b.c0, x_b.c1, x_b.c2, x_b.c3, BB⟩ | exact ⟨cell_on bw6 hHeld.1, cell_on bw6 hHeld.2.1, cell_on bw6 hHeld.2.2.1, cell_on bw6 hHeld.2.2.2.1, cell_on bw6 hHeld.2.2.2.2.1, cell_on bw6 hHeld.2.2.2.2.2.1, cell_on bw6 hHeld.2.2.2.2.2.2.1, cell_on bw6 hHeld.2.2.2.2.2.2.2.1, also hHeld.2.2.2.2.2.2.2.2 bw6⟩ | exact ⟨cell_on bw5 hHeld.1, cell_on bw5 hHeld.2.1, cell_on bw5 hHeld.2.2.1, cell_on bw5 hHeld.2.2.2.1, cell_on bw5 hHeld.2.2.2.2.1, cell_on bw5 hHeld.2.2.2.2.2.1, cell_on bw5 hHeld.2.2.2.2.2.2.1, cell_on bw5 hHeld.2.2.2.2.2.2.2.1, also hHeld.2.2.2.2.2.2.2.2 bw5⟩ | exact ⟨cell_on bw4 hHeld.1, cell_on bw4 hHeld.2.1, cell_on bw4 hHeld.2.2.1, cell_on bw4 hHeld.2.2.2.1, cell_on bw4 hHeld.2.2.2.2.1, cell_on bw4 hHeld.2.2.2.2.2.1, cell_on bw4 hHeld.2.2.2.2.2.2.1, cell_on bw4 hHeld.2.2.2.2.2.2.2.1, also hHeld.2.2.2.2.2.2.2.2 bw4⟩ | exact ⟨cell_on bw3 hHeld.1, cell_on bw3 hHeld.2.1, cell_on bw3 hHeld.2.2.1, cell_on bw3 hHeld.2.2.2.1, cell_on bw3 hHeld.2.2.2.2.1, cell_on bw3 hHeld.2.2.2.2.2.1, cell_on bw3 hHeld.2.2.2.2.2.2.1, cell_on bw3 hHeld.2.2.2.2.2.2.2.1, also hHeld.2.2.2.2.2.2.2.2 bw3⟩ | exact ⟨cell_put4 hHeld.1 (by omega) _ _ _ _, cell_put4 hHeld.2.1 (by omega) _ _ _ _, cell_put4 hHeld.2.2.1 (by omega) _ _ _ _, cell_put4 hHeld.2.2.2.1 (by omega) _ _ _ _, cell_put4 hHeld.2.2.2.2.1 (by omega) _ _ _ _, cell_put4 hHeld.2.2.2.2.2.1 (by omega) _ _ _ _, cell_put4 hHeld.2.2.2.2.2.2.1 (by omega) _ _ _ _, cell_put4 hHeld.2.2.2.2.2.2.2.1 (by omega) _ _ _ _, below_put4 hHeld.2.2.2.2.2.2.2.2 (by omega) _ _ _ _⟩
  clear hK Kc
  have zbw3 := bw3.size
  replace x := x.below bw3
  replace y := y.below bw3
  replace BB := also BB bw3
  replace x_a := x_a.on bw3
  replace x_b := x_b.on bw3
  replace x_z := x_z.on bw3
  refine take_call (i := 9) rfl (by kernel_rfl) (fun Kc hK => ?_)
  go_simp
  (go_at_call 42; refine (rwMul s2 t1 d2 g1 l2 c2 h1 k1 N2 D1 _ _ y.rn x.rd fy gx rfl).mono ?_; rintro e w4 ⟨s4, d4, l4, c4, rfl, q4, f4, bw4⟩)
  refine hK.out _ _ ?_ (fun hHeld => ?_)
  · first | exact ⟨x_a.c0, x_a.c1, x_a.c2, x_a.c3, x_b.c0, x_b.c1, x_b.c2, x_b.c3, BB⟩ | exact ⟨cell_on bw6 hHeld.1, cell_on bw6 hHeld.2.1, cell_on bw6 hHeld.2.2.1, cell_on bw6 hHeld.2.2.2.1, cell_on bw6 hHeld.2.2.2.2.1, cell_on bw6 hHeld.2.2.2.2.2.1, cell_on bw6 hHeld.2.2.2.2.2.2.1, cell_on bw6 hHeld.2.2.2.2.2.2.2.1, also hHeld.2.2.2.2.2.2.2.2 bw6⟩ | exact ⟨cell_on bw5 hHeld.1, cell_on bw5 hHeld.2.1, cell_on bw5 hHeld.2.2.1, cell_on bw5 hHeld.2.2.2.1, cell_on bw5 hHeld.2.2.2.2.1, cell_on bw5 hHeld.2.2.2.2.2.1, cell_on bw5 hHeld.2.2.2.2.2.2.1, cell_on bw5 hHeld.2.2.2.2.2.2.2.1, also hHeld.2.2.2.2.2.2.2.2 bw5⟩ | exact ⟨cell_on bw4 hHeld.1, cell_on bw4 hHeld.2.1, cell_on bw4 hHeld.2.2.1, cell_on bw4 hHeld.2.2.2.1, cell_on bw4 hHeld.2.2.2.2.1, cell_on bw4 hHeld.2.2.2.2.2.1, cell_on bw4 hHeld.2.2.2.2.2.2.1, cell_on bw4 hHeld.2.2.2.2.2.2.2.1, also hHeld.2.2.2.2.2.2.2.2 bw4⟩ | exact ⟨cell_on bw3 hHeld.1, cell_on bw3 hHeld.2.1, cell_on bw3 hHeld.2.2.1, cell_on bw3 hHeld.2.2.2.1, cell_on bw3 hHeld.2.2.2.2.1, cell_on bw3 hHeld.2.2.2.2.2.1, cell_on bw3 hHeld.2.2.2.2.2.2.1, cell_on bw3 hHeld.2.2.2.2.2.2.2.1, also hHeld.2.2.2.2.2.2.2.2 bw3⟩ | exact ⟨cell_put4 hHeld.1 (by omega) _ _ _ _, cell_put4 hHeld.2.1 (by omega) _ _ _ _, cell_put4 hHeld.2.2.1 (by omega) _ _ _ _, cell_put4 hHeld.2.2.2.1 (by omega) _ _ _ _, cell_put4 hHeld.2.2.2.2.1 (by omega) _ _ _ _, cell_put4 hHeld.2.2.2.2.2.1 (by omega) _ _ _ _, cell_put4 hHeld.2.2.2.2.2.2.1 (by omega) _ _ _ _, cell_put4 hHeld.2.2.2.2.2.2.2.1 (by omega) _ _ _ _, below_put4 hHeld.2.2.2.2.2.2.2.2 (by omega) _ _ _ _⟩
  clear hK Kc
  have zbw4 := bw4.size
  replace x := x.below bw4
  replace y := y.below bw4
  replace BB := also BB bw4
  replace x_a := x_a.on bw4
  replace x_b := x_b.on bw4
  replace x_z := x_z.on bw4
  replace q3 := q3.below bw4
  refine take_call (i := 10) rfl (by kernel_rfl) (fun Kc hK => ?_)
  go_simp
  (go_at_call 41; refine (rwAdd s3 s4 d3 d4 l3 c3 l4 c4 _ _ N _ q3 q4 f1 f2 HN.out).mono ?_; rintro e w5 ⟨s5, d5, l5, c5, rfl, q5, f5, bw5⟩)
  refine hK.out _ _ ?_ (fun hHeld => ?_)
  · first | exact ⟨x_a.c0, x_a.c1, x_a.c2, x_a.c3, x_b.c0, x_b.c1, x_b.c2, x_b.c3, BB⟩ | exact ⟨cell_on bw6 hHeld.1, cell_on bw6 hHeld.2.1, cell_on bw6 hHeld.2.2.1, cell_on bw6 hHeld.2.2.2.1, cell_on bw6 hHeld.2.2.2.2.1, cell_on bw6 hHeld.2.2.2.2.2.1, cell_on bw6 hHeld.2.2.2.2.2.2.1, cell_on bw6 hHeld.2.2.2.2.2.2.2.1, also hHeld.2.2.2.2.2.2.2.2 bw6⟩ | exact ⟨cell_on bw5 hHeld.1, cell_on bw5 hHeld.2.1, cell_on bw5 hHeld.2.2.1, cell_on bw5 hHeld.2.2.2.1, cell_on bw5 hHeld.2.2.2.2.1, cell_on bw5 hHeld.2.2.2.2.2.1, cell_on bw5 hHeld.2.2.2.2.2.2.1, cell_on bw5 hHeld.2.2.2.2.2.2.2.1, also hHeld.2.2.2.2.2.2.2.2 bw5⟩ | exact ⟨cell_on bw4 hHeld.1, cell_on bw4 hHeld.2.1, cell_on bw4 hHeld.2.2.1, cell_on bw4 hHeld.2.2.2.1, cell_on bw4 hHeld.2.2.2.2.1, cell_on bw4 hHeld.2.2.2.2.2.1, cell_on bw4 hHeld.2.2.2.2.2.2.1, cell_on bw4 hHeld.2.2.2.2.2.2.2.1, also hHeld.2.2.2.2.2.2.2.2 bw4⟩ | exact ⟨cell_on bw3 hHeld.1, cell_on bw3 hHeld.2.1, cell_on bw3 hHeld.2.2.1, cell_on bw3 hHeld.2.2.2.1, cell_on bw3 hHeld.2.2.2.2.1, cell_on bw3 hHeld.2.2.2.2.2.1, cell_on bw3 hHeld.2.2.2.2.2.2.1, cell_on bw3 hHeld.2.2.2.2.2.2.2.1, also hHeld.2.2.2.2.2.2.2.2 bw3⟩ | exact ⟨cell_put4 hHeld.1 (by omega) _ _ _ _, cell_put4 hHeld.2.1 (by omega) _ _ _ _, cell_put4 hHeld.2.2.1 (by omega) _ _ _ _, cell_put4 hHeld.2.2.2.1 (by omega) _ _ _ _, cell_put4 hHeld.2.2.2.2.1 (by omega) _ _ _ _, cell_put4 hHeld.2.2.2.2.2.1 (by omega) _ _ _ _, cell_put4 hHeld.2.2.2.2.2.2.1 (by omega) _ _ _ _, cell_put4 hHeld.2.2.2.2.2.2.2.1 (by omega) _ _ _ _, below_put4 hHeld.2.2.2.2.2.2.2.2 (by omega) _ _ _ _⟩
  clear hK Kc
  have zbw5 := bw5.size
  replace x := x.below bw5
  replace y := y.below bw5
  replace BB := also BB bw5
  replace x_a := x_a.on bw5
  replace x_b := x_b.on bw5
  replace x_z := x_z.on bw5
  replace q3 := q3.below bw5
  replace q4 := q4.below bw5
  refine take_call (i := 15) rfl (by kernel_rfl) (fun Kc hK => ?_)
  go_simp
  (go_at_call 42; refine (rwMul t1 t2 g1 g2 h1 k1 h2 k2 D1 D2 D _ x.rd y.rd gx gy HD.out).mono ?_; rintro e w6 ⟨s6, d6, l6, c6, rfl, q6, f6, bw6⟩)
  refine hK.out _ _ ?_ (fun hHeld => ?_)
  · first | exact ⟨x_a.c0, x_a.c1, x_a.c2, x_a.c3, x_b.c0, x_b.c1, x_b.c2, x_b.c3, BB⟩ | exact ⟨cell_on bw6 hHeld.1, cell_on bw6 hHeld.2.1, cell_on bw6 hHeld.2.2.1, cell_on bw6 hHeld.2.2.2.1, cell_on bw6 hHeld.2.2.2.2.1, cell_on bw6 hHeld.2.2.2.2.2.1, cell_on bw6 hHeld.2.2.2.2.2.2.1, cell_on bw6 hHeld.2.2.2.2.2.2.2.1, also hHeld.2.2.2.2.2.2.2.2 bw6⟩ | exact ⟨cell_on bw5 hHeld.1, cell_on bw5 hHeld.2.1, cell_on bw5 hHeld.2.2.1, cell_on bw5 hHeld.2.2.2.1, cell_on bw5 hHeld.2.2.2.2.1, cell_on bw5 hHeld.2.2.2.2.2.1, cell_on bw5 hHeld.2.2.2.2.2.2.1, cell_on bw5 hHeld.2.2.2.2.2.2.2.1, also hHeld.2.2.2.2.2.2.2.2 bw5⟩ | exact ⟨cell_on bw4 hHeld.1, cell_on bw4 hHeld.2.1, cell_on bw4 hHeld.2.2.1, cell_on bw4 hHeld.2.2.2.1, cell_on bw4 hHeld.2.2.2.2.1, cell_on bw4 hHeld.2.2.2.2.2.1, cell_on bw4 hHeld.2.2.2.2.2.2.1, cell_on bw4 hHeld.2.2.2.2.2.2.2.1, also hHeld.2.2.2.2.2.2.2.2 bw4⟩ | exact ⟨cell_on bw3 hHeld.1, cell_on bw3 hHeld.2.1, cell_on bw3 hHeld.2.2.1, cell_on bw3 hHeld.2.2.2.1, cell_on bw3 hHeld.2.2.2.2.1, cell_on bw3 hHeld.2.2.2.2.2.1, cell_on bw3 hHeld.2.2.2.2.2.2.1, cell_on bw3 hHeld.2.2.2.2.2.2.2.1, also hHeld.2.2.2.2.2.2.2.2 bw3⟩ | exact ⟨cell_put4 hHeld.1 (by omega) _ _ _ _, cell_put4 hHeld.2.1 (by omega) _ _ _ _, cell_put4 hHeld.2.2.1 (by omega) _ _ _ _, cell_put4 hHeld.2.2.2.1 (by omega) _ _ _ _, cell_put4 hHeld.2.2.2.2.1 (by omega) _ _ _ _, cell_put4 hHeld.2.2.2.2.2.1 (by omega) _ _ _ _, cell_put4 hHeld.2.2.2.2.2.2.1 (by omega) _ _ _ _, cell_put4 hHeld.2.2.2.2.2.2.2.1 (by omega) _ _ _ _, below_put4 hHeld.2.2.2.2.2.2.2.2 (by omega) _ _ _ _⟩
  clear hK Kc
  have zbw6 := bw6.size
  replace x := x.below bw6
  replace y := y.below bw6
  replace BB := also BB bw6
  replace x_a := x_a.on bw6
  replace x_b := x_b.on bw6
  replace x_z := x_z.on bw6
  replace q3 := q3.below bw6
  replace q4 := q4.below bw6
  replace q5 := q5.below bw6
  refine take_yes (i := 16) (v := ?vr16) rfl (by kernel_rfl) (by kernel_rfl) (by kernel_rfl) (fun _ _ _ h => h) (by rfl) (by assumption) ?hyr16 ?restr16
  case hyr16 => (intro w hSw; (try dsimp only at hSw); first | (go_simp; done) | (go_simp; with_reducible rfl))
  simp only [Act.put, List.setIfInBounds_toArray, List.set_cons_zero, List.set_cons_succ]
  have ⟨x_z_0, x_z_1, x_z_2, x_z_3, x_z_4, x_z_5, x_z_6, x_z_7⟩ := x_z
  refine take_call (i := 17) rfl (by kernel_rfl) (fun Kc hK => ?_)
  go_simp
  refine hK.out _ _ ?_ (fun hHeld => ?_)
  · first | exact ⟨x_a.c0, x_a.c1, x_a.c2, x_a.c3, x_b.c0, x_b.c1, x_b.c2, x_b.c3, BB⟩ | exact ⟨cell_on bw6 hHeld.1, cell_on bw6 hHeld.2.1, cell_on bw6 hHeld.2.2.1, cell_on bw6 hHeld.2.2.2.1, cell_on bw6 hHeld.2.2.2.2.1, cell_on bw6 hHeld.2.2.2.2.2.1, cell_on bw6 hHeld.2.2.2.2.2.2.1, cell_on bw6 hHeld.2.2.2.2.2.2.2.1, also hHeld.2.2.2.2.2.2.2.2 bw6⟩ | exact ⟨cell_on bw5 hHeld.1, cell_on bw5 hHeld.2.1, cell_on bw5 hHeld.2.2.1, cell_on bw5 hHeld.2.2.2.1, cell_on bw5 hHeld.2.2.2.2.1, cell_on bw5 hHeld.2.2.2.2.2.1, cell_on bw5 hHeld.2.2.2.2.2.2.1, cell_on bw5 hHeld.2.2.2.2.2.2.2.1, also hHeld.2.2.2.2.2.2.2.2 bw5⟩ | exact ⟨cell_on bw4 hHeld.1, cell_on bw4 hHeld.2.1, cell_on bw4 hHeld.2.2.1, cell_on bw4 hHeld.2.2.2.1, cell_on bw4 hHeld.2.2.2.2.1, cell_on bw4 hHeld.2.2.2.2.2.1, cell_on bw4 hHeld.2.2.2.2.2.2.1, cell_on bw4 hHeld.2.2.2.2.2.2.2.1, also hHeld.2.2.2.2.2.2.2.2 bw4⟩ | exact ⟨cell_on bw3 hHeld.1, cell_on bw3 hHeld.2.1, cell_on bw3 hHeld.2.2.1, cell_on bw3 hHeld.2.2.2.1, cell_on bw3 hHeld.2.2.2.2.1, cell_on bw3 hHeld.2.2.2.2.2.1, cell_on bw3 hHeld.2.2.2.2.2.2.1, cell_on bw3 hHeld.2.2.2.2.2.2.2.1, also hHeld.2.2.2.2.2.2.2.2 bw3⟩ | exact ⟨cell_put4 hHeld.1 (by omega) _ _ _ _, cell_put4 hHeld.2.1 (by omega) _ _ _ _, cell_put4 hHeld.2.2.1 (by omega) _ _ _ _, cell_put4 hHeld.2.2.2.1 (by omega) _ _ _ _, cell_put4 hHeld.2.2.2.2.1 (by omega) _ _ _ _, cell_put4 hHeld.2.2.2.2.2.1 (by omega) _ _ _ _, cell_put4 hHeld.2.2.2.2.2.2.1 (by omega) _ _ _ _, cell_put4 hHeld.2.2.2.2.2.2.2.1 (by omega) _ _ _ _, below_put4 hHeld.2.2.2.2.2.2.2.2 (by omega) _ _ _ _⟩
  clear hK Kc
  refine wpAnyH_done (by kernel_rfl) ?_ _
  go_wp2
  exact bodyPost_ret (v := .agg #[.int .i64 s5, .slice d5 l5 c5, .int .i64 s6, .slice d6 l6 c6]) (by simp [results, Tryz.results11, go_sem, *]) rfl (endRQ _ (by omega) BB ⟨q5, q6, d0, HS.out, HT.out, kk⟩ (f5 _ (by omega) ⟨f3 _ (by omega) trivial, f4 _ (by omega) trivial⟩) (f6 _ (by omega) trivial) (fun j hj _ => ⟨f5 j (by omega) ⟨f3 _ (by omega) trivial, f4 _ (by omega) trivial⟩, f6 j (by omega) trivial⟩) _ _ _ _)
set_option maxRecDepth 100000 in
set_option maxHeartbeats 1000000 in
theorem rqSub (s1 : Int) (d1 : Option Addr) (l1 c1 : Nat) (t1 : Int) (g1 : Option Addr) (h1 k1 : Nat) (N1 : Int) (D1 : Nat) (s2 : Int) (d2 : Option Addr) (l2 c2 : Nat) (t2 : Int) (g2 : Option Addr) (h2 k2 : Nat) (N2 : Int) (D2 : Nat) (K : Nat) (w : World) (x : RQ w K s1 d1 l1 c1 t1 g1 h1 k1 N1 D1) (y : RQ w K s2 d2 l2 c2 t2 g2 h2 k2 N2 D2) (kk : K + K + 1 ≤ 10000) (N : Int) (D : Nat) (hN : N = N1 * (D2 : Int) + -N2 * (D1 : Int)) (hD : D = D1 * D2) :
    Calls Tryz.prog 13 #[.agg #[.int .i64 s1, .slice d1 l1 c1, .int .i64 t1, .slice g1 h1 k1], .agg #[.int .i64 s2, .slice d2 l2 c2, .int .i64 t2, .slice g2 h2 k2]] w (GotRQ w (fun _ => True) (K + K + 1) N D) := by
  have HN : Hid _ := hN
  have HD : Hid _ := hD
  have n1 : NA (w.heap.size + 1 + 1) d2 l2 := y.rn.hd.sl.na (by omega)
  have n2 : NA (w.heap.size + 1 + 1) g2 h2 := y.rd.hd.sl.na (by omega)
  clear hN hD
  obtain ⟨W, hW, bW, x_a, x_b, x_z, sW⟩ := bs_444 w (.int .i64 s1) (.slice d1 l1 c1) (.int .i64 t1) (.slice g1 h1 k1) (.int .i64 s2) (.slice d2 l2 c2) (.int .i64 t2) (.slice g2 h2 k2) (.int .i64 0) (.slice none 0 0) (.int .i64 0) (.slice none 0 0) 34 34 34
  have zbW := bW.size
  replace x := x.below bW
  replace y := y.below bW
  have BB := bW
  go_enter Tryz.func13, Tryz.ntmps13
  go_wp2
  rw [← hW]
  clear hW
  have dd1 : Below W.heap.size W W.drew := (Below.refl _ _).drew
  have zdd1 := dd1.size
  replace x := x.below dd1
  replace y := y.below dd1
  replace BB := also BB dd1
  replace x_a := x_a.on dd1
  replace x_b := x_b.on dd1
  replace x_z := x_z.on dd1
  refine wp_region_held_drew (S := (fun w' => w'.cell? ⟨w.heap.size, 0, none⟩ = some (.int .i64 s1) ∧ w'.cell? ⟨w.heap.size, 1, none⟩ = some (.slice d1 l1 c1) ∧ w'.cell? ⟨w.heap.size, 2, none⟩ = some (.int .i64 t1) ∧ w'.cell? ⟨w.heap.size, 3, none⟩ = some (.slice g1 h1 k1) ∧ w'.cell? ⟨w.heap.size + 1, 0, none⟩ = some (.int .i64 s2) ∧ w'.cell? ⟨w.heap.size + 1, 1, none⟩ = some (.slice d2 l2 c2) ∧ w'.cell? ⟨w.heap.size + 1, 2, none⟩ = some (.int .i64 t2) ∧ w'.cell? ⟨w.heap.size + 1, 3, none⟩ = some (.slice g2 h2 k2) ∧ Below w.heap.size w w')) (by kernel_rfl) ?_ (fun hHeld => ?_)
  · first | exact ⟨x_a.c0, x_a.c1, x_a.c2, x_a.c3, x_b.c0, x_b.c1, x_b.c2, x_b.c3, BB⟩ | exact ⟨cell_on bw4 hHeld.1, cell_on bw4 hHeld.2.1, cell_on bw4 hHeld.2.2.1, cell_on bw4 hHeld.2.2.2.1, cell_on bw4 hHeld.2.2.2.2.1, cell_on bw4 hHeld.2.2.2.2.2.1, cell_on bw4 hHeld.2.2.2.2.2.2.1, cell_on bw4 hHeld.2.2.2.2.2.2.2.1, also hHeld.2.2.2.2.2.2.2.2 bw4⟩ | exact ⟨cell_on bw3 hHeld.1, cell_on bw3 hHeld.2.1, cell_on bw3 hHeld.2.2.1, cell_on bw3 hHeld.2.2.2.1, cell_on bw3 hHeld.2.2.2.2.1, cell_on bw3 hHeld.2.2.2.2.2.1, cell_on bw3 hHeld.2.2.2.2.2.2.1, cell_on bw3 hHeld.2.2.2.2.2.2.2.1, also hHeld.2.2.2.2.2.2.2.2 bw3⟩ | exact ⟨cell_put4 hHeld.1 (by omega) _ _ _ _, cell_put4 hHeld.2.1 (by omega) _ _ _ _, cell_put4 hHeld.2.2.1 (by omega) _ _ _ _, cell_put4 hHeld.2.2.2.1 (by omega) _ _ _ _, cell_put4 hHeld.2.2.2.2.1 (by omega) _ _ _ _, cell_put4 hHeld.2.2.2.2.2.1 (by omega) _ _ _ _, cell_put4 hHeld.2.2.2.2.2.2.1 (by omega) _ _ _ _, cell_put4 hHeld.2.2.2.2.2.2.2.1 (by omega) _ _ _ _, below_put4 hHeld.2.2.2.2.2.2.2.2 (by omega) _ _ _ _⟩
  refine take_yes (i := 0) (v := ?vr0) rfl (by kernel_rfl) (by kernel_rfl) (by kernel_rfl) (fun _ _ _ h => h) (by rfl) (by assumption) ?hyr0 ?restr0
  case hyr0 => (intro w hSw; (try dsimp only at hSw); first | (go_simp; done) | (go_simp; with_reducible rfl))
  simp only [Act.put, List.setIfInBounds_toArray, List.set_cons_zero, List.set_cons_succ]
  refine take_yes (i := 1) (v := ?vr1) rfl (by kernel_rfl) (by kernel_rfl) (by kernel_rfl) (fun _ _ _ h => h) (by rfl) (by assumption) ?hyr1 ?restr1
  case hyr1 => (intro w hSw; (try dsimp only at hSw); first | (go_simp; done) | (go_simp; with_reducible rfl))
  simp only [Act.put, List.setIfInBounds_toArray, List.set_cons_zero, List.set_cons_succ]
  refine take_call (i := 2) rfl (by kernel_rfl) (fun Kc hK => ?_)
  go_simp
  (go_at_call 15; refine (rqNeg s2 d2 l2 c2 t2 g2 h2 k2 N2 D2 K _ y (-N2) rfl).mono ?_; rintro e w3 ⟨s3, d3, l3, c3, t3, g3, h3, k3, rfl, q3, f3, bw3⟩)
  refine hK.out _ _ ?_ (fun hHeld => ?_)
  · first | exact ⟨x_a.c0, x_a.c1, x_a.c2, x_a.c3, x_b.c0, x_b.c1, x_b.c2, x_b.c3, BB⟩ | exact ⟨cell_on bw4 hHeld.1, cell_on bw4 hHeld.2.1, cell_on bw4 hHeld.2.2.1, cell_on bw4 hHeld.2.2.2.1, cell_on bw4 hHeld.2.2.2.2.1, cell_on bw4 hHeld.2.2.2.2.2.1, cell_on bw4 hHeld.2.2.2.2.2.2.1, cell_on bw4 hHeld.2.2.2.2.2.2.2.1, also hHeld.2.2.2.2.2.2.2.2 bw4⟩ | exact ⟨cell_on bw3 hHeld.1, cell_on bw3 hHeld.2.1, cell_on bw3 hHeld.2.2.1, cell_on bw3 hHeld.2.2.2.1, cell_on bw3 hHeld.2.2.2.2.1, cell_on bw3 hHeld.2.2.2.2.2.1, cell_on bw3 hHeld.2.2.2.2.2.2.1, cell_on bw3 hHeld.2.2.2.2.2.2.2.1, also hHeld.2.2.2.2.2.2.2.2 bw3⟩ | exact ⟨cell_put4 hHeld.1 (by omega) _ _ _ _, cell_put4 hHeld.2.1 (by omega) _ _ _ _, cell_put4 hHeld.2.2.1 (by omega) _ _ _ _, cell_put4 hHeld.2.2.2.1 (by omega) _ _ _ _, cell_put4 hHeld.2.2.2.2.1 (by omega) _ _ _ _, cell_put4 hHeld.2.2.2.2.2.1 (by omega) _ _ _ _, cell_put4 hHeld.2.2.2.2.2.2.1 (by omega) _ _ _ _, cell_put4 hHeld.2.2.2.2.2.2.2.1 (by omega) _ _ _ _, below_put4 hHeld.2.2.2.2.2.2.2.2 (by omega) _ _ _ _⟩
  clear hK Kc
  have zbw3 := bw3.size
  replace x := x.below bw3
  replace y := y.below bw3
  replace BB := also BB bw3
  replace x_a := x_a.on bw3
  replace x_b := x_b.on bw3
  replace x_z := x_z.on bw3
  refine take_call (i := 3) rfl (by kernel_rfl) (fun Kc hK => ?_)
  go_simp
  (go_at_call 11; refine (rqAdd s1 d1 l1 c1 t1 g1 h1 k1 N1 D1 s3 d3 l3 c3 t3 g3 h3 k3 (-N2) D2 K _ x q3 kk N D HN.out HD.out).mono ?_; rintro e w4 ⟨s4, d4, l4, c4, t4, g4, h4, k4, rfl, q4, f4, bw4⟩)
  refine hK.out _ _ ?_ (fun hHeld => ?_)
  · first | exact ⟨x_a.c0, x_a.c1, x_a.c2, x_a.c3, x_b.c0, x_b.c1, x_b.c2, x_b.c3, BB⟩ | exact ⟨cell_on bw4 hHeld.1, cell_on bw4 hHeld.2.1, cell_on bw4 hHeld.2.2.1, cell_on bw4 hHeld.2.2.2.1, cell_on bw4 hHeld.2.2.2.2.1, cell_on bw4 hHeld.2.2.2.2.2.1, cell_on bw4 hHeld.2.2.2.2.2.2.1, cell_on bw4 hHeld.2.2.2.2.2.2.2.1, also hHeld.2.2.2.2.2.2.2.2 bw4⟩ | exact ⟨cell_on bw3 hHeld.1, cell_on bw3 hHeld.2.1, cell_on bw3 hHeld.2.2.1, cell_on bw3 hHeld.2.2.2.1, cell_on bw3 hHeld.2.2.2.2.1, cell_on bw3 hHeld.2.2.2.2.2.1, cell_on bw3 hHeld.2.2.2.2.2.2.1, cell_on bw3 hHeld.2.2.2.2.2.2.2.1, also hHeld.2.2.2.2.2.2.2.2 bw3⟩ | exact ⟨cell_put4 hHeld.1 (by omega) _ _ _ _, cell_put4 hHeld.2.1 (by omega) _ _ _ _, cell_put4 hHeld.2.2.1 (by omega) _ _ _ _, cell_put4 hHeld.2.2.2.1 (by omega) _ _ _ _, cell_put4 hHeld.2.2.2.2.1 (by omega) _ _ _ _, cell_put4 hHeld.2.2.2.2.2.1 (by omega) _ _ _ _, cell_put4 hHeld.2.2.2.2.2.2.1 (by omega) _ _ _ _, cell_put4 hHeld.2.2.2.2.2.2.2.1 (by omega) _ _ _ _, below_put4 hHeld.2.2.2.2.2.2.2.2 (by omega) _ _ _ _⟩
  clear hK Kc
  have zbw4 := bw4.size
  replace x := x.below bw4
  replace y := y.below bw4
  replace BB := also BB bw4
  replace x_a := x_a.on bw4
  replace x_b := x_b.on bw4
  replace x_z := x_z.on bw4
  replace q3 := q3.below bw4
  have ⟨x_z_0, x_z_1, x_z_2, x_z_3, x_z_4, x_z_5, x_z_6, x_z_7⟩ := x_z
  refine take_call (i := 4) rfl (by kernel_rfl) (fun Kc hK => ?_)
  go_simp
  refine hK.out _ _ ?_ (fun hHeld => ?_)
  · first | exact ⟨x_a.c0, x_a.c1, x_a.c2, x_a.c3, x_b.c0, x_b.c1, x_b.c2, x_b.c3, BB⟩ | exact ⟨cell_on bw4 hHeld.1, cell_on bw4 hHeld.2.1, cell_on bw4 hHeld.2.2.1, cell_on bw4 hHeld.2.2.2.1, cell_on bw4 hHeld.2.2.2.2.1, cell_on bw4 hHeld.2.2.2.2.2.1, cell_on bw4 hHeld.2.2.2.2.2.2.1, cell_on bw4 hHeld.2.2.2.2.2.2.2.1, also hHeld.2.2.2.2.2.2.2.2 bw4⟩ | exact ⟨cell_on bw3 hHeld.1, cell_on bw3 hHeld.2.1, cell_on bw3 hHeld.2.2.1, cell_on bw3 hHeld.2.2.2.1, cell_on bw3 hHeld.2.2.2.2.1, cell_on bw3 hHeld.2.2.2.2.2.1, cell_on bw3 hHeld.2.2.2.2.2.2.1, cell_on bw3 hHeld.2.2.2.2.2.2.2.1, also hHeld.2.2.2.2.2.2.2.2 bw3⟩ | exact ⟨cell_put4 hHeld.1 (by omega) _ _ _ _, cell_put4 hHeld.2.1 (by omega) _ _ _ _, cell_put4 hHeld.2.2.1 (by omega) _ _ _ _, cell_put4 hHeld.2.2.2.1 (by omega) _ _ _ _, cell_put4 hHeld.2.2.2.2.1 (by omega) _ _ _ _, cell_put4 hHeld.2.2.2.2.2.1 (by omega) _ _ _ _, cell_put4 hHeld.2.2.2.2.2.2.1 (by omega) _ _ _ _, cell_put4 hHeld.2.2.2.2.2.2.2.1 (by omega) _ _ _ _, below_put4 hHeld.2.2.2.2.2.2.2.2 (by omega) _ _ _ _⟩
  clear hK Kc
  refine wpAnyH_done (by kernel_rfl) ?_ _
  go_wp2
  exact bodyPost_ret (v := .agg #[.int .i64 s4, .slice d4 l4 c4, .int .i64 t4, .slice g4 h4 k4]) (by simp [results, Tryz.results13, go_sem, *]) rfl (endRQ _ (by omega) BB q4 (f4 _ (by omega) trivial).1 (f4 _ (by omega) trivial).2 (fun j hj _ => f4 j (by omega) trivial) _ _ _ _)
end Go.Proofs.YtaekgomplkkocaaGreatDoor

namespace Go.Proofs.YtaekgomplkkocaaGreatDoor
open Go.RowKit
set_option linter.unusedVariables false

set_option maxRecDepth 100000 in
set_option maxHeartbeats 1000000 in
theorem rqFloor (s1 : Int) (d1 : Option Addr) (l1 c1 : Nat) (t1 : Int) (g1 : Option Addr) (h1 k1 : Nat) (N1 : Int) (D1 : Nat) (K : Nat) (w : World) (x : RQ w K s1 d1 l1 c1 t1 g1 h1 k1 N1 D1) (k9 : K + 1 ≤ 10000) (Q : Int) (hQ : Q = flQ N1 D1) :
    Calls Tryz.prog 28 #[.agg #[.int .i64 s1, .slice d1 l1 c1, .int .i64 t1, .slice g1 h1 k1]] w (GotR w (fun _ => True) Q) := by
  have HQ : Hid _ := hQ
  clear hQ
  have fx := x.fn
  have gx := x.fd
  have f1 := hfew (Nat.lt_of_le_of_lt (quo_abs N1 D1) x.ns) (by omega)
  have f2 := hfew (flQ_abs N1 D1 K x.dp x.ns x.ds).1 (by omega)
  have f3 := hfew (flQ_abs N1 D1 K x.dp x.ns x.ds).2 (by omega)
  have hd0 : ((D1 : Nat) : Int) ≠ 0 := by have := x.dp; omega
  obtain ⟨W, hW, bW, x_a, x_z, sW⟩ := bs_42 w (.int .i64 s1) (.slice d1 l1 c1) (.int .i64 t1) (.slice g1 h1 k1) (.int .i64 0) (.slice none 0 0) 34 32
  have zbW := bW.size
  replace x := x.below bW
  have BB := bW
  go_enter Tryz.func28, Tryz.ntmps28
  go_wp2_with (go_at_call 52; fail)
  rw [← hW]
  clear hW
  refine (rwFloorF s1 t1 d1 g1 l1 c1 h1 k1 N1 D1 W x.rn x.rd fx gx hd0 f1 f2 f3 Q (flR N1 D1) HQ.out rfl).mono ?_
  rintro e w1 ⟨s2, d2, l2, c2, s3, d3, l3, c3, rfl, q2, q3, r2, bw1⟩
  have zbw1 := bw1.size
  replace x := x.below bw1
  replace BB := also BB bw1
  replace x_a := x_a.on bw1
  replace x_z := x_z.on bw1
  obtain ⟨V, hV, bV, x_q, x_r, sV⟩ := bs_22 w1 (.int .i64 s2) (.slice d2 l2 c2) (.int .i64 s3) (.slice d3 l3 c3) 32 32
  have zbV := bV.size
  replace x := x.below bV
  replace BB := also BB bV
  replace x_a := x_a.on bV
  replace x_z := x_z.on bV
  replace q2 := q2.below bV
  replace q3 := q3.below bV
  subst hV
  have ⟨x_q_0, x_q_1, x_q_2, x_q_3⟩ := x_q
  have ⟨x_z_0, x_z_1, x_z_2, x_z_3⟩ := x_z
  go_wp2
  exact bodyPost_ret (v := .agg #[.int .i64 s2, .slice d2 l2 c2]) (by simp [results, Tryz.results28, go_sem, *]) rfl (endR _ (by omega) BB q2 (r2 _ (by omega)) (fun j hj _ => r2 j (by omega)) _ _)
set_option maxRecDepth 100000 in
set_option maxHeartbeats 1000000 in
theorem rqRound (s1 : Int) (d1 : Option Addr) (l1 c1 : Nat) (t1 : Int) (g1 : Option Addr) (h1 k1 : Nat) (N1 : Int) (D1 : Nat) (K : Nat) (w : World) (x : RQ w K s1 d1 l1 c1 t1 g1 h1 k1 N1 D1) (k2 : 2 ≤ K) (k9 : K + K + 1 + 1 ≤ 10000) (Q : Int) (hQ : Q = flQ (N1 * 2 + 1 * (D1 : Int)) ((D1 * 2 : Nat) : Int)) :
    Calls Tryz.prog 29 #[.agg #[.int .i64 s1, .slice d1 l1 c1, .int .i64 t1, .slice g1 h1 k1]] w (GotR w (fun _ => True) Q) := by
  have HQ : Hid _ := hQ
  clear hQ
  obtain ⟨W, hW, bW, x_a, x_z, sW⟩ := bs_42 w (.int .i64 s1) (.slice d1 l1 c1) (.int .i64 t1) (.slice g1 h1 k1) (.int .i64 0) (.slice none 0 0) 34 32
  have zbW := bW.size
  replace x := x.below bW
  have BB := bW
  go_enter Tryz.func29, Tryz.ntmps29
  go_wp2
  rw [← hW]
  clear hW
  have dd1 : Below W.heap.size W W.drew := (Below.refl _ _).drew
  have zdd1 := dd1.size
  replace x := x.below dd1
  replace BB := also BB dd1
  replace x_a := x_a.on dd1
  replace x_z := x_z.on dd1
  refine wp_region_held_drew (S := (fun w' => w'.cell? ⟨w.heap.size, 0, none⟩ = some (.int .i64 s1) ∧ w'.cell? ⟨w.heap.size, 1, none⟩ = some (.slice d1 l1 c1) ∧ w'.cell? ⟨w.heap.size, 2, none⟩ = some (.int .i64 t1) ∧ w'.cell? ⟨w.heap.size, 3, none⟩ = some (.slice g1 h1 k1) ∧ Below w.heap.size w w')) (by kernel_rfl) ?_ (fun hHeld => ?_)
  · first | exact ⟨x_a.c0, x_a.c1, x_a.c2, x_a.c3, BB⟩ | exact ⟨cell_on bw5 hHeld.1, cell_on bw5 hHeld.2.1, cell_on bw5 hHeld.2.2.1, cell_on bw5 hHeld.2.2.2.1, also hHeld.2.2.2.2 bw5⟩ | exact ⟨cell_on bw4 hHeld.1, cell_on bw4 hHeld.2.1, cell_on bw4 hHeld.2.2.1, cell_on bw4 hHeld.2.2.2.1, also hHeld.2.2.2.2 bw4⟩ | exact ⟨cell_on bw3 hHeld.1, cell_on bw3 hHeld.2.1, cell_on bw3 hHeld.2.2.1, cell_on bw3 hHeld.2.2.2.1, also hHeld.2.2.2.2 bw3⟩ | exact ⟨cell_on bw2 hHeld.1, cell_on bw2 hHeld.2.1, cell_on bw2 hHeld.2.2.1, cell_on bw2 hHeld.2.2.2.1, also hHeld.2.2.2.2 bw2⟩ | exact ⟨cell_put2 hHeld.1 (by omega) _ _, cell_put2 hHeld.2.1 (by omega) _ _, cell_put2 hHeld.2.2.1 (by omega) _ _, cell_put2 hHeld.2.2.2.1 (by omega) _ _, below_put2 hHeld.2.2.2.2 (by omega) _ _⟩
  refine take_yes (i := 0) (v := ?vr0) rfl (by kernel_rfl) (by kernel_rfl) (by kernel_rfl) (fun _ _ _ h => h) (by rfl) (by assumption) ?hyr0 ?restr0
  case hyr0 => (intro w hSw; (try dsimp only at hSw); first | (go_simp; done) | (go_simp; with_reducible rfl))
  simp only [Act.put, List.setIfInBounds_toArray, List.set_cons_zero, List.set_cons_succ]
  refine take_call (i := 1) rfl (by kernel_rfl) (fun Kc hK => ?_)
  go_simp
  (go_at_call 25; refine (rwLong 1 _ (by decide) (by decide)).mono ?_; rintro e w2 ⟨s2, d2, l2, c2, rfl, q2, f2, bw2⟩)
  refine hK.out _ _ ?_ (fun hHeld => ?_)
  · first | exact ⟨x_a.c0, x_a.c1, x_a.c2, x_a.c3, BB⟩ | exact ⟨cell_on bw5 hHeld.1, cell_on bw5 hHeld.2.1, cell_on bw5 hHeld.2.2.1, cell_on bw5 hHeld.2.2.2.1, also hHeld.2.2.2.2 bw5⟩ | exact ⟨cell_on bw4 hHeld.1, cell_on bw4 hHeld.2.1, cell_on bw4 hHeld.2.2.1, cell_on bw4 hHeld.2.2.2.1, also hHeld.2.2.2.2 bw4⟩ | exact ⟨cell_on bw3 hHeld.1, cell_on bw3 hHeld.2.1, cell_on bw3 hHeld.2.2.1, cell_on bw3 hHeld.2.2.2.1, also hHeld.2.2.2.2 bw3⟩ | exact ⟨cell_on bw2 hHeld.1, cell_on bw2 hHeld.2.1, cell_on bw2 hHeld.2.2.1, cell_on bw2 hHeld.2.2.2.1, also hHeld.2.2.2.2 bw2⟩ | exact ⟨cell_put2 hHeld.1 (by omega) _ _, cell_put2 hHeld.2.1 (by omega) _ _, cell_put2 hHeld.2.2.1 (by omega) _ _, cell_put2 hHeld.2.2.2.1 (by omega) _ _, below_put2 hHeld.2.2.2.2 (by omega) _ _⟩
  clear hK Kc
  have zbw2 := bw2.size
  replace x := x.below bw2
  replace BB := also BB bw2
  replace x_a := x_a.on bw2
  replace x_z := x_z.on bw2
  refine take_call (i := 2) rfl (by kernel_rfl) (fun Kc hK => ?_)
  go_simp
  (go_at_call 25; refine (rwLong 2 _ (by decide) (by decide)).mono ?_; rintro e w3 ⟨s3, d3, l3, c3, rfl, q3, f3, bw3⟩)
  refine hK.out _ _ ?_ (fun hHeld => ?_)
  · first | exact ⟨x_a.c0, x_a.c1, x_a.c2, x_a.c3, BB⟩ | exact ⟨cell_on bw5 hHeld.1, cell_on bw5 hHeld.2.1, cell_on bw5 hHeld.2.2.1, cell_on bw5 hHeld.2.2.2.1, also hHeld.2.2.2.2 bw5⟩ | exact ⟨cell_on bw4 hHeld.1, cell_on bw4 hHeld.2.1, cell_on bw4 hHeld.2.2.1, cell_on bw4 hHeld.2.2.2.1, also hHeld.2.2.2.2 bw4⟩ | exact ⟨cell_on bw3 hHeld.1, cell_on bw3 hHeld.2.1, cell_on bw3 hHeld.2.2.1, cell_on bw3 hHeld.2.2.2.1, also hHeld.2.2.2.2 bw3⟩ | exact ⟨cell_on bw2 hHeld.1, cell_on bw2 hHeld.2.1, cell_on bw2 hHeld.2.2.1, cell_on bw2 hHeld.2.2.2.1, also hHeld.2.2.2.2 bw2⟩ | exact ⟨cell_put2 hHeld.1 (by omega) _ _, cell_put2 hHeld.2.1 (by omega) _ _, cell_put2 hHeld.2.2.1 (by omega) _ _, cell_put2 hHeld.2.2.2.1 (by omega) _ _, below_put2 hHeld.2.2.2.2 (by omega) _ _⟩
  clear hK Kc
  have zbw3 := bw3.size
  replace x := x.below bw3
  replace BB := also BB bw3
  replace x_a := x_a.on bw3
  replace x_z := x_z.on bw3
  replace q2 := q2.below bw3
  refine take_yes (i := 3) (v := ?vr3) rfl (by kernel_rfl) (by kernel_rfl) (by kernel_rfl) (fun _ _ _ h => h) (by rfl) (by assumption) ?hyr3 ?restr3
  case hyr3 => (intro w hSw; (try dsimp only at hSw); first | (go_simp; done) | (go_simp; with_reducible rfl))
  simp only [Act.put, List.setIfInBounds_toArray, List.set_cons_zero, List.set_cons_succ]
  refine take_call (i := 4) rfl (by kernel_rfl) (fun Kc hK => ?_)
  go_simp
  (go_at_call 11; refine (rqAdd s1 d1 l1 c1 t1 g1 h1 k1 N1 D1 s2 d2 l2 c2 s3 d3 l3 c3 1 2 K _ x ⟨q2, q3, by decide, Nat.lt_of_lt_of_le (by decide) (Nat.pow_le_pow_right (by decide) k2), Nat.lt_of_lt_of_le (show 2 < 4294967296 ^ 2 by decide) (Nat.pow_le_pow_right (by decide) k2), x.kk⟩ (by omega) _ _ rfl rfl).mono ?_; rintro e w4 ⟨s4, d4, l4, c4, t4, g4, h4, k4, rfl, q4, f4, bw4⟩)
  refine hK.out _ _ ?_ (fun hHeld => ?_)
  · first | exact ⟨x_a.c0, x_a.c1, x_a.c2, x_a.c3, BB⟩ | exact ⟨cell_on bw5 hHeld.1, cell_on bw5 hHeld.2.1, cell_on bw5 hHeld.2.2.1, cell_on bw5 hHeld.2.2.2.1, also hHeld.2.2.2.2 bw5⟩ | exact ⟨cell_on bw4 hHeld.1, cell_on bw4 hHeld.2.1, cell_on bw4 hHeld.2.2.1, cell_on bw4 hHeld.2.2.2.1, also hHeld.2.2.2.2 bw4⟩ | exact ⟨cell_on bw3 hHeld.1, cell_on bw3 hHeld.2.1, cell_on bw3 hHeld.2.2.1, cell_on bw3 hHeld.2.2.2.1, also hHeld.2.2.2.2 bw3⟩ | exact ⟨cell_on bw2 hHeld.1, cell_on bw2 hHeld.2.1, cell_on bw2 hHeld.2.2.1, cell_on bw2 hHeld.2.2.2.1, also hHeld.2.2.2.2 bw2⟩ | exact ⟨cell_put2 hHeld.1 (by omega) _ _, cell_put2 hHeld.2.1 (by omega) _ _, cell_put2 hHeld.2.2.1 (by omega) _ _, cell_put2 hHeld.2.2.2.1 (by omega) _ _, below_put2 hHeld.2.2.2.2 (by omega) _ _⟩
  clear hK Kc
  have zbw4 := bw4.size
  replace x := x.below bw4
  replace BB := also BB bw4
  replace x_a := x_a.on bw4
  replace x_z := x_z.on bw4
  replace q2 := q2.below bw4
  replace q3 := q3.below bw4
  refine take_call (i := 5) rfl (by kernel_rfl) (fun Kc hK => ?_)
  go_simp
  (go_at_call 28; refine (rqFloor s4 d4 l4 c4 t4 g4 h4 k4 _ _ (K + K + 1) _ q4 k9 Q HQ.out).mono ?_; rintro e w5 ⟨s5, d5, l5, c5, rfl, q5, f5, bw5⟩)
  refine hK.out _ _ ?_ (fun hHeld => ?_)
  · first | exact ⟨x_a.c0, x_a.c1, x_a.c2, x_a.c3, BB⟩ | exact ⟨cell_on bw5 hHeld.1, cell_on bw5 hHeld.2.1, cell_on bw5 hHeld.2.2.1, cell_on bw5 hHeld.2.2.2.1, also hHeld.2.2.2.2 bw5⟩ | exact ⟨cell_on bw4 hHeld.1, cell_on bw4 hHeld.2.1, cell_on bw4 hHeld.2.2.1, cell_on bw4 hHeld.2.2.2.1, also hHeld.2.2.2.2 bw4⟩ | exact ⟨cell_on bw3 hHeld.1, cell_on bw3 hHeld.2.1, cell_on bw3 hHeld.2.2.1, cell_on bw3 hHeld.2.2.2.1, also hHeld.2.2.2.2 bw3⟩ | exact ⟨cell_on bw2 hHeld.1, cell_on bw2 hHeld.2.1, cell_on bw2 hHeld.2.2.1, cell_on bw2 hHeld.2.2.2.1, also hHeld.2.2.2.2 bw2⟩ | exact ⟨cell_put2 hHeld.1 (by omega) _ _, cell_put2 hHeld.2.1 (by omega) _ _, cell_put2 hHeld.2.2.1 (by omega) _ _, cell_put2 hHeld.2.2.2.1 (by omega) _ _, below_put2 hHeld.2.2.2.2 (by omega) _ _⟩
  clear hK Kc
  have zbw5 := bw5.size
  replace x := x.below bw5
  replace BB := also BB bw5
  replace x_a := x_a.on bw5
  replace x_z := x_z.on bw5
  replace q2 := q2.below bw5
  replace q3 := q3.below bw5
  replace q4 := q4.below bw5
  have ⟨x_z_0, x_z_1, x_z_2, x_z_3⟩ := x_z
  refine take_call (i := 6) rfl (by kernel_rfl) (fun Kc hK => ?_)
  go_simp
  refine hK.out _ _ ?_ (fun hHeld => ?_)
  · first | exact ⟨x_a.c0, x_a.c1, x_a.c2, x_a.c3, BB⟩ | exact ⟨cell_on bw5 hHeld.1, cell_on bw5 hHeld.2.1, cell_on bw5 hHeld.2.2.1, cell_on bw5 hHeld.2.2.2.1, also hHeld.2.2.2.2 bw5⟩ | exact ⟨cell_on bw4 hHeld.1, cell_on bw4 hHeld.2.1, cell_on bw4 hHeld.2.2.1, cell_on bw4 hHeld.2.2.2.1, also hHeld.2.2.2.2 bw4⟩ | exact ⟨cell_on bw3 hHeld.1, cell_on bw3 hHeld.2.1, cell_on bw3 hHeld.2.2.1, cell_on bw3 hHeld.2.2.2.1, also hHeld.2.2.2.2 bw3⟩ | exact ⟨cell_on bw2 hHeld.1, cell_on bw2 hHeld.2.1, cell_on bw2 hHeld.2.2.1, cell_on bw2 hHeld.2.2.2.1, also hHeld.2.2.2.2 bw2⟩ | exact ⟨cell_put2 hHeld.1 (by omega) _ _, cell_put2 hHeld.2.1 (by omega) _ _, cell_put2 hHeld.2.2.1 (by omega) _ _, cell_put2 hHeld.2.2.2.1 (by omega) _ _, below_put2 hHeld.2.2.2.2 (by omega) _ _⟩
  clear hK Kc
  refine wpAnyH_done (by kernel_rfl) ?_ _
  go_wp2
  exact bodyPost_ret (v := .agg #[.int .i64 s5, .slice d5 l5 c5]) (by simp [results, Tryz.results29, go_sem, *]) rfl (endR _ (by omega) BB q5 (f5 _ (by omega) trivial) (fun j hj _ => f5 j (by omega) trivial) _ _)
end Go.Proofs.YtaekgomplkkocaaGreatDoor
