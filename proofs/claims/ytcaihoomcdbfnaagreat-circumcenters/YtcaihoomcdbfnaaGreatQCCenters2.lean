/-
  Joined texts of this law, part 2:
  What zelligeref09's Has, weight and mean answer.
  What zelligeref05's Low and Same answer.
  Blocks of eight cells: what they hold. It imports nothing of the program.
-/
import Derived.Test.YtcaihoomcdbfnaaGreatQCCenters1
namespace Go.Proofs.YtcaihoomcdbfnaaGreat
open Go.RowKit
set_option linter.unusedVariables false

theorem few_big {z : Int} (h : z.natAbs ≤ 1000000000000000000000000000000000000000000000000000000000000000000000000000000000000000000) : hf.nlen z.natAbs ≤ 1000000 := hfew (K := 10) (Nat.lt_of_le_of_lt h (by decide)) (by decide)
theorem bs_2224 (w : World) (x00 x01 x10 x11 x20 x21 x30 x31 x32 x33 : Value) (t0 t1 t2 t3 : TypeId) : ∃ W, W = ((((w.alloc (.cells #[x00, x01] t0)).alloc (.cells #[x10, x11] t1)).alloc (.cells #[x20, x21] t2)).alloc (.cells #[x30, x31, x32, x33] t3)) ∧ Below w.heap.size w W ∧ Bx W (w.heap.size) x00 x01 ∧ Bx W (w.heap.size + 1) x10 x11 ∧ Bx W (w.heap.size + 1 + 1) x20 x21 ∧ B4 W (w.heap.size + 1 + 1 + 1) x30 x31 x32 x33 ∧ w.heap.size + 1 + 1 + 1 < W.heap.size := by
  have e0 : Below w.heap.size w (w.alloc (.cells #[x00, x01] t0)) := (Below.refl _ _).alloc (Nat.le_refl _) _
  have h0 := bx_new w x00 x01 t0
  have e1 : Below (w.alloc (.cells #[x00, x01] t0)).heap.size (w.alloc (.cells #[x00, x01] t0)) ((w.alloc (.cells #[x00, x01] t0)).alloc (.cells #[x10, x11] t1)) := (Below.refl _ _).alloc (Nat.le_refl _) _
  have h1 := bx_new (w.alloc (.cells #[x00, x01] t0)) x10 x11 t1
  rw [World.size_alloc] at h1
  have e2 : Below ((w.alloc (.cells #[x00, x01] t0)).alloc (.cells #[x10, x11] t1)).heap.size ((w.alloc (.cells #[x00, x01] t0)).alloc (.cells #[x10, x11] t1)) (((w.alloc (.cells #[x00, x01] t0)).alloc (.cells #[x10, x11] t1)).alloc (.cells #[x20, x21] t2)) := (Below.refl _ _).alloc (Nat.le_refl _) _
  have h2 := bx_new ((w.alloc (.cells #[x00, x01] t0)).alloc (.cells #[x10, x11] t1)) x20 x21 t2
  rw [World.size_alloc, World.size_alloc] at h2
  have e3 : Below (((w.alloc (.cells #[x00, x01] t0)).alloc (.cells #[x10, x11] t1)).alloc (.cells #[x20, x21] t2)).heap.size (((w.alloc (.cells #[x00, x01] t0)).alloc (.cells #[x10, x11] t1)).alloc (.cells #[x20, x21] t2)) ((((w.alloc (.cells #[x00, x01] t0)).alloc (.cells #[x10, x11] t1)).alloc (.cells #[x20, x21] t2)).alloc (.cells #[x30, x31, x32, x33] t3)) := (Below.refl _ _).alloc (Nat.le_refl _) _
  have h3 := b4_new (((w.alloc (.cells #[x00, x01] t0)).alloc (.cells #[x10, x11] t1)).alloc (.cells #[x20, x21] t2)) x30 x31 x32 x33 t3
  rw [World.size_alloc, World.size_alloc, World.size_alloc] at h3
  exact ⟨_, rfl, also (also (also (e0) e1) e2) e3, (((h0.on e1).on e2).on e3), ((h1.on e2).on e3), (h2.on e3), h3, by simp⟩
set_option maxRecDepth 100000 in
set_option maxHeartbeats 8000000 in
theorem rcWeight (s1 : Int) (d1 : Option Addr) (l1 c1 : Nat) (s2 : Int) (d2 : Option Addr) (l2 c2 : Nat) (s3 : Int) (d3 : Option Addr) (l3 c3 : Nat) (X Y Z : Int) (w : World) (r1 : RN w s1 d1 l1 c1 X) (r2 : RN w s2 d2 l2 c2 Y) (r3 : RN w s3 d3 l3 c3 Z) (qX : X.natAbs ≤ 1000000000000000000000000000000) (qY : Y.natAbs ≤ 1000000000000000000000000000000) (qZ : Z.natAbs ≤ 1000000000000000000000000000000) {z : Int} (hz : z = wgt X Y Z) :
    Calls Tryz.prog 29 #[.agg #[.int .i64 s1, .slice d1 l1 c1], .agg #[.int .i64 s2, .slice d2 l2 c2], .agg #[.int .i64 s3, .slice d3 l3 c3]] w (GotR w (fun _ => True) z) := by
  have FX : Hid _ := few_big (z := X) (by omega)
  have FY : Hid _ := few_big (z := Y) (by omega)
  have FZ : Hid _ := few_big (z := Z) (by omega)
  obtain ⟨e, he⟩ : ∃ z : Int, z = Y + Z := ⟨_, rfl⟩
  have Ee : Hid _ := he
  have qe : e.natAbs ≤ 2000000000000000000000000000000 := by rw [he]; omega
  have Fe : Hid _ := few_big (z := e) (by omega)
  obtain ⟨g, hg⟩ : ∃ z : Int, z = e - X := ⟨_, rfl⟩
  have Eg : Hid _ := hg
  have qg : g.natAbs ≤ 3000000000000000000000000000000 := by rw [hg]; omega
  have Fg : Hid _ := few_big (z := g) (by omega)
  have Ez : Hid (z = X * g) := by unfold Hid; rw [hz, hg, he]; rfl
  clear hz he hg qe qg qX qY qZ
  obtain ⟨W, hW, bW, x_a, x_b, x_c, x_r, sW⟩ := bs_2222 w (.int .i64 s1) (.slice d1 l1 c1) (.int .i64 s2) (.slice d2 l2 c2) (.int .i64 s3) (.slice d3 l3 c3) (.int .i64 0) (.slice none 0 0) 39 39 39 39
  have zbW := bW.size
  replace r1 := r1.below bW
  replace r2 := r2.below bW
  replace r3 := r3.below bW
  have BB := bW
  go_enter Tryz.func29, Tryz.ntmps29
  go_wp2
  rw [← hW]
  clear hW
  have dd1 : Below W.heap.size W W.drew := (Below.refl _ _).drew
  have zdd1 := dd1.size
  replace r1 := r1.below dd1
  replace r2 := r2.below dd1
  replace r3 := r3.below dd1
  replace BB := also BB dd1
  replace x_a := x_a.on dd1
  replace x_b := x_b.on dd1
  replace x_c := x_c.on dd1
  replace x_r := x_r.on dd1
  refine wp_region_held_drew (S := (fun w' => w'.cell? ⟨w.heap.size, 0, none⟩ = some (.int .i64 s1) ∧ w'.cell? ⟨w.heap.size, 1, none⟩ = some (.slice d1 l1 c1) ∧ w'.cell? ⟨w.heap.size + 1, 0, none⟩ = some (.int .i64 s2) ∧ w'.cell? ⟨w.heap.size + 1, 1, none⟩ = some (.slice d2 l2 c2) ∧ w'.cell? ⟨w.heap.size + 1 + 1, 0, none⟩ = some (.int .i64 s3) ∧ w'.cell? ⟨w.heap.size + 1 + 1, 1, none⟩ = some (.slice d3 l3 c3) ∧ Below w.heap.size w w')) (by kernel_rfl) ?_ (fun hHeld => ?_)
  · exact ⟨x_a.c0, x_a.c1, x_b.c0, x_b.c1, x_c.c0, x_c.c1, BB⟩
  refine take_yes (i := 0) (v := ?vs0) rfl (by kernel_rfl) (by kernel_rfl) (by kernel_rfl) (fun _ _ _ h => h) (by rfl) (by assumption) ?hys0 ?rests0
  case hys0 => (intro w hSw; (try dsimp only at hSw); first | (go_simp; done) | (go_simp; with_reducible rfl))
  simp only [Act.put, List.setIfInBounds_toArray, List.set_cons_zero, List.set_cons_succ]
  refine take_yes (i := 1) (v := ?vs1) rfl (by kernel_rfl) (by kernel_rfl) (by kernel_rfl) (fun _ _ _ h => h) (by rfl) (by assumption) ?hys1 ?rests1
  case hys1 => (intro w hSw; (try dsimp only at hSw); first | (go_simp; done) | (go_simp; with_reducible rfl))
  simp only [Act.put, List.setIfInBounds_toArray, List.set_cons_zero, List.set_cons_succ]
  refine take_yes (i := 2) (v := ?vs2) rfl (by kernel_rfl) (by kernel_rfl) (by kernel_rfl) (fun _ _ _ h => h) (by rfl) (by assumption) ?hys2 ?rests2
  case hys2 => (intro w hSw; (try dsimp only at hSw); first | (go_simp; done) | (go_simp; with_reducible rfl))
  simp only [Act.put, List.setIfInBounds_toArray, List.set_cons_zero, List.set_cons_succ]
  refine take_yes (i := 4) (v := ?vs4) rfl (by kernel_rfl) (by kernel_rfl) (by kernel_rfl) (fun _ _ _ h => h) (by rfl) (by assumption) ?hys4 ?rests4
  case hys4 => (intro w hSw; (try dsimp only at hSw); first | (go_simp; done) | (go_simp; with_reducible rfl))
  simp only [Act.put, List.setIfInBounds_toArray, List.set_cons_zero, List.set_cons_succ]
  refine take_call (i := 3) rfl (by kernel_rfl) (fun Kc hK => ?_)
  go_simp
  (go_at_call 47; refine (rwAdd s2 s3 d2 d3 l2 c2 l3 c3 Y Z e _ r2 r3 FY.out FZ.out Ee.out).mono ?_; rintro e w1 ⟨s4, d4, l4, c4, rfl, r4, f4, bw1⟩)
  refine hK.out _ _ ?_ (fun hHeld => ?_)
  · exact ⟨cell_on bw1 hHeld.1, cell_on bw1 hHeld.2.1, cell_on bw1 hHeld.2.2.1, cell_on bw1 hHeld.2.2.2.1, cell_on bw1 hHeld.2.2.2.2.1, cell_on bw1 hHeld.2.2.2.2.2.1, also hHeld.2.2.2.2.2.2 bw1⟩
  clear hK Kc
  have zbw1 := bw1.size
  replace r1 := r1.below bw1
  replace r2 := r2.below bw1
  replace r3 := r3.below bw1
  replace BB := also BB bw1
  replace x_a := x_a.on bw1
  replace x_b := x_b.on bw1
  replace x_c := x_c.on bw1
  replace x_r := x_r.on bw1
  refine take_call (i := 5) rfl (by kernel_rfl) (fun Kc hK => ?_)
  go_simp
  (go_at_call 64; refine (rwSub s4 s1 d4 d1 l4 c4 l1 c1 e X g _ r4 r1 Fe.out FX.out Eg.out).mono ?_; rintro e w2 ⟨s5, d5, l5, c5, rfl, r5, f5, bw2⟩)
  refine hK.out _ _ ?_ (fun hHeld => ?_)
  · exact ⟨cell_on bw2 hHeld.1, cell_on bw2 hHeld.2.1, cell_on bw2 hHeld.2.2.1, cell_on bw2 hHeld.2.2.2.1, cell_on bw2 hHeld.2.2.2.2.1, cell_on bw2 hHeld.2.2.2.2.2.1, also hHeld.2.2.2.2.2.2 bw2⟩
  clear hK Kc
  have zbw2 := bw2.size
  replace r1 := r1.below bw2
  replace r2 := r2.below bw2
  replace r3 := r3.below bw2
  replace BB := also BB bw2
  replace x_a := x_a.on bw2
  replace x_b := x_b.on bw2
  replace x_c := x_c.on bw2
  replace x_r := x_r.on bw2
  replace r4 := r4.below bw2
  refine take_call (i := 6) rfl (by kernel_rfl) (fun Kc hK => ?_)
  go_simp
  (go_at_call 48; refine (rwMul s1 s5 d1 d5 l1 c1 l5 c5 X g z _ r1 r5 FX.out Fg.out Ez.out).mono ?_; rintro e w3 ⟨s6, d6, l6, c6, rfl, r6, f6, bw3⟩)
  refine hK.out _ _ ?_ (fun hHeld => ?_)
  · exact ⟨cell_on bw3 hHeld.1, cell_on bw3 hHeld.2.1, cell_on bw3 hHeld.2.2.1, cell_on bw3 hHeld.2.2.2.1, cell_on bw3 hHeld.2.2.2.2.1, cell_on bw3 hHeld.2.2.2.2.2.1, also hHeld.2.2.2.2.2.2 bw3⟩
  clear hK Kc
  have zbw3 := bw3.size
  replace r1 := r1.below bw3
  replace r2 := r2.below bw3
  replace r3 := r3.below bw3
  replace BB := also BB bw3
  replace x_a := x_a.on bw3
  replace x_b := x_b.on bw3
  replace x_c := x_c.on bw3
  replace x_r := x_r.on bw3
  replace r4 := r4.below bw3
  replace r5 := r5.below bw3
  have ⟨x_r_0, x_r_1, x_r_2, x_r_3⟩ := x_r
  refine take_call (i := 7) rfl (by kernel_rfl) (fun Kc hK => ?_)
  go_simp
  refine hK.out _ _ ?_ (fun hHeld => ?_)
  · first | exact ⟨cell_put2 hHeld.1 (by omega) _ _, cell_put2 hHeld.2.1 (by omega) _ _, cell_put2 hHeld.2.2.1 (by omega) _ _, cell_put2 hHeld.2.2.2.1 (by omega) _ _, cell_put2 hHeld.2.2.2.2.1 (by omega) _ _, cell_put2 hHeld.2.2.2.2.2.1 (by omega) _ _, below_put2 hHeld.2.2.2.2.2.2 (by omega) _ _⟩ | exact ⟨x_a.c0, x_a.c1, x_b.c0, x_b.c1, x_c.c0, x_c.c1, BB⟩
  clear hK Kc
  refine wpAnyH_done (by kernel_rfl) ?_ _
  go_wp2
  exact bodyPost_ret (v := .agg #[.int .i64 s6, .slice d6 l6 c6]) (by simp [results, Tryz.results29, go_sem, *]) rfl (endR _ (by omega) BB r6 (f6 _ (by omega) trivial) (fun j hj _ => f6 j (by omega) trivial) _ _)
def SpM (B : Nat) (va vb vc xa xb xc xs xt : Int) : Nat → Value → (World → Prop) → (Nat → Prop) → Prop
  | 0 => RNOs B va
  | 1 => RNOs B xa
  | 2 => RNOs B vb
  | 3 => RNOs B xb
  | 4 => RNOs B xs
  | 5 => RNOs B vc
  | 6 => RNOs B xc
  | 7 => RNOs B xt
  | _ => ValIs undef
theorem SpM_good (B : Nat) (va vb vc xa xb xc xs xt : Int) : GoodSp (SpM B va vb vc xa xb xc xs xt) := fun j x R A h => match j with
  | 0 => rnOs_good h
  | 1 => rnOs_good h
  | 2 => rnOs_good h
  | 3 => rnOs_good h
  | 4 => rnOs_good h
  | 5 => rnOs_good h
  | 6 => rnOs_good h
  | 7 => rnOs_good h
  | k + 8 => valIs_good h
def SpMZ : Nat → List Value
  | 0 => [.int .i64 0, .slice none 0 0]
  | _ => []
theorem fuel_SpM_b0 {bD eD : Nat → Bool} {f : Nat} (hf : f = 1 + (nb (bD 0) + nb (bD 1) + nb (bD 2) + nb (bD 3) + nb (bD 4) + nb (bD 5) + nb (bD 6) + nb (bD 7) + nb (eD 0))) (h : bD 0 = false) : f - 1 = 1 + (nb (upd bD 0 true 0) + nb (upd bD 0 true 1) + nb (upd bD 0 true 2) + nb (upd bD 0 true 3) + nb (upd bD 0 true 4) + nb (upd bD 0 true 5) + nb (upd bD 0 true 6) + nb (upd bD 0 true 7) + nb (eD 0)) := by
  have h1 : nb (bD 0) = 1 := by rw [h]; rfl
  have h2 : nb (upd bD 0 true 0) = 0 := rfl
  have q1 : nb (upd bD 0 true 1) = nb (bD 1) := rfl
  have q2 : nb (upd bD 0 true 2) = nb (bD 2) := rfl
  have q3 : nb (upd bD 0 true 3) = nb (bD 3) := rfl
  have q4 : nb (upd bD 0 true 4) = nb (bD 4) := rfl
  have q5 : nb (upd bD 0 true 5) = nb (bD 5) := rfl
  have q6 : nb (upd bD 0 true 6) = nb (bD 6) := rfl
  have q7 : nb (upd bD 0 true 7) = nb (bD 7) := rfl
  omega
theorem fuel_SpM_b1 {bD eD : Nat → Bool} {f : Nat} (hf : f = 1 + (nb (bD 0) + nb (bD 1) + nb (bD 2) + nb (bD 3) + nb (bD 4) + nb (bD 5) + nb (bD 6) + nb (bD 7) + nb (eD 0))) (h : bD 1 = false) : f - 1 = 1 + (nb (upd bD 1 true 0) + nb (upd bD 1 true 1) + nb (upd bD 1 true 2) + nb (upd bD 1 true 3) + nb (upd bD 1 true 4) + nb (upd bD 1 true 5) + nb (upd bD 1 true 6) + nb (upd bD 1 true 7) + nb (eD 0)) := by
  have h1 : nb (bD 1) = 1 := by rw [h]; rfl
  have h2 : nb (upd bD 1 true 1) = 0 := rfl
  have q0 : nb (upd bD 1 true 0) = nb (bD 0) := rfl
  have q2 : nb (upd bD 1 true 2) = nb (bD 2) := rfl
  have q3 : nb (upd bD 1 true 3) = nb (bD 3) := rfl
  have q4 : nb (upd bD 1 true 4) = nb (bD 4) := rfl
  have q5 : nb (upd bD 1 true 5) = nb (bD 5) := rfl
  have q6 : nb (upd bD 1 true 6) = nb (bD 6) := rfl
  have q7 : nb (upd bD 1 true 7) = nb (bD 7) := rfl
  omega
theorem fuel_SpM_b2 {bD eD : Nat → Bool} {f : Nat} (hf : f = 1 + (nb (bD 0) + nb (bD 1) + nb (bD 2) + nb (bD 3) + nb (bD 4) + nb (bD 5) + nb (bD 6) + nb (bD 7) + nb (eD 0))) (h : bD 2 = false) : f - 1 = 1 + (nb (upd bD 2 true 0) + nb (upd bD 2 true 1) + nb (upd bD 2 true 2) + nb (upd bD 2 true 3) + nb (upd bD 2 true 4) + nb (upd bD 2 true 5) + nb (upd bD 2 true 6) + nb (upd bD 2 true 7) + nb (eD 0)) := by
  have h1 : nb (bD 2) = 1 := by rw [h]; rfl
  have h2 : nb (upd bD 2 true 2) = 0 := rfl
  have q0 : nb (upd bD 2 true 0) = nb (bD 0) := rfl
  have q1 : nb (upd bD 2 true 1) = nb (bD 1) := rfl
  have q3 : nb (upd bD 2 true 3) = nb (bD 3) := rfl
  have q4 : nb (upd bD 2 true 4) = nb (bD 4) := rfl
  have q5 : nb (upd bD 2 true 5) = nb (bD 5) := rfl
  have q6 : nb (upd bD 2 true 6) = nb (bD 6) := rfl
  have q7 : nb (upd bD 2 true 7) = nb (bD 7) := rfl
  omega
theorem fuel_SpM_b3 {bD eD : Nat → Bool} {f : Nat} (hf : f = 1 + (nb (bD 0) + nb (bD 1) + nb (bD 2) + nb (bD 3) + nb (bD 4) + nb (bD 5) + nb (bD 6) + nb (bD 7) + nb (eD 0))) (h : bD 3 = false) : f - 1 = 1 + (nb (upd bD 3 true 0) + nb (upd bD 3 true 1) + nb (upd bD 3 true 2) + nb (upd bD 3 true 3) + nb (upd bD 3 true 4) + nb (upd bD 3 true 5) + nb (upd bD 3 true 6) + nb (upd bD 3 true 7) + nb (eD 0)) := by
  have h1 : nb (bD 3) = 1 := by rw [h]; rfl
  have h2 : nb (upd bD 3 true 3) = 0 := rfl
  have q0 : nb (upd bD 3 true 0) = nb (bD 0) := rfl
  have q1 : nb (upd bD 3 true 1) = nb (bD 1) := rfl
  have q2 : nb (upd bD 3 true 2) = nb (bD 2) := rfl
  have q4 : nb (upd bD 3 true 4) = nb (bD 4) := rfl
  have q5 : nb (upd bD 3 true 5) = nb (bD 5) := rfl
  have q6 : nb (upd bD 3 true 6) = nb (bD 6) := rfl
  have q7 : nb (upd bD 3 true 7) = nb (bD 7) := rfl
  omega
theorem fuel_SpM_b4 {bD eD : Nat → Bool} {f : Nat} (hf : f = 1 + (nb (bD 0) + nb (bD 1) + nb (bD 2) + nb (bD 3) + nb (bD 4) + nb (bD 5) + nb (bD 6) + nb (bD 7) + nb (eD 0))) (h : bD 4 = false) : f - 1 = 1 + (nb (upd bD 4 true 0) + nb (upd bD 4 true 1) + nb (upd bD 4 true 2) + nb (upd bD 4 true 3) + nb (upd bD 4 true 4) + nb (upd bD 4 true 5) + nb (upd bD 4 true 6) + nb (upd bD 4 true 7) + nb (eD 0)) := by
  have h1 : nb (bD 4) = 1 := by rw [h]; rfl
  have h2 : nb (upd bD 4 true 4) = 0 := rfl
  have q0 : nb (upd bD 4 true 0) = nb (bD 0) := rfl
  have q1 : nb (upd bD 4 true 1) = nb (bD 1) := rfl
  have q2 : nb (upd bD 4 true 2) = nb (bD 2) := rfl
  have q3 : nb (upd bD 4 true 3) = nb (bD 3) := rfl
  have q5 : nb (upd bD 4 true 5) = nb (bD 5) := rfl
  have q6 : nb (upd bD 4 true 6) = nb (bD 6) := rfl
  have q7 : nb (upd bD 4 true 7) = nb (bD 7) := rfl
  omega
theorem fuel_SpM_b5 {bD eD : Nat → Bool} {f : Nat} (hf : f = 1 + (nb (bD 0) + nb (bD 1) + nb (bD 2) + nb (bD 3) + nb (bD 4) + nb (bD 5) + nb (bD 6) + nb (bD 7) + nb (eD 0))) (h : bD 5 = false) : f - 1 = 1 + (nb (upd bD 5 true 0) + nb (upd bD 5 true 1) + nb (upd bD 5 true 2) + nb (upd bD 5 true 3) + nb (upd bD 5 true 4) + nb (upd bD 5 true 5) + nb (upd bD 5 true 6) + nb (upd bD 5 true 7) + nb (eD 0)) := by
  have h1 : nb (bD 5) = 1 := by rw [h]; rfl
  have h2 : nb (upd bD 5 true 5) = 0 := rfl
  have q0 : nb (upd bD 5 true 0) = nb (bD 0) := rfl
  have q1 : nb (upd bD 5 true 1) = nb (bD 1) := rfl
  have q2 : nb (upd bD 5 true 2) = nb (bD 2) := rfl
  have q3 : nb (upd bD 5 true 3) = nb (bD 3) := rfl
  have q4 : nb (upd bD 5 true 4) = nb (bD 4) := rfl
  have q6 : nb (upd bD 5 true 6) = nb (bD 6) := rfl
  have q7 : nb (upd bD 5 true 7) = nb (bD 7) := rfl
  omega
theorem fuel_SpM_b6 {bD eD : Nat → Bool} {f : Nat} (hf : f = 1 + (nb (bD 0) + nb (bD 1) + nb (bD 2) + nb (bD 3) + nb (bD 4) + nb (bD 5) + nb (bD 6) + nb (bD 7) + nb (eD 0))) (h : bD 6 = false) : f - 1 = 1 + (nb (upd bD 6 true 0) + nb (upd bD 6 true 1) + nb (upd bD 6 true 2) + nb (upd bD 6 true 3) + nb (upd bD 6 true 4) + nb (upd bD 6 true 5) + nb (upd bD 6 true 6) + nb (upd bD 6 true 7) + nb (eD 0)) := by
  have h1 : nb (bD 6) = 1 := by rw [h]; rfl
  have h2 : nb (upd bD 6 true 6) = 0 := rfl
  have q0 : nb (upd bD 6 true 0) = nb (bD 0) := rfl
  have q1 : nb (upd bD 6 true 1) = nb (bD 1) := rfl
  have q2 : nb (upd bD 6 true 2) = nb (bD 2) := rfl
  have q3 : nb (upd bD 6 true 3) = nb (bD 3) := rfl
  have q4 : nb (upd bD 6 true 4) = nb (bD 4) := rfl
  have q5 : nb (upd bD 6 true 5) = nb (bD 5) := rfl
  have q7 : nb (upd bD 6 true 7) = nb (bD 7) := rfl
  omega
theorem fuel_SpM_b7 {bD eD : Nat → Bool} {f : Nat} (hf : f = 1 + (nb (bD 0) + nb (bD 1) + nb (bD 2) + nb (bD 3) + nb (bD 4) + nb (bD 5) + nb (bD 6) + nb (bD 7) + nb (eD 0))) (h : bD 7 = false) : f - 1 = 1 + (nb (upd bD 7 true 0) + nb (upd bD 7 true 1) + nb (upd bD 7 true 2) + nb (upd bD 7 true 3) + nb (upd bD 7 true 4) + nb (upd bD 7 true 5) + nb (upd bD 7 true 6) + nb (upd bD 7 true 7) + nb (eD 0)) := by
  have h1 : nb (bD 7) = 1 := by rw [h]; rfl
  have h2 : nb (upd bD 7 true 7) = 0 := rfl
  have q0 : nb (upd bD 7 true 0) = nb (bD 0) := rfl
  have q1 : nb (upd bD 7 true 1) = nb (bD 1) := rfl
  have q2 : nb (upd bD 7 true 2) = nb (bD 2) := rfl
  have q3 : nb (upd bD 7 true 3) = nb (bD 3) := rfl
  have q4 : nb (upd bD 7 true 4) = nb (bD 4) := rfl
  have q5 : nb (upd bD 7 true 5) = nb (bD 5) := rfl
  have q6 : nb (upd bD 7 true 6) = nb (bD 6) := rfl
  omega
theorem fuel_SpM_e0 {bD eD : Nat → Bool} {f : Nat} (hf : f = 1 + (nb (bD 0) + nb (bD 1) + nb (bD 2) + nb (bD 3) + nb (bD 4) + nb (bD 5) + nb (bD 6) + nb (bD 7) + nb (eD 0))) (h : eD 0 = false) : f - 1 = 1 + (nb (bD 0) + nb (bD 1) + nb (bD 2) + nb (bD 3) + nb (bD 4) + nb (bD 5) + nb (bD 6) + nb (bD 7) + nb (upd eD 0 true 0)) := by
  have h1 : nb (eD 0) = 1 := by rw [h]; rfl
  have h2 : nb (upd eD 0 true 0) = 0 := rfl
  omega
set_option maxRecDepth 100000 in
set_option maxHeartbeats 8000000 in
theorem rcMean (va vb vc : Int) (s1 : Int) (d1 : Option Addr) (l1 c1 : Nat) (s2 : Int) (d2 : Option Addr) (l2 c2 : Nat) (s3 : Int) (d3 : Option Addr) (l3 c3 : Nat) (Xa Ya Za : Int) (w : World) (r1 : RN w s1 d1 l1 c1 Xa) (r2 : RN w s2 d2 l2 c2 Ya) (r3 : RN w s3 d3 l3 c3 Za) (Rva : Hid (R64 va)) (Rvb : Hid (R64 vb)) (Rvc : Hid (R64 vc)) (qX : Xa.natAbs ≤ 100000000000000000000000000000000000000000000000000000000000000) (qY : Ya.natAbs ≤ 100000000000000000000000000000000000000000000000000000000000000) (qZ : Za.natAbs ≤ 100000000000000000000000000000000000000000000000000000000000000) (h0 : Xa + Ya + Za ≠ 0) (N : Int) (D : Nat) (hN : N = (va * Xa + vb * Ya + vc * Za) * (Xa + Ya + Za).sign) (hD : D = (Xa + Ya + Za).natAbs) :
    Calls Tryz.prog 31 #[.int .i64 va, .int .i64 vb, .int .i64 vc, .agg #[.int .i64 s1, .slice d1 l1 c1], .agg #[.int .i64 s2, .slice d2 l2 c2], .agg #[.int .i64 s3, .slice d3 l3 c3]] w (GotRQ w (fun _ => False) 10 N D) := by
  have qva : va.natAbs ≤ 100000000000000000000 := by have := Rva.out; unfold R64 at this; omega
  have Fva : Hid _ := few_big (z := va) (by omega)
  have qvb : vb.natAbs ≤ 100000000000000000000 := by have := Rvb.out; unfold R64 at this; omega
  have Fvb : Hid _ := few_big (z := vb) (by omega)
  have qvc : vc.natAbs ≤ 100000000000000000000 := by have := Rvc.out; unfold R64 at this; omega
  have Fvc : Hid _ := few_big (z := vc) (by omega)
  have FX : Hid _ := few_big (z := Xa) (by omega)
  have FY : Hid _ := few_big (z := Ya) (by omega)
  have FZ : Hid _ := few_big (z := Za) (by omega)
  obtain ⟨xa, hxa⟩ : ∃ z : Int, z = va * Xa := ⟨_, rfl⟩
  have Exa : Hid _ := hxa
  have qxa := prod_abs qva qX
  rw [← hxa] at qxa hN
  have Fxa : Hid _ := few_big (z := xa) (by omega)
  clear hxa
  obtain ⟨xb, hxb⟩ : ∃ z : Int, z = vb * Ya := ⟨_, rfl⟩
  have Exb : Hid _ := hxb
  have qxb := prod_abs qvb qY
  rw [← hxb] at qxb hN
  have Fxb : Hid _ := few_big (z := xb) (by omega)
  clear hxb
  obtain ⟨xc, hxc⟩ : ∃ z : Int, z = vc * Za := ⟨_, rfl⟩
  have Exc : Hid _ := hxc
  have qxc := prod_abs qvc qZ
  rw [← hxc] at qxc hN
  have Fxc : Hid _ := few_big (z := xc) (by omega)
  clear hxc
  obtain ⟨xs, hxs⟩ : ∃ z : Int, z = xa + xb := ⟨_, rfl⟩
  have Exs : Hid _ := hxs
  have Fxs : Hid _ := few_big (z := xs) (by omega)
  obtain ⟨xt, hxt⟩ : ∃ z : Int, z = xs + xc := ⟨_, rfl⟩
  have Ext : Hid _ := hxt
  have Fxt : Hid _ := few_big (z := xt) (by omega)
  obtain ⟨xu, hxu⟩ : ∃ z : Int, z = Xa + Ya := ⟨_, rfl⟩
  have Exu : Hid _ := hxu
  have Fxu : Hid _ := few_big (z := xu) (by omega)
  obtain ⟨xv, hxv⟩ : ∃ z : Int, z = xu + Za := ⟨_, rfl⟩
  have Exv : Hid _ := hxv
  have Fxv : Hid _ := few_big (z := xv) (by omega)
  rw [← hxs, ← hxt, ← hxu, ← hxv] at hN
  rw [← hxu, ← hxv] at hD h0
  have SN : Hid (xt.natAbs < 4294967296 ^ 10) := Nat.lt_of_le_of_lt (show xt.natAbs ≤ 1000000000000000000000000000000000000000000000000000000000000000000000000000000000000000000 by omega) (by decide)
  have SD : Hid (xv.natAbs < 4294967296 ^ 10) := Nat.lt_of_le_of_lt (show xv.natAbs ≤ 1000000000000000000000000000000000000000000000000000000000000000000000000000000000000000000 by omega) (by decide)
  have HN : Hid _ := hN
  have HD : Hid _ := hD
  have H0 : Hid _ := h0
  clear hN hD h0 hxs hxt hxu hxv qva qvb qvc qX qY qZ qxa qxb qxc
  have m1 : NA (w.heap.size + 1 + 1 + 1) d1 l1 := r1.hd.sl.na (by omega)
  have m2 : NA (w.heap.size + 1 + 1 + 1) d2 l2 := r2.hd.sl.na (by omega)
  have m3 : NA (w.heap.size + 1 + 1 + 1) d3 l3 := r3.hd.sl.na (by omega)
  obtain ⟨W, hW, bW, x_a, x_b, x_c, x_z, sW⟩ := bs_2224 w (.int .i64 s1) (.slice d1 l1 c1) (.int .i64 s2) (.slice d2 l2 c2) (.int .i64 s3) (.slice d3 l3 c3) (.int .i64 0) (.slice none 0 0) (.int .i64 0) (.slice none 0 0) 39 39 39 41
  have zbW := bW.size
  replace r1 := r1.below bW
  replace r2 := r2.below bW
  replace r3 := r3.below bW
  have BB := bW
  go_enter Tryz.func31, Tryz.ntmps31
  go_wp2
  rw [← hW]
  clear hW
  have r1U := r1
  have r2U := r2
  have r3U := r3
  obtain ⟨QQ, hQQ⟩ : ∃ QQ : Exit → Act → World → Prop, QQ = fun e act wr => e = .normal ∧ ∃ (pma0 : Nat) (s11 : Int) (d11 : Option Addr) (l11 c11 : Nat) (s12 : Int) (d12 : Option Addr) (l12 c12 : Nat) (s13 : Int) (d13 : Option Addr) (l13 c13 : Nat) (s14 : Int) (d14 : Option Addr) (l14 c14 : Nat) (s15 : Int) (d15 : Option Addr) (l15 c15 : Nat) (s16 : Int) (d16 : Option Addr) (l16 c16 : Nat) (s17 : Int) (d17 : Option Addr) (l17 c17 : Nat) (s18 : Int) (d18 : Option Addr) (l18 c18 : Nat), act = ⟨#[.int .i64 va, .int .i64 vb, .int .i64 vc, .agg #[.int .i64 s1, .slice d1 l1 c1], .agg #[.int .i64 s2, .slice d2 l2 c2], .agg #[.int .i64 s3, .slice d3 l3 c3], undef, undef, undef, .pointer (some ⟨w.heap.size, 0, none⟩), .pointer (some ⟨w.heap.size + 1, 0, none⟩), .pointer (some ⟨w.heap.size + 1 + 1, 0, none⟩), .pointer (some ⟨w.heap.size + 1 + 1 + 1, 0, none⟩), .pointer (some ⟨pma0, 0, none⟩), .int .i64 va, .agg #[.int .i64 s11, .slice d11 l11 c11], .agg #[.int .i64 s1, .slice d1 l1 c1], .agg #[.int .i64 s12, .slice d12 l12 c12], .int .i64 vb, .agg #[.int .i64 s13, .slice d13 l13 c13], .agg #[.int .i64 s2, .slice d2 l2 c2], .agg #[.int .i64 s14, .slice d14 l14 c14], .agg #[.int .i64 s15, .slice d15 l15 c15], .int .i64 vc, .agg #[.int .i64 s16, .slice d16 l16 c16], .agg #[.int .i64 s3, .slice d3 l3 c3], .agg #[.int .i64 s17, .slice d17 l17 c17], .agg #[.int .i64 s18, .slice d18 l18 c18], undef, undef, undef, undef, undef, undef, undef], []⟩ ∧ RN wr s1 d1 l1 c1 Xa ∧ RN wr s2 d2 l2 c2 Ya ∧ RN wr s3 d3 l3 c3 Za ∧ RN wr s11 d11 l11 c11 va ∧ RN wr s12 d12 l12 c12 xa ∧ RN wr s13 d13 l13 c13 vb ∧ RN wr s14 d14 l14 c14 xb ∧ RN wr s15 d15 l15 c15 xs ∧ RN wr s16 d16 l16 c16 vc ∧ RN wr s17 d17 l17 c17 xc ∧ RN wr s18 d18 l18 c18 xt ∧ Bx wr (w.heap.size) (.int .i64 s1) (.slice d1 l1 c1) ∧ Bx wr (w.heap.size + 1) (.int .i64 s2) (.slice d2 l2 c2) ∧ Bx wr (w.heap.size + 1 + 1) (.int .i64 s3) (.slice d3 l3 c3) ∧ B4 wr (w.heap.size + 1 + 1 + 1) (.int .i64 0) (.slice none 0 0) (.int .i64 0) (.slice none 0 0) ∧ Bx wr pma0 (.int .i64 s18) (.slice d18 l18 c18) ∧ Below w.heap.size w wr ∧ W.heap.size ≤ wr.heap.size ∧ (W.heap.size ≤ pma0 ∧ pma0 < wr.heap.size) ∧ (∀ k, k < W.heap.size → NA k d11 l11) ∧ (∀ k, k < W.heap.size → NA k d12 l12) ∧ (∀ k, k < W.heap.size → NA k d13 l13) ∧ (∀ k, k < W.heap.size → NA k d14 l14) ∧ (∀ k, k < W.heap.size → NA k d15 l15) ∧ (∀ k, k < W.heap.size → NA k d16 l16) ∧ (∀ k, k < W.heap.size → NA k d17 l17) ∧ (∀ k, k < W.heap.size → NA k d18 l18) := ⟨_, rfl⟩
  have HQQ : Hid _ := hQQ
  clear hQQ
  refine wp_mono (Q := QQ) ?_ ?_
  · refine wp_region_held_drew (S := (fun w' => w'.cell? ⟨w.heap.size, 0, none⟩ = some (.int .i64 s1) ∧ w'.cell? ⟨w.heap.size, 1, none⟩ = some (.slice d1 l1 c1) ∧ w'.cell? ⟨w.heap.size + 1, 0, none⟩ = some (.int .i64 s2) ∧ w'.cell? ⟨w.heap.size + 1, 1, none⟩ = some (.slice d2 l2 c2) ∧ w'.cell? ⟨w.heap.size + 1 + 1, 0, none⟩ = some (.int .i64 s3) ∧ w'.cell? ⟨w.heap.size + 1 + 1, 1, none⟩ = some (.slice d3 l3 c3) ∧ Below w.heap.size w w')) (by kernel_rfl) ?_ (fun hHeld => ?_)
    · exact ⟨x_a.c0, x_a.c1, x_b.c0, x_b.c1, x_c.c0, x_c.c1, BB.drew⟩
    refine take_yes (i := 0) (v := ?vma0x1) rfl (by kernel_rfl) (by kernel_rfl) (by kernel_rfl) (fun _ _ _ h => by rw [HQQ.out] at h; exact Exit.noConfusion h.1) (by rfl) (by assumption) ?hyma0x1 ?restma0x1
    case hyma0x1 => (intro w hSw; (try dsimp only at hSw); first | (go_simp; done) | (go_simp; with_reducible rfl))
    simp only [Act.put, List.setIfInBounds_toArray, List.set_cons_zero, List.set_cons_succ]
    refine take_yes (i := 2) (v := ?vma2x2) rfl (by kernel_rfl) (by kernel_rfl) (by kernel_rfl) (fun _ _ _ h => by rw [HQQ.out] at h; exact Exit.noConfusion h.1) (by rfl) (by assumption) ?hyma2x2 ?restma2x2
    case hyma2x2 => (intro w hSw; (try dsimp only at hSw); first | (go_simp; done) | (go_simp; with_reducible rfl))
    simp only [Act.put, List.setIfInBounds_toArray, List.set_cons_zero, List.set_cons_succ]
    refine take_yes (i := 4) (v := ?vma4x3) rfl (by kernel_rfl) (by kernel_rfl) (by kernel_rfl) (fun _ _ _ h => by rw [HQQ.out] at h; exact Exit.noConfusion h.1) (by rfl) (by assumption) ?hyma4x3 ?restma4x3
    case hyma4x3 => (intro w hSw; (try dsimp only at hSw); first | (go_simp; done) | (go_simp; with_reducible rfl))
    simp only [Act.put, List.setIfInBounds_toArray, List.set_cons_zero, List.set_cons_succ]
    refine take_yes (i := 6) (v := ?vma6x4) rfl (by kernel_rfl) (by kernel_rfl) (by kernel_rfl) (fun _ _ _ h => by rw [HQQ.out] at h; exact Exit.noConfusion h.1) (by rfl) (by assumption) ?hyma6x4 ?restma6x4
    case hyma6x4 => (intro w hSw; (try dsimp only at hSw); first | (go_simp; done) | (go_simp; with_reducible rfl))
    simp only [Act.put, List.setIfInBounds_toArray, List.set_cons_zero, List.set_cons_succ]
    refine take_yes (i := 9) (v := ?vma9x5) rfl (by kernel_rfl) (by kernel_rfl) (by kernel_rfl) (fun _ _ _ h => by rw [HQQ.out] at h; exact Exit.noConfusion h.1) (by rfl) (by assumption) ?hyma9x5 ?restma9x5
    case hyma9x5 => (intro w hSw; (try dsimp only at hSw); first | (go_simp; done) | (go_simp; with_reducible rfl))
    simp only [Act.put, List.setIfInBounds_toArray, List.set_cons_zero, List.set_cons_succ]
    refine take_yes (i := 11) (v := ?vma11x6) rfl (by kernel_rfl) (by kernel_rfl) (by kernel_rfl) (fun _ _ _ h => by rw [HQQ.out] at h; exact Exit.noConfusion h.1) (by rfl) (by assumption) ?hyma11x6 ?restma11x6
    case hyma11x6 => (intro w hSw; (try dsimp only at hSw); first | (go_simp; done) | (go_simp; with_reducible rfl))
    simp only [Act.put, List.setIfInBounds_toArray, List.set_cons_zero, List.set_cons_succ]
    clear hHeld
    obtain ⟨INV, hINV⟩ : ∃ INV : Nat → Array Bool → Act → World → Prop, INV = fun f L act wr => ∃ (bD eD : Nat → Bool) (pD : Nat → Nat) (RD : Nat → World → Prop) (AD : Nat → Nat → Prop) (uD vD : Nat → Value), f = 1 + (nb (bD 0) + nb (bD 1) + nb (bD 2) + nb (bD 3) + nb (bD 4) + nb (bD 5) + nb (bD 6) + nb (bD 7) + nb (eD 0)) ∧ L = #[true, bD 0, true, bD 1, true, bD 2, true, bD 3, bD 4, true, bD 5, true, bD 6, bD 7, eD 0, false] ∧ act = ⟨#[.int .i64 va, .int .i64 vb, .int .i64 vc, .agg #[.int .i64 s1, .slice d1 l1 c1], .agg #[.int .i64 s2, .slice d2 l2 c2], .agg #[.int .i64 s3, .slice d3 l3 c3], undef, undef, undef, .pointer (some ⟨w.heap.size, 0, none⟩), .pointer (some ⟨w.heap.size + 1, 0, none⟩), .pointer (some ⟨w.heap.size + 1 + 1, 0, none⟩), .pointer (some ⟨w.heap.size + 1 + 1 + 1, 0, none⟩), vD 0, .int .i64 va, uD 0, .agg #[.int .i64 s1, .slice d1 l1 c1], uD 1, .int .i64 vb, uD 2, .agg #[.int .i64 s2, .slice d2 l2 c2], uD 3, uD 4, .int .i64 vc, uD 5, .agg #[.int .i64 s3, .slice d3 l3 c3], uD 6, uD 7, undef, undef, undef, undef, undef, undef, undef], []⟩ ∧ (bD 1 = true → bD 0 = true) ∧ (bD 2 = true → bD 1 = true) ∧ (bD 3 = true → bD 2 = true) ∧ (bD 4 = true → bD 3 = true) ∧ (bD 5 = true → bD 4 = true) ∧ (bD 6 = true → bD 5 = true) ∧ (bD 7 = true → bD 6 = true) ∧ Mk W SpMZ (SpM W.heap.size va vb vc xa xb xc xs xt) bD eD pD RD AD uD vD wr := ⟨_, rfl⟩
    have HINV : Hid _ := hINV
    clear hINV
    refine phase INV ?stepma _ _ _ _ ?initma
    case initma => rw [HINV.out]; exact ⟨fun _ => false, fun _ => false, fun _ => 0, fun _ _ => True, fun _ _ => True, fun _ => undef, fun _ => undef, rfl, rfl, rfl, fun h => Bool.noConfusion h, fun h => Bool.noConfusion h, fun h => Bool.noConfusion h, fun h => Bool.noConfusion h, fun h => Bool.noConfusion h, fun h => Bool.noConfusion h, fun h => Bool.noConfusion h, Mk.start _ _ _ (Below.refl _ _).drew⟩
    intro f L act wr hinv
    rw [HINV.out] at hinv
    obtain ⟨bD, eD, pD, RD, AD, uD, vD, hf, rfl, rfl, ch0, ch1, ch2, ch3, ch4, ch5, ch6, hm⟩ := hinv
    by_cases hall : bD 7 = true ∧ eD 0 = true
    · refine Or.inl ?_
      obtain ⟨hb7, he0⟩ := hall
      have hb6 := ch6 hb7
      have hb5 := ch5 hb6
      have hb4 := ch4 hb5
      have hb3 := ch3 hb4
      have hb2 := ch2 hb3
      have hb1 := ch1 hb2
      have hb0 := ch0 hb1
      simp only [hb0, hb1, hb2, hb3, hb4, hb5, hb6, hb7, he0, nb] at hf
      subst hf
      rw [hb0, hb1, hb2, hb3, hb4, hb5, hb6, hb7, he0, hm.ptr 0 he0]
      obtain ⟨s11, d11, l11, c11, hu0, hR0, hA0⟩ : RNOs _ _ _ _ _ := hm.spec 0 hb0
      rw [hu0]
      have r11 : RN wr s11 d11 l11 c11 va := by have := hm.res 0 hb0; rw [hR0] at this; exact this.1
      have o11 : ∀ k, k < W.heap.size → NA k d11 l11 := by have := hm.res 0 hb0; rw [hR0] at this; exact this.2
      have n_r11_0_pma0 : NA (pD 0) d11 l11 := by have := hm.ap 0 0 he0 hb0; rw [hA0] at this; exact this
      obtain ⟨s12, d12, l12, c12, hu1, hR1, hA1⟩ : RNOs _ _ _ _ _ := hm.spec 1 hb1
      rw [hu1]
      have r12 : RN wr s12 d12 l12 c12 xa := by have := hm.res 1 hb1; rw [hR1] at this; exact this.1
      have o12 : ∀ k, k < W.heap.size → NA k d12 l12 := by have := hm.res 1 hb1; rw [hR1] at this; exact this.2
      have n_r12_0_pma0 : NA (pD 0) d12 l12 := by have := hm.ap 0 1 he0 hb1; rw [hA1] at this; exact this
      obtain ⟨s13, d13, l13, c13, hu2, hR2, hA2⟩ : RNOs _ _ _ _ _ := hm.spec 2 hb2
      rw [hu2]
      have r13 : RN wr s13 d13 l13 c13 vb := by have := hm.res 2 hb2; rw [hR2] at this; exact this.1
      have o13 : ∀ k, k < W.heap.size → NA k d13 l13 := by have := hm.res 2 hb2; rw [hR2] at this; exact this.2
      have n_r13_0_pma0 : NA (pD 0) d13 l13 := by have := hm.ap 0 2 he0 hb2; rw [hA2] at this; exact this
      obtain ⟨s14, d14, l14, c14, hu3, hR3, hA3⟩ : RNOs _ _ _ _ _ := hm.spec 3 hb3
      rw [hu3]
      have r14 : RN wr s14 d14 l14 c14 xb := by have := hm.res 3 hb3; rw [hR3] at this; exact this.1
      have o14 : ∀ k, k < W.heap.size → NA k d14 l14 := by have := hm.res 3 hb3; rw [hR3] at this; exact this.2
      have n_r14_0_pma0 : NA (pD 0) d14 l14 := by have := hm.ap 0 3 he0 hb3; rw [hA3] at this; exact this
      obtain ⟨s15, d15, l15, c15, hu4, hR4, hA4⟩ : RNOs _ _ _ _ _ := hm.spec 4 hb4
      rw [hu4]
      have r15 : RN wr s15 d15 l15 c15 xs := by have := hm.res 4 hb4; rw [hR4] at this; exact this.1
      have o15 : ∀ k, k < W.heap.size → NA k d15 l15 := by have := hm.res 4 hb4; rw [hR4] at this; exact this.2
      have n_r15_0_pma0 : NA (pD 0) d15 l15 := by have := hm.ap 0 4 he0 hb4; rw [hA4] at this; exact this
      obtain ⟨s16, d16, l16, c16, hu5, hR5, hA5⟩ : RNOs _ _ _ _ _ := hm.spec 5 hb5
      rw [hu5]
      have r16 : RN wr s16 d16 l16 c16 vc := by have := hm.res 5 hb5; rw [hR5] at this; exact this.1
      have o16 : ∀ k, k < W.heap.size → NA k d16 l16 := by have := hm.res 5 hb5; rw [hR5] at this; exact this.2
      have n_r16_0_pma0 : NA (pD 0) d16 l16 := by have := hm.ap 0 5 he0 hb5; rw [hA5] at this; exact this
      obtain ⟨s17, d17, l17, c17, hu6, hR6, hA6⟩ : RNOs _ _ _ _ _ := hm.spec 6 hb6
      rw [hu6]
      have r17 : RN wr s17 d17 l17 c17 xc := by have := hm.res 6 hb6; rw [hR6] at this; exact this.1
      have o17 : ∀ k, k < W.heap.size → NA k d17 l17 := by have := hm.res 6 hb6; rw [hR6] at this; exact this.2
      have n_r17_0_pma0 : NA (pD 0) d17 l17 := by have := hm.ap 0 6 he0 hb6; rw [hA6] at this; exact this
      obtain ⟨s18, d18, l18, c18, hu7, hR7, hA7⟩ : RNOs _ _ _ _ _ := hm.spec 7 hb7
      rw [hu7]
      have r18 : RN wr s18 d18 l18 c18 xt := by have := hm.res 7 hb7; rw [hR7] at this; exact this.1
      have o18 : ∀ k, k < W.heap.size → NA k d18 l18 := by have := hm.res 7 hb7; rw [hR7] at this; exact this.2
      have n_r18_0_pma0 : NA (pD 0) d18 l18 := by have := hm.ap 0 7 he0 hb7; rw [hA7] at this; exact this
      have y_pma0 : Bx wr (pD 0) (.int .i64 0) (.slice none 0 0) := bx_row (hm.blk 0 he0)
      have gpma0 := hm.old 0 he0
      have ltpma0 := hm.lt 0 he0
      have BU := hm.bel
      have n_r1_0_pma0 : NA (pD 0) d1 l1 := r1.hd.sl.na gpma0
      replace r1 := r1.below BU
      have n_r2_0_pma0 : NA (pD 0) d2 l2 := r2.hd.sl.na gpma0
      replace r2 := r2.below BU
      have n_r3_0_pma0 : NA (pD 0) d3 l3 := r3.hd.sl.na gpma0
      replace r3 := r3.below BU
      replace x_a := x_a.on BU
      replace x_b := x_b.on BU
      replace x_c := x_c.on BU
      replace x_z := x_z.on BU
      replace BB := also BB BU
      have hHeld : ((fun w' => w'.cell? ⟨w.heap.size, 0, none⟩ = some (.int .i64 s1) ∧ w'.cell? ⟨w.heap.size, 1, none⟩ = some (.slice d1 l1 c1) ∧ w'.cell? ⟨w.heap.size + 1, 0, none⟩ = some (.int .i64 s2) ∧ w'.cell? ⟨w.heap.size + 1, 1, none⟩ = some (.slice d2 l2 c2) ∧ w'.cell? ⟨w.heap.size + 1 + 1, 0, none⟩ = some (.int .i64 s3) ∧ w'.cell? ⟨w.heap.size + 1 + 1, 1, none⟩ = some (.slice d3 l3 c3) ∧ Below w.heap.size w w')) wr := ⟨x_a.c0, x_a.c1, x_b.c0, x_b.c1, x_c.c0, x_c.c1, BB⟩
      clear hm HINV INV ch0 ch1 ch2 ch3 ch4 ch5 ch6
      generalize pD 0 = pma0 at *
      dsimp only at hHeld
      have ⟨c_pma0_0, c_pma0_1, c_pma0_2, c_pma0_3⟩ : Bx wr pma0 (.int .i64 0) (.slice none 0 0) := y_pma0
      refine take_call (i := 15) rfl (by kernel_rfl) (fun Kc hK => ?_)
      go_simp
      refine hK.out _ _ ⟨cell_put2 hHeld.1 (by omega) _ _, cell_put2 hHeld.2.1 (by omega) _ _, cell_put2 hHeld.2.2.1 (by omega) _ _, cell_put2 hHeld.2.2.2.1 (by omega) _ _, cell_put2 hHeld.2.2.2.2.1 (by omega) _ _, cell_put2 hHeld.2.2.2.2.2.1 (by omega) _ _, below_put2 hHeld.2.2.2.2.2.2 (by omega) _ _⟩ (fun hHeld => ?_)
      clear hK Kc
      refine wpAnyH_done (by kernel_rfl) ?_ _
      rw [HQQ.out]
      exact ⟨rfl, pma0, s11, d11, l11, c11, s12, d12, l12, c12, s13, d13, l13, c13, s14, d14, l14, c14, s15, d15, l15, c15, s16, d16, l16, c16, s17, d17, l17, c17, s18, d18, l18, c18, rfl, ((r1.put n_r1_0_pma0 0 _).put n_r1_0_pma0 1 _), ((r2.put n_r2_0_pma0 0 _).put n_r2_0_pma0 1 _), ((r3.put n_r3_0_pma0 0 _).put n_r3_0_pma0 1 _), ((r11.put n_r11_0_pma0 0 _).put n_r11_0_pma0 1 _), ((r12.put n_r12_0_pma0 0 _).put n_r12_0_pma0 1 _), ((r13.put n_r13_0_pma0 0 _).put n_r13_0_pma0 1 _), ((r14.put n_r14_0_pma0 0 _).put n_r14_0_pma0 1 _), ((r15.put n_r15_0_pma0 0 _).put n_r15_0_pma0 1 _), ((r16.put n_r16_0_pma0 0 _).put n_r16_0_pma0 1 _), ((r17.put n_r17_0_pma0 0 _).put n_r17_0_pma0 1 _), ((r18.put n_r18_0_pma0 0 _).put n_r18_0_pma0 1 _), ((x_a.put (by omega)).put (by omega)), ((x_b.put (by omega)).put (by omega)), ((x_c.put (by omega)).put (by omega)), ((x_z.put (by omega)).put (by omega)), y_pma0.set, (below_put2 BB (by omega) _ _), by have := BU.size; simp only [World.size_setCell]; omega, ⟨gpma0, by simp only [World.size_setCell]; omega⟩, o11, o12, o13, o14, o15, o16, o17, o18⟩
    · refine Or.inr ⟨f - 1, by omega, ?nema, ?opsma⟩
      case nema =>
        cases he0 : eD 0
        · exact ready_ne (i := 14) (by decide) (by kernel_rfl)
        cases hb0 : bD 0
        · exact ready_ne (i := 1) (by decide) (by kernel_rfl)
        cases hb1 : bD 1
        · exact ready_ne (i := 3) (by decide) (by kernel_rfl)
        cases hb2 : bD 2
        · exact ready_ne (i := 5) (by decide) (by kernel_rfl)
        cases hb3 : bD 3
        · exact ready_ne (i := 7) (by decide) (by kernel_rfl)
        cases hb4 : bD 4
        · exact ready_ne (i := 8) (by decide) (by kernel_rfl)
        cases hb5 : bD 5
        · exact ready_ne (i := 10) (by decide) (by kernel_rfl)
        cases hb6 : bD 6
        · exact ready_ne (i := 12) (by decide) (by kernel_rfl)
        cases hb7 : bD 7
        · exact ready_ne (i := 13) (by decide) (by kernel_rfl)
        exact absurd ⟨hb7, he0⟩ hall
      case opsma =>
        intro i hi
        obtain ⟨hlt, hnot, hdep⟩ := ready_at hi
        replace hlt : i < 16 := hlt
        obtain rfl | rfl | rfl | rfl | rfl | rfl | rfl | rfl | rfl | rfl | rfl | rfl | rfl | rfl | rfl | rfl : i = 0 ∨ i = 1 ∨ i = 2 ∨ i = 3 ∨ i = 4 ∨ i = 5 ∨ i = 6 ∨ i = 7 ∨ i = 8 ∨ i = 9 ∨ i = 10 ∨ i = 11 ∨ i = 12 ∨ i = 13 ∨ i = 14 ∨ i = 15 := by omega
        · skip
          exact Bool.noConfusion (show true = false from hnot)
        · skip
          have hbj : bD 0 = false := hnot
          refine ⟨_, rfl, fun K' hK => ?_⟩
          go_simp
          (go_at_call 37; refine (rwLong va _ Rva.out.1 Rva.out.2).mono ?_; rintro e' X ⟨s11, d11, l11, c11, rfl, r11, f11, bX⟩)
          have hm' := hm.call (SpM_good W.heap.size va vb vc xa xb xc xs xt) 0 bX (.agg #[.int .i64 s11, .slice d11 l11 c11]) (fun w => RN w s11 d11 l11 c11 va ∧ ∀ k, k < W.heap.size → NA k d11 l11) (fun k => NA k d11 l11) ⟨_, _, _, _, rfl, rfl, rfl⟩ ⟨r11, fun k hk => f11 k (Nat.lt_of_lt_of_le hk hm.bel.size) trivial⟩ (fun i hi => f11 (pD i) (hm.lt i hi) trivial)
          refine hK.out _ _ ⟨cell_on hm'.bel x_a.c0, cell_on hm'.bel x_a.c1, cell_on hm'.bel x_b.c0, cell_on hm'.bel x_b.c1, cell_on hm'.bel x_c.c0, cell_on hm'.bel x_c.c1, also BB hm'.bel⟩ ?_
          rw [HINV.out]
          exact ⟨upd bD 0 true, eD, pD, upd RD 0 (fun w => RN w s11 d11 l11 c11 va ∧ ∀ k, k < W.heap.size → NA k d11 l11), upd AD 0 (fun k => NA k d11 l11), upd uD 0 (.agg #[.int .i64 s11, .slice d11 l11 c11]), vD, fuel_SpM_b0 hf hbj, rfl, rfl, fun _ => rfl, ch1, ch2, ch3, ch4, ch5, ch6, hm'⟩
        · skip
          exact Bool.noConfusion (show true = false from hnot)
        · skip
          have hbj : bD 1 = false := hnot
          have hprev : bD 0 = true := hdep _ rfl 2 _ rfl rfl
          refine ⟨_, rfl, fun K' hK => ?_⟩
          have r1 := r1.below hm.bel
          obtain ⟨s11, d11, l11, c11, hu0, hR0, hA0⟩ : RNOs _ _ _ _ _ := hm.spec 0 hprev
          have r11 : RN wr s11 d11 l11 c11 va := by have := hm.res 0 hprev; rw [hR0] at this; exact this.1
          rw [hu0]
          have o11 : ∀ k, k < W.heap.size → NA k d11 l11 := by have := hm.res 0 hprev; rw [hR0] at this; exact this.2
          go_simp
          (go_at_call 48; refine (rwMul s11 s1 d11 d1 l11 c11 l1 c1 va Xa xa _ r11 r1 Fva.out FX.out Exa.out).mono ?_; rintro e' X ⟨s12, d12, l12, c12, rfl, r12, f12, bX⟩)
          have na0 : ∀ i, eD i = true → NA (pD i) d11 l11 := fun i hi => by have := hm.ap i 0 hi hprev; rw [hA0] at this; exact this
          have hm' := hm.call (SpM_good W.heap.size va vb vc xa xb xc xs xt) 1 bX (.agg #[.int .i64 s12, .slice d12 l12 c12]) (fun w => RN w s12 d12 l12 c12 xa ∧ ∀ k, k < W.heap.size → NA k d12 l12) (fun k => NA k d12 l12) ⟨_, _, _, _, rfl, rfl, rfl⟩ ⟨r12, fun k hk => f12 k (Nat.lt_of_lt_of_le hk hm.bel.size) trivial⟩ (fun i hi => f12 (pD i) (hm.lt i hi) trivial)
          refine hK.out _ _ ⟨cell_on hm'.bel x_a.c0, cell_on hm'.bel x_a.c1, cell_on hm'.bel x_b.c0, cell_on hm'.bel x_b.c1, cell_on hm'.bel x_c.c0, cell_on hm'.bel x_c.c1, also BB hm'.bel⟩ ?_
          rw [HINV.out]
          exact ⟨upd bD 1 true, eD, pD, upd RD 1 (fun w => RN w s12 d12 l12 c12 xa ∧ ∀ k, k < W.heap.size → NA k d12 l12), upd AD 1 (fun k => NA k d12 l12), upd uD 1 (.agg #[.int .i64 s12, .slice d12 l12 c12]), vD, fuel_SpM_b1 hf hbj, rfl, (by rw [show upd uD 1 (.agg #[.int .i64 s12, .slice d12 l12 c12]) 0 = .agg #[.int .i64 s11, .slice d11 l11 c11] from hu0] <;> rfl), fun _ => hprev, fun _ => rfl, ch2, ch3, ch4, ch5, ch6, hm'⟩
        · skip
          exact Bool.noConfusion (show true = false from hnot)
        · skip
          have hbj : bD 2 = false := hnot
          have hprev : bD 1 = true := hdep _ rfl 1 _ rfl rfl
          have hq0 : bD 0 = true := ch0 hprev
          refine ⟨_, rfl, fun K' hK => ?_⟩
          go_simp
          (go_at_call 37; refine (rwLong vb _ Rvb.out.1 Rvb.out.2).mono ?_; rintro e' X ⟨s13, d13, l13, c13, rfl, r13, f13, bX⟩)
          have hm' := hm.call (SpM_good W.heap.size va vb vc xa xb xc xs xt) 2 bX (.agg #[.int .i64 s13, .slice d13 l13 c13]) (fun w => RN w s13 d13 l13 c13 vb ∧ ∀ k, k < W.heap.size → NA k d13 l13) (fun k => NA k d13 l13) ⟨_, _, _, _, rfl, rfl, rfl⟩ ⟨r13, fun k hk => f13 k (Nat.lt_of_lt_of_le hk hm.bel.size) trivial⟩ (fun i hi => f13 (pD i) (hm.lt i hi) trivial)
          refine hK.out _ _ ⟨cell_on hm'.bel x_a.c0, cell_on hm'.bel x_a.c1, cell_on hm'.bel x_b.c0, cell_on hm'.bel x_b.c1, cell_on hm'.bel x_c.c0, cell_on hm'.bel x_c.c1, also BB hm'.bel⟩ ?_
          rw [HINV.out]
          exact ⟨upd bD 2 true, eD, pD, upd RD 2 (fun w => RN w s13 d13 l13 c13 vb ∧ ∀ k, k < W.heap.size → NA k d13 l13), upd AD 2 (fun k => NA k d13 l13), upd uD 2 (.agg #[.int .i64 s13, .slice d13 l13 c13]), vD, fuel_SpM_b2 hf hbj, rfl, rfl, ch0, fun _ => hprev, fun _ => rfl, ch3, ch4, ch5, ch6, hm'⟩
        · skip
          exact Bool.noConfusion (show true = false from hnot)
        · skip
          have hbj : bD 3 = false := hnot
          have hprev : bD 2 = true := hdep _ rfl 2 _ rfl rfl
          have hq1 : bD 1 = true := ch1 hprev
          have hq0 : bD 0 = true := ch0 hq1
          refine ⟨_, rfl, fun K' hK => ?_⟩
          have r2 := r2.below hm.bel
          obtain ⟨s13, d13, l13, c13, hu2, hR2, hA2⟩ : RNOs _ _ _ _ _ := hm.spec 2 hprev
          have r13 : RN wr s13 d13 l13 c13 vb := by have := hm.res 2 hprev; rw [hR2] at this; exact this.1
          rw [hu2]
          have o13 : ∀ k, k < W.heap.size → NA k d13 l13 := by have := hm.res 2 hprev; rw [hR2] at this; exact this.2
          go_simp
          (go_at_call 48; refine (rwMul s13 s2 d13 d2 l13 c13 l2 c2 vb Ya xb _ r13 r2 Fvb.out FY.out Exb.out).mono ?_; rintro e' X ⟨s14, d14, l14, c14, rfl, r14, f14, bX⟩)
          have na2 : ∀ i, eD i = true → NA (pD i) d13 l13 := fun i hi => by have := hm.ap i 2 hi hprev; rw [hA2] at this; exact this
          have hm' := hm.call (SpM_good W.heap.size va vb vc xa xb xc xs xt) 3 bX (.agg #[.int .i64 s14, .slice d14 l14 c14]) (fun w => RN w s14 d14 l14 c14 xb ∧ ∀ k, k < W.heap.size → NA k d14 l14) (fun k => NA k d14 l14) ⟨_, _, _, _, rfl, rfl, rfl⟩ ⟨r14, fun k hk => f14 k (Nat.lt_of_lt_of_le hk hm.bel.size) trivial⟩ (fun i hi => f14 (pD i) (hm.lt i hi) trivial)
          refine hK.out _ _ ⟨cell_on hm'.bel x_a.c0, cell_on hm'.bel x_a.c1, cell_on hm'.bel x_b.c0, cell_on hm'.bel x_b.c1, cell_on hm'.bel x_c.c0, cell_on hm'.bel x_c.c1, also BB hm'.bel⟩ ?_
          rw [HINV.out]
          exact ⟨upd bD 3 true, eD, pD, upd RD 3 (fun w => RN w s14 d14 l14 c14 xb ∧ ∀ k, k < W.heap.size → NA k d14 l14), upd AD 3 (fun k => NA k d14 l14), upd uD 3 (.agg #[.int .i64 s14, .slice d14 l14 c14]), vD, fuel_SpM_b3 hf hbj, rfl, (by rw [show upd uD 3 (.agg #[.int .i64 s14, .slice d14 l14 c14]) 2 = .agg #[.int .i64 s13, .slice d13 l13 c13] from hu2] <;> rfl), ch0, ch1, fun _ => hprev, fun _ => rfl, ch4, ch5, ch6, hm'⟩
        · skip
          have hbj : bD 4 = false := hnot
          have hprev : bD 3 = true := hdep _ rfl 2 _ rfl rfl
          have hq2 : bD 2 = true := ch2 hprev
          have hq1 : bD 1 = true := ch1 hq2
          have hq0 : bD 0 = true := ch0 hq1
          refine ⟨_, rfl, fun K' hK => ?_⟩
          obtain ⟨s12, d12, l12, c12, hu1, hR1, hA1⟩ : RNOs _ _ _ _ _ := hm.spec 1 hq1
          have r12 : RN wr s12 d12 l12 c12 xa := by have := hm.res 1 hq1; rw [hR1] at this; exact this.1
          rw [hu1]
          have o12 : ∀ k, k < W.heap.size → NA k d12 l12 := by have := hm.res 1 hq1; rw [hR1] at this; exact this.2
          obtain ⟨s14, d14, l14, c14, hu3, hR3, hA3⟩ : RNOs _ _ _ _ _ := hm.spec 3 hprev
          have r14 : RN wr s14 d14 l14 c14 xb := by have := hm.res 3 hprev; rw [hR3] at this; exact this.1
          rw [hu3]
          have o14 : ∀ k, k < W.heap.size → NA k d14 l14 := by have := hm.res 3 hprev; rw [hR3] at this; exact this.2
          go_simp
          (go_at_call 47; refine (rwAdd s12 s14 d12 d14 l12 c12 l14 c14 xa xb xs _ r12 r14 Fxa.out Fxb.out Exs.out).mono ?_; rintro e' X ⟨s15, d15, l15, c15, rfl, r15, f15, bX⟩)
          have na1 : ∀ i, eD i = true → NA (pD i) d12 l12 := fun i hi => by have := hm.ap i 1 hi hq1; rw [hA1] at this; exact this
          have na3 : ∀ i, eD i = true → NA (pD i) d14 l14 := fun i hi => by have := hm.ap i 3 hi hprev; rw [hA3] at this; exact this
          have hm' := hm.call (SpM_good W.heap.size va vb vc xa xb xc xs xt) 4 bX (.agg #[.int .i64 s15, .slice d15 l15 c15]) (fun w => RN w s15 d15 l15 c15 xs ∧ ∀ k, k < W.heap.size → NA k d15 l15) (fun k => NA k d15 l15) ⟨_, _, _, _, rfl, rfl, rfl⟩ ⟨r15, fun k hk => f15 k (Nat.lt_of_lt_of_le hk hm.bel.size) ⟨o12 k hk, o14 k hk⟩⟩ (fun i hi => f15 (pD i) (hm.lt i hi) ⟨na1 i hi, na3 i hi⟩)
          refine hK.out _ _ ⟨cell_on hm'.bel x_a.c0, cell_on hm'.bel x_a.c1, cell_on hm'.bel x_b.c0, cell_on hm'.bel x_b.c1, cell_on hm'.bel x_c.c0, cell_on hm'.bel x_c.c1, also BB hm'.bel⟩ ?_
          rw [HINV.out]
          exact ⟨upd bD 4 true, eD, pD, upd RD 4 (fun w => RN w s15 d15 l15 c15 xs ∧ ∀ k, k < W.heap.size → NA k d15 l15), upd AD 4 (fun k => NA k d15 l15), upd uD 4 (.agg #[.int .i64 s15, .slice d15 l15 c15]), vD, fuel_SpM_b4 hf hbj, rfl, (by rw [show upd uD 4 (.agg #[.int .i64 s15, .slice d15 l15 c15]) 1 = .agg #[.int .i64 s12, .slice d12 l12 c12] from hu1, show upd uD 4 (.agg #[.int .i64 s15, .slice d15 l15 c15]) 3 = .agg #[.int .i64 s14, .slice d14 l14 c14] from hu3] <;> rfl), ch0, ch1, ch2, fun _ => hprev, fun _ => rfl, ch5, ch6, hm'⟩
        · skip
          exact Bool.noConfusion (show true = false from hnot)
        · skip
          have hbj : bD 5 = false := hnot
          have hprev : bD 4 = true := hdep _ rfl 1 _ rfl rfl
          have hq3 : bD 3 = true := ch3 hprev
          have hq2 : bD 2 = true := ch2 hq3
          have hq1 : bD 1 = true := ch1 hq2
          have hq0 : bD 0 = true := ch0 hq1
          refine ⟨_, rfl, fun K' hK => ?_⟩
          go_simp
          (go_at_call 37; refine (rwLong vc _ Rvc.out.1 Rvc.out.2).mono ?_; rintro e' X ⟨s16, d16, l16, c16, rfl, r16, f16, bX⟩)
          have hm' := hm.call (SpM_good W.heap.size va vb vc xa xb xc xs xt) 5 bX (.agg #[.int .i64 s16, .slice d16 l16 c16]) (fun w => RN w s16 d16 l16 c16 vc ∧ ∀ k, k < W.heap.size → NA k d16 l16) (fun k => NA k d16 l16) ⟨_, _, _, _, rfl, rfl, rfl⟩ ⟨r16, fun k hk => f16 k (Nat.lt_of_lt_of_le hk hm.bel.size) trivial⟩ (fun i hi => f16 (pD i) (hm.lt i hi) trivial)
          refine hK.out _ _ ⟨cell_on hm'.bel x_a.c0, cell_on hm'.bel x_a.c1, cell_on hm'.bel x_b.c0, cell_on hm'.bel x_b.c1, cell_on hm'.bel x_c.c0, cell_on hm'.bel x_c.c1, also BB hm'.bel⟩ ?_
          rw [HINV.out]
          exact ⟨upd bD 5 true, eD, pD, upd RD 5 (fun w => RN w s16 d16 l16 c16 vc ∧ ∀ k, k < W.heap.size → NA k d16 l16), upd AD 5 (fun k => NA k d16 l16), upd uD 5 (.agg #[.int .i64 s16, .slice d16 l16 c16]), vD, fuel_SpM_b5 hf hbj, rfl, rfl, ch0, ch1, ch2, ch3, fun _ => hprev, fun _ => rfl, ch6, hm'⟩
        · skip
          exact Bool.noConfusion (show true = false from hnot)
        · skip
          have hbj : bD 6 = false := hnot
          have hprev : bD 5 = true := hdep _ rfl 2 _ rfl rfl
          have hq4 : bD 4 = true := ch4 hprev
          have hq3 : bD 3 = true := ch3 hq4
          have hq2 : bD 2 = true := ch2 hq3
          have hq1 : bD 1 = true := ch1 hq2
          have hq0 : bD 0 = true := ch0 hq1
          refine ⟨_, rfl, fun K' hK => ?_⟩
          have r3 := r3.below hm.bel
          obtain ⟨s16, d16, l16, c16, hu5, hR5, hA5⟩ : RNOs _ _ _ _ _ := hm.spec 5 hprev
          have r16 : RN wr s16 d16 l16 c16 vc := by have := hm.res 5 hprev; rw [hR5] at this; exact this.1
          rw [hu5]
          have o16 : ∀ k, k < W.heap.size → NA k d16 l16 := by have := hm.res 5 hprev; rw [hR5] at this; exact this.2
          go_simp
          (go_at_call 48; refine (rwMul s16 s3 d16 d3 l16 c16 l3 c3 vc Za xc _ r16 r3 Fvc.out FZ.out Exc.out).mono ?_; rintro e' X ⟨s17, d17, l17, c17, rfl, r17, f17, bX⟩)
          have na5 : ∀ i, eD i = true → NA (pD i) d16 l16 := fun i hi => by have := hm.ap i 5 hi hprev; rw [hA5] at this; exact this
          have hm' := hm.call (SpM_good W.heap.size va vb vc xa xb xc xs xt) 6 bX (.agg #[.int .i64 s17, .slice d17 l17 c17]) (fun w => RN w s17 d17 l17 c17 xc ∧ ∀ k, k < W.heap.size → NA k d17 l17) (fun k => NA k d17 l17) ⟨_, _, _, _, rfl, rfl, rfl⟩ ⟨r17, fun k hk => f17 k (Nat.lt_of_lt_of_le hk hm.bel.size) trivial⟩ (fun i hi => f17 (pD i) (hm.lt i hi) trivial)
          refine hK.out _ _ ⟨cell_on hm'.bel x_a.c0, cell_on hm'.bel x_a.c1, cell_on hm'.bel x_b.c0, cell_on hm'.bel x_b.c1, cell_on hm'.bel x_c.c0, cell_on hm'.bel x_c.c1, also BB hm'.bel⟩ ?_
          rw [HINV.out]
          exact ⟨upd bD 6 true, eD, pD, upd RD 6 (fun w => RN w s17 d17 l17 c17 xc ∧ ∀ k, k < W.heap.size → NA k d17 l17), upd AD 6 (fun k => NA k d17 l17), upd uD 6 (.agg #[.int .i64 s17, .slice d17 l17 c17]), vD, fuel_SpM_b6 hf hbj, rfl, (by rw [show upd uD 6 (.agg #[.int .i64 s17, .slice d17 l17 c17]) 5 = .agg #[.int .i64 s16, .slice d16 l16 c16] from hu5] <;> rfl), ch0, ch1, ch2, ch3, ch4, fun _ => hprev, fun _ => rfl, hm'⟩
        · skip
          have hbj : bD 7 = false := hnot
          have hprev : bD 6 = true := hdep _ rfl 2 _ rfl rfl
          have hq5 : bD 5 = true := ch5 hprev
          have hq4 : bD 4 = true := ch4 hq5
          have hq3 : bD 3 = true := ch3 hq4
          have hq2 : bD 2 = true := ch2 hq3
          have hq1 : bD 1 = true := ch1 hq2
          have hq0 : bD 0 = true := ch0 hq1
          refine ⟨_, rfl, fun K' hK => ?_⟩
          obtain ⟨s15, d15, l15, c15, hu4, hR4, hA4⟩ : RNOs _ _ _ _ _ := hm.spec 4 hq4
          have r15 : RN wr s15 d15 l15 c15 xs := by have := hm.res 4 hq4; rw [hR4] at this; exact this.1
          rw [hu4]
          have o15 : ∀ k, k < W.heap.size → NA k d15 l15 := by have := hm.res 4 hq4; rw [hR4] at this; exact this.2
          obtain ⟨s17, d17, l17, c17, hu6, hR6, hA6⟩ : RNOs _ _ _ _ _ := hm.spec 6 hprev
          have r17 : RN wr s17 d17 l17 c17 xc := by have := hm.res 6 hprev; rw [hR6] at this; exact this.1
          rw [hu6]
          have o17 : ∀ k, k < W.heap.size → NA k d17 l17 := by have := hm.res 6 hprev; rw [hR6] at this; exact this.2
          go_simp
          (go_at_call 47; refine (rwAdd s15 s17 d15 d17 l15 c15 l17 c17 xs xc xt _ r15 r17 Fxs.out Fxc.out Ext.out).mono ?_; rintro e' X ⟨s18, d18, l18, c18, rfl, r18, f18, bX⟩)
          have na4 : ∀ i, eD i = true → NA (pD i) d15 l15 := fun i hi => by have := hm.ap i 4 hi hq4; rw [hA4] at this; exact this
          have na6 : ∀ i, eD i = true → NA (pD i) d17 l17 := fun i hi => by have := hm.ap i 6 hi hprev; rw [hA6] at this; exact this
          have hm' := hm.call (SpM_good W.heap.size va vb vc xa xb xc xs xt) 7 bX (.agg #[.int .i64 s18, .slice d18 l18 c18]) (fun w => RN w s18 d18 l18 c18 xt ∧ ∀ k, k < W.heap.size → NA k d18 l18) (fun k => NA k d18 l18) ⟨_, _, _, _, rfl, rfl, rfl⟩ ⟨r18, fun k hk => f18 k (Nat.lt_of_lt_of_le hk hm.bel.size) ⟨o15 k hk, o17 k hk⟩⟩ (fun i hi => f18 (pD i) (hm.lt i hi) ⟨na4 i hi, na6 i hi⟩)
          refine hK.out _ _ ⟨cell_on hm'.bel x_a.c0, cell_on hm'.bel x_a.c1, cell_on hm'.bel x_b.c0, cell_on hm'.bel x_b.c1, cell_on hm'.bel x_c.c0, cell_on hm'.bel x_c.c1, also BB hm'.bel⟩ ?_
          rw [HINV.out]
          exact ⟨upd bD 7 true, eD, pD, upd RD 7 (fun w => RN w s18 d18 l18 c18 xt ∧ ∀ k, k < W.heap.size → NA k d18 l18), upd AD 7 (fun k => NA k d18 l18), upd uD 7 (.agg #[.int .i64 s18, .slice d18 l18 c18]), vD, fuel_SpM_b7 hf hbj, rfl, (by rw [show upd uD 7 (.agg #[.int .i64 s18, .slice d18 l18 c18]) 4 = .agg #[.int .i64 s15, .slice d15 l15 c15] from hu4, show upd uD 7 (.agg #[.int .i64 s18, .slice d18 l18 c18]) 6 = .agg #[.int .i64 s17, .slice d17 l17 c17] from hu6] <;> rfl), ch0, ch1, ch2, ch3, ch4, ch5, fun _ => hprev, hm'⟩
        · skip
          have hei : eD 0 = false := hnot
          refine ⟨_, rfl, fun K' hK => ?_⟩
          go_simp
          have hm' := hm.alloc (SpM_good W.heap.size va vb vc xa xb xc xs xt) 0 39 hei
          refine hK.out _ _ ⟨cell_on hm'.bel x_a.c0, cell_on hm'.bel x_a.c1, cell_on hm'.bel x_b.c0, cell_on hm'.bel x_b.c1, cell_on hm'.bel x_c.c0, cell_on hm'.bel x_c.c1, also BB hm'.bel⟩ ?_
          rw [HINV.out]
          exact ⟨bD, upd eD 0 true, upd pD 0 wr.heap.size, RD, AD, uD, upd vD 0 (.pointer (some ⟨wr.heap.size, 0, none⟩)), fuel_SpM_e0 hf hei, rfl, rfl, ch0, ch1, ch2, ch3, ch4, ch5, ch6, hm'⟩
        · skip
          exact absurd ⟨hdep _ rfl 1 _ rfl rfl, hdep _ rfl 0 _ rfl rfl⟩ hall
  rw [HQQ.out]
  rintro e act Y1 ⟨rfl, pma0, s11, d11, l11, c11, s12, d12, l12, c12, s13, d13, l13, c13, s14, d14, l14, c14, s15, d15, l15, c15, s16, d16, l16, c16, s17, d17, l17, c17, s18, d18, l18, c18, rfl, r1, r2, r3, r11, r12, r13, r14, r15, r16, r17, r18, x_a, x_b, x_c, x_z, x_n, BB, z_Y1, z_Y1_pma0, o11, o12, o13, o14, o15, o16, o17, o18⟩
  clear HQQ QQ
  try dsimp only
  have m18 : NA (w.heap.size + 1 + 1 + 1) d18 l18 := o18 _ (by omega)
  go_wp2
  have dd1 : Below Y1.heap.size Y1 Y1.drew := (Below.refl _ _).drew
  have zdd1 := dd1.size
  replace r1 := r1.below dd1
  replace r2 := r2.below dd1
  replace r3 := r3.below dd1
  replace BB := also BB dd1
  replace x_a := x_a.on dd1
  replace x_b := x_b.on dd1
  replace x_c := x_c.on dd1
  replace x_z := x_z.on dd1
  replace r11 := r11.below dd1
  replace r12 := r12.below dd1
  replace r13 := r13.below dd1
  replace r14 := r14.below dd1
  replace r15 := r15.below dd1
  replace r16 := r16.below dd1
  replace r17 := r17.below dd1
  replace r18 := r18.below dd1
  replace x_n := x_n.on dd1
  refine wp_region_held_drew (S := (fun w' => w'.cell? ⟨pma0, 0, none⟩ = some (.int .i64 s18) ∧ w'.cell? ⟨pma0, 1, none⟩ = some (.slice d18 l18 c18) ∧ w'.cell? ⟨w.heap.size, 0, none⟩ = some (.int .i64 s1) ∧ w'.cell? ⟨w.heap.size, 1, none⟩ = some (.slice d1 l1 c1) ∧ w'.cell? ⟨w.heap.size + 1, 0, none⟩ = some (.int .i64 s2) ∧ w'.cell? ⟨w.heap.size + 1, 1, none⟩ = some (.slice d2 l2 c2) ∧ w'.cell? ⟨w.heap.size + 1 + 1, 0, none⟩ = some (.int .i64 s3) ∧ w'.cell? ⟨w.heap.size + 1 + 1, 1, none⟩ = some (.slice d3 l3 c3) ∧ Below w.heap.size w w')) (by kernel_rfl) ?_ (fun hHeld => ?_)
  · exact ⟨x_n.c0, x_n.c1, x_a.c0, x_a.c1, x_b.c0, x_b.c1, x_c.c0, x_c.c1, BB⟩
  refine take_yes (i := 0) (v := ?vs0) rfl (by kernel_rfl) (by kernel_rfl) (by kernel_rfl) (fun _ _ _ h => h) (by rfl) (by assumption) ?hys0 ?rests0
  case hys0 => (intro w hSw; (try dsimp only at hSw); first | (go_simp; done) | (go_simp; with_reducible rfl))
  simp only [Act.put, List.setIfInBounds_toArray, List.set_cons_zero, List.set_cons_succ]
  refine take_yes (i := 1) (v := ?vs1) rfl (by kernel_rfl) (by kernel_rfl) (by kernel_rfl) (fun _ _ _ h => h) (by rfl) (by assumption) ?hys1 ?rests1
  case hys1 => (intro w hSw; (try dsimp only at hSw); first | (go_simp; done) | (go_simp; with_reducible rfl))
  simp only [Act.put, List.setIfInBounds_toArray, List.set_cons_zero, List.set_cons_succ]
  refine take_yes (i := 2) (v := ?vs2) rfl (by kernel_rfl) (by kernel_rfl) (by kernel_rfl) (fun _ _ _ h => h) (by rfl) (by assumption) ?hys2 ?rests2
  case hys2 => (intro w hSw; (try dsimp only at hSw); first | (go_simp; done) | (go_simp; with_reducible rfl))
  simp only [Act.put, List.setIfInBounds_toArray, List.set_cons_zero, List.set_cons_succ]
  refine take_yes (i := 4) (v := ?vs4) rfl (by kernel_rfl) (by kernel_rfl) (by kernel_rfl) (fun _ _ _ h => h) (by rfl) (by assumption) ?hys4 ?rests4
  case hys4 => (intro w hSw; (try dsimp only at hSw); first | (go_simp; done) | (go_simp; with_reducible rfl))
  simp only [Act.put, List.setIfInBounds_toArray, List.set_cons_zero, List.set_cons_succ]
  refine take_call (i := 3) rfl (by kernel_rfl) (fun Kc hK => ?_)
  go_simp
  (go_at_call 47; refine (rwAdd s1 s2 d1 d2 l1 c1 l2 c2 Xa Ya xu _ r1 r2 FX.out FY.out Exu.out).mono ?_; rintro e w1 ⟨s21, d21, l21, c21, rfl, r21, f21, bw1⟩)
  refine hK.out _ _ ?_ (fun hHeld => ?_)
  · exact ⟨cell_on bw1 hHeld.1, cell_on bw1 hHeld.2.1, cell_on bw1 hHeld.2.2.1, cell_on bw1 hHeld.2.2.2.1, cell_on bw1 hHeld.2.2.2.2.1, cell_on bw1 hHeld.2.2.2.2.2.1, cell_on bw1 hHeld.2.2.2.2.2.2.1, cell_on bw1 hHeld.2.2.2.2.2.2.2.1, also hHeld.2.2.2.2.2.2.2.2 bw1⟩
  clear hK Kc
  have zbw1 := bw1.size
  replace r1 := r1.below bw1
  replace r2 := r2.below bw1
  replace r3 := r3.below bw1
  replace BB := also BB bw1
  replace x_a := x_a.on bw1
  replace x_b := x_b.on bw1
  replace x_c := x_c.on bw1
  replace x_z := x_z.on bw1
  replace r11 := r11.below bw1
  replace r12 := r12.below bw1
  replace r13 := r13.below bw1
  replace r14 := r14.below bw1
  replace r15 := r15.below bw1
  replace r16 := r16.below bw1
  replace r17 := r17.below bw1
  replace r18 := r18.below bw1
  replace x_n := x_n.on bw1
  refine take_call (i := 5) rfl (by kernel_rfl) (fun Kc hK => ?_)
  go_simp
  (go_at_call 47; refine (rwAdd s21 s3 d21 d3 l21 c21 l3 c3 xu Za xv _ r21 r3 Fxu.out FZ.out Exv.out).mono ?_; rintro e w2 ⟨s22, d22, l22, c22, rfl, r22, f22, bw2⟩)
  refine hK.out _ _ ?_ (fun hHeld => ?_)
  · exact ⟨cell_on bw2 hHeld.1, cell_on bw2 hHeld.2.1, cell_on bw2 hHeld.2.2.1, cell_on bw2 hHeld.2.2.2.1, cell_on bw2 hHeld.2.2.2.2.1, cell_on bw2 hHeld.2.2.2.2.2.1, cell_on bw2 hHeld.2.2.2.2.2.2.1, cell_on bw2 hHeld.2.2.2.2.2.2.2.1, also hHeld.2.2.2.2.2.2.2.2 bw2⟩
  clear hK Kc
  have zbw2 := bw2.size
  replace r1 := r1.below bw2
  replace r2 := r2.below bw2
  replace r3 := r3.below bw2
  replace BB := also BB bw2
  replace x_a := x_a.on bw2
  replace x_b := x_b.on bw2
  replace x_c := x_c.on bw2
  replace x_z := x_z.on bw2
  replace r11 := r11.below bw2
  replace r12 := r12.below bw2
  replace r13 := r13.below bw2
  replace r14 := r14.below bw2
  replace r15 := r15.below bw2
  replace r16 := r16.below bw2
  replace r17 := r17.below bw2
  replace r18 := r18.below bw2
  replace x_n := x_n.on bw2
  replace r21 := r21.below bw2
  refine take_call (i := 6) rfl (by kernel_rfl) (fun Kc hK => ?_)
  go_simp
  (go_at_call 67; refine (rqOver s18 d18 l18 c18 s22 d22 l22 c22 xt xv 10 _ r18 r22 H0.out SN.out SD.out (by decide) N D HN.out HD.out).mono ?_; rintro e w3 ⟨s23, d23, l23, c23, t23, g23, h23, k23, rfl, q23, f23, bw3⟩)
  refine hK.out _ _ ?_ (fun hHeld => ?_)
  · exact ⟨cell_on bw3 hHeld.1, cell_on bw3 hHeld.2.1, cell_on bw3 hHeld.2.2.1, cell_on bw3 hHeld.2.2.2.1, cell_on bw3 hHeld.2.2.2.2.1, cell_on bw3 hHeld.2.2.2.2.2.1, cell_on bw3 hHeld.2.2.2.2.2.2.1, cell_on bw3 hHeld.2.2.2.2.2.2.2.1, also hHeld.2.2.2.2.2.2.2.2 bw3⟩
  clear hK Kc
  have zbw3 := bw3.size
  replace r1 := r1.below bw3
  replace r2 := r2.below bw3
  replace r3 := r3.below bw3
  replace BB := also BB bw3
  replace x_a := x_a.on bw3
  replace x_b := x_b.on bw3
  replace x_c := x_c.on bw3
  replace x_z := x_z.on bw3
  replace r11 := r11.below bw3
  replace r12 := r12.below bw3
  replace r13 := r13.below bw3
  replace r14 := r14.below bw3
  replace r15 := r15.below bw3
  replace r16 := r16.below bw3
  replace r17 := r17.below bw3
  replace r18 := r18.below bw3
  replace x_n := x_n.on bw3
  replace r21 := r21.below bw3
  replace r22 := r22.below bw3
  have ⟨x_z_0, x_z_1, x_z_2, x_z_3, x_z_4, x_z_5, x_z_6, x_z_7⟩ := x_z
  refine take_call (i := 7) rfl (by kernel_rfl) (fun Kc hK => ?_)
  go_simp
  refine hK.out _ _ ?_ (fun hHeld => ?_)
  · first | exact ⟨cell_put4 hHeld.1 (by omega) _ _ _ _, cell_put4 hHeld.2.1 (by omega) _ _ _ _, cell_put4 hHeld.2.2.1 (by omega) _ _ _ _, cell_put4 hHeld.2.2.2.1 (by omega) _ _ _ _, cell_put4 hHeld.2.2.2.2.1 (by omega) _ _ _ _, cell_put4 hHeld.2.2.2.2.2.1 (by omega) _ _ _ _, cell_put4 hHeld.2.2.2.2.2.2.1 (by omega) _ _ _ _, cell_put4 hHeld.2.2.2.2.2.2.2.1 (by omega) _ _ _ _, below_put4 hHeld.2.2.2.2.2.2.2.2 (by omega) _ _ _ _⟩ | exact ⟨x_n.c0, x_n.c1, x_a.c0, x_a.c1, x_b.c0, x_b.c1, x_c.c0, x_c.c1, BB⟩
  clear hK Kc
  refine wpAnyH_done (by kernel_rfl) ?_ _
  have mz := f23 (w.heap.size + 1 + 1 + 1) (by omega) ⟨m18, f22 _ (by omega) ⟨f21 _ (by omega) ⟨m1, m2⟩, m3⟩⟩
  go_wp2
  exact bodyPost_ret (v := .agg #[.int .i64 s23, .slice d23 l23 c23, .int .i64 t23, .slice g23 h23 k23]) (by simp [results, Tryz.results31, go_sem, *]) rfl (endRQ _ (by omega) BB q23 mz.1 mz.2 (fun j hj q => q.elim) _ _ _ _)
end Go.Proofs.YtcaihoomcdbfnaaGreat

namespace Go.Proofs.YtcaihoomcdbfnaaGreat
open Go.RowKit
set_option linter.unusedVariables false

set_option maxRecDepth 100000 in
set_option maxHeartbeats 1000000 in
theorem rqSame (n : Bool) (a : Option Addr) (la ca : Nat) (d : Option Addr) (ld cd : Nat) (za : Int) (Da : Nat) (s1 : Int) (d1 : Option Addr) (l1 c1 : Nat) (t1 : Int) (g1 : Option Addr) (h1 k1 : Nat) (N1 : Int) (D1 : Nat) (K : Nat) (w : World) (q : QN w n a la ca d ld cd za Da) (x : RQ w K s1 d1 l1 c1 t1 g1 h1 k1 N1 D1) (hN : za = lowN N1 D1) (hD : Da = lowD N1 D1) :
    Calls Tryz.prog 14 #[.agg #[.bool n, .slice a la ca, .slice d ld cd], .agg #[.int .i64 s1, .slice d1 l1 c1, .int .i64 t1, .slice g1 h1 k1]] w fun e w' => e = .returned (.bool true) ∧ Below w.heap.size w w' := by
  have HN : Hid _ := hN
  have HD : Hid _ := hD
  clear hN hD
  obtain ⟨W, hW, bW, x_a, x_b, sW⟩ := bs_34 w (.bool n) (.slice a la ca) (.slice d ld cd) (.int .i64 s1) (.slice d1 l1 c1) (.int .i64 t1) (.slice g1 h1 k1) 29 41
  have zbW := bW.size
  replace q := q.below bW
  replace x := x.below bW
  have BB := bW
  go_enter Tryz.func14, Tryz.ntmps14
  go_wp2_with (go_at_call 30; fail)
  rw [← hW]
  clear hW
  refine (rqLow s1 d1 l1 c1 t1 g1 h1 k1 N1 D1 K W x za Da HN.out HD.out).mono ?_
  rintro e w1 ⟨s2, d2, l2, c2, t2, g2, h2, k2, rfl, y, f2, bw1⟩
  have zbw1 := bw1.size
  replace q := q.below bw1
  replace x := x.below bw1
  replace BB := also BB bw1
  replace x_a := x_a.on bw1
  replace x_b := x_b.on bw1
  obtain ⟨V1, hV1, bV1, x_l, sV1⟩ := bs_4 w1 (.int .i64 s2) (.slice d2 l2 c2) (.int .i64 t2) (.slice g2 h2 k2) 41
  have zbV1 := bV1.size
  replace q := q.below bV1
  replace x := x.below bV1
  replace BB := also BB bV1
  replace x_a := x_a.on bV1
  replace x_b := x_b.on bV1
  replace y := y.below bV1
  have st_a_0 : (w1.alloc (.cells #[.int .i64 s2, .slice d2 l2 c2, .int .i64 t2, .slice g2 h2 k2] 41)).cell? ⟨w.heap.size, 0, none⟩ = some (.bool n) := by rw [← hV1]; exact x_a.c0
  have st_a_1 : (w1.alloc (.cells #[.int .i64 s2, .slice d2 l2 c2, .int .i64 t2, .slice g2 h2 k2] 41)).cell? ⟨w.heap.size, 1, none⟩ = some (.slice a la ca) := by rw [← hV1]; exact x_a.c1
  have st_a_2 : (w1.alloc (.cells #[.int .i64 s2, .slice d2 l2 c2, .int .i64 t2, .slice g2 h2 k2] 41)).cell? ⟨w.heap.size, 2, none⟩ = some (.slice d ld cd) := by rw [← hV1]; exact x_a.c2
  have sf_a_0 : (w1.alloc (.cells #[.int .i64 s2, .slice d2 l2 c2, .int .i64 t2, .slice g2 h2 k2] 41)).frozen? ⟨w.heap.size, 0, none⟩ = false := by rw [← hV1]; exact x_a.f0
  have sf_a_1 : (w1.alloc (.cells #[.int .i64 s2, .slice d2 l2 c2, .int .i64 t2, .slice g2 h2 k2] 41)).frozen? ⟨w.heap.size, 1, none⟩ = false := by rw [← hV1]; exact x_a.f1
  have sf_a_2 : (w1.alloc (.cells #[.int .i64 s2, .slice d2 l2 c2, .int .i64 t2, .slice g2 h2 k2] 41)).frozen? ⟨w.heap.size, 2, none⟩ = false := by rw [← hV1]; exact x_a.f2
  go_wp2_with (go_at_call 35; fail)
  rw [← hV1]
  clear hV1 st_a_0 st_a_1 st_a_2 sf_a_0 sf_a_1 sf_a_2
  refine (rwSame n s2 a d2 la ca l2 c2 za V1 q.wn y.rn y.fn).mono ?_
  rintro e w2 ⟨rfl, bw2⟩
  have zbw2 := bw2.size
  replace q := q.below bw2
  replace x := x.below bw2
  replace BB := also BB bw2
  replace x_a := x_a.on bw2
  replace x_b := x_b.on bw2
  replace y := y.below bw2
  replace x_l := x_l.on bw2
  have ⟨x_a_0, x_a_1, x_a_2, x_a_3, x_a_4, x_a_5⟩ := x_a
  have ⟨x_l_0, x_l_1, x_l_2, x_l_3, x_l_4, x_l_5, x_l_6, x_l_7⟩ := x_l
  go_wp2_with (go_at_call 36; fail)
  refine (hSame d g2 ld h2 cd k2 Da w2 q.nd.sl q.nd.len (by have := y.rd.hd; rwa [Int.natAbs_natCast] at this) (by have := y.fd; rwa [Int.natAbs_natCast] at this)).mono ?_
  rintro e w3 ⟨rfl, bw3⟩
  clear x_a_0 x_a_1 x_a_2 x_a_3 x_a_4 x_a_5 x_l_0 x_l_1 x_l_2 x_l_3 x_l_4 x_l_5 x_l_6 x_l_7
  have zbw3 := bw3.size
  replace q := q.below bw3
  replace x := x.below bw3
  replace BB := also BB bw3
  replace x_a := x_a.on bw3
  replace x_b := x_b.on bw3
  replace y := y.below bw3
  replace x_l := x_l.on bw3
  go_wp2
  go_ret
  exact ⟨rfl, BB⟩
end Go.Proofs.YtcaihoomcdbfnaaGreat

namespace Go.Proofs.YtcaihoomcdbfnaaGreat
open Go.RowKit
set_option linter.unusedVariables false

theorem b8_new (w : World) (x0 x1 x2 x3 x4 x5 x6 x7 : Value) (t : TypeId) : B8 (w.alloc (.cells #[x0, x1, x2, x3, x4, x5, x6, x7] t)) w.heap.size x0 x1 x2 x3 x4 x5 x6 x7 := by
  have h := Row.new w [x0, x1, x2, x3, x4, x5, x6, x7] t
  exact ⟨h.cell 0 _ rfl, h.cell 1 _ rfl, h.cell 2 _ rfl, h.cell 3 _ rfl, h.cell 4 _ rfl, h.cell 5 _ rfl, h.cell 6 _ rfl, h.cell 7 _ rfl, h.free 0 (by simp), h.free 1 (by simp), h.free 2 (by simp), h.free 3 (by simp), h.free 4 (by simp), h.free 5 (by simp), h.free 6 (by simp), h.free 7 (by simp)⟩
end Go.Proofs.YtcaihoomcdbfnaaGreat
