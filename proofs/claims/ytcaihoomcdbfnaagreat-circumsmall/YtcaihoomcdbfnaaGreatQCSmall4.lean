/-
  Joined texts of this law, part 4:
  What zelligeref05's Add and Sub answer.
  What zelligeref09's Far, Same and Nought answer.
  Mathematics of a field, by fractions in lowest terms: what was added, or multiplied, can be taken back, and a factor goes to each part of a sum.
  The circle of three points in lowest terms: the center, how far it is from the corners, and which circles are small. It imports nothing of the program but what fractions in lowest terms are.
-/
import Derived.Test.YtcaihoomcdbfnaaGreatQCSmall3
namespace Go.Proofs.YtcaihoomcdbfnaaGreat
open Go.RowKit
set_option linter.unusedVariables false

set_option maxRecDepth 100000 in
set_option maxHeartbeats 1000000 in
theorem rqAdd (s1 : Int) (d1 : Option Addr) (l1 c1 : Nat) (t1 : Int) (g1 : Option Addr) (h1 k1 : Nat) (N1 : Int) (D1 : Nat) (s2 : Int) (d2 : Option Addr) (l2 c2 : Nat) (t2 : Int) (g2 : Option Addr) (h2 k2 : Nat) (N2 : Int) (D2 : Nat) (K : Nat) (w : World) (x : RQ w K s1 d1 l1 c1 t1 g1 h1 k1 N1 D1) (y : RQ w K s2 d2 l2 c2 t2 g2 h2 k2 N2 D2) (kk : K + K + 1 ≤ 10000) (N : Int) (D : Nat) (hN : N = N1 * (D2 : Int) + N2 * (D1 : Int)) (hD : D = D1 * D2) :
    Calls Tryz.prog 21 #[.agg #[.int .i64 s1, .slice d1 l1 c1, .int .i64 t1, .slice g1 h1 k1], .agg #[.int .i64 s2, .slice d2 l2 c2, .int .i64 t2, .slice g2 h2 k2]] w (GotRQ w (fun _ => True) (K + K + 1) N D) := by
  have fx := x.fn
  have fy := y.fn
  have gx := x.fd
  have gy := y.fd
  have HS : Hid (N.natAbs < 4294967296 ^ (K + K + 1)) := by unfold Hid; rw [hN]; exact abs_add' (abs_mul' x.ns (by simpa using y.ds)) (abs_mul' y.ns (by simpa using x.ds))
  have HT : Hid (D < 4294967296 ^ (K + K + 1)) := by unfold Hid; rw [hD]; exact Nat.lt_of_lt_of_le (nat_mul' x.ds y.ds) (Nat.pow_le_pow_right (by decide) (by omega))
  have d0 : 0 < D := by rw [hD]; exact Nat.mul_pos x.dp y.dp
  have f1 : hf.nlen (N1 * (D2 : Int)).natAbs ≤ 1000000 := hfew (abs_mul' x.ns (by simpa using y.ds)) (by omega)
  have f2 : hf.nlen (N2 * (D1 : Int)).natAbs ≤ 1000000 := hfew (abs_mul' y.ns (by simpa using x.ds)) (by omega)
  have HN : Hid _ := hN
  have HD : Hid ((D : Int) = (D1 : Int) * (D2 : Int)) := by unfold Hid; rw [hD]; simp
  clear hN hD
  obtain ⟨W, hW, bW, x_a, x_b, x_z, sW⟩ := bs_444 w (.int .i64 s1) (.slice d1 l1 c1) (.int .i64 t1) (.slice g1 h1 k1) (.int .i64 s2) (.slice d2 l2 c2) (.int .i64 t2) (.slice g2 h2 k2) (.int .i64 0) (.slice none 0 0) (.int .i64 0) (.slice none 0 0) 41 41 41
  have zbW := bW.size
  replace x := x.below bW
  replace y := y.below bW
  have BB := bW
  go_enter Tryz.func21, Tryz.ntmps21
  go_wp2
  rw [← hW]
  clear hW
  have dd1 : Below W.heap.size W W.drew := (Below.refl _ _).drew
  have zdd1 := dd1.size
  replace x := x.below dd1
  replace y := y.below dd1
  replace BB := also BB dd1
  replace x_a := x_a.on dd1
  replace x_b := x_b.on dd1
  replace x_z := x_z.on dd1
  refine wp_region_held_drew (S := (fun w' => w'.cell? ⟨w.heap.size, 0, none⟩ = some (.int .i64 s1) ∧ w'.cell? ⟨w.heap.size, 1, none⟩ = some (.slice d1 l1 c1) ∧ w'.cell? ⟨w.heap.size, 2, none⟩ = some (.int .i64 t1) ∧ w'.cell? ⟨w.heap.size, 3, none⟩ = some (.slice g1 h1 k1) ∧ w'.cell? ⟨w.heap.size + 1, 0, none⟩ = some (.int .i64 s2) ∧ w'.cell? ⟨w.heap.size + 1, 1, none⟩ = some (.slice d2 l2 c2) ∧ w'.cell? ⟨w.heap.size + 1, 2, none⟩ = some (.int .i64 t2) ∧ w'.cell? ⟨w.heap.size + 1, 3, none⟩ = some (.slice g2 h2 k2) ∧ Below w.heap.size w w')) (by kernel_rfl) ?_ (fun hHeld => ?_)
  · first | exact ⟨x_a.c0, x_a.c1, x_a.c2, x_a.c3, x_b.c0, x_b.c1, x_b.c2, x_b.c3, BB⟩ | exact ⟨cell_on bw6 hHeld.1, cell_on bw6 hHeld.2.1, cell_on bw6 hHeld.2.2.1, cell_on bw6 hHeld.2.2.2.1, cell_on bw6 hHeld.2.2.2.2.1, cell_on bw6 hHeld.2.2.2.2.2.1, cell_on bw6 hHeld.2.2.2.2.2.2.1, cell_on bw6 hHeld.2.2.2.2.2.2.2.1, also hHeld.2.2.2.2.2.2.2.2 bw6⟩ | exact ⟨cell_on bw5 hHeld.1, cell_on bw5 hHeld.2.1, cell_on bw5 hHeld.2.2.1, cell_on bw5 hHeld.2.2.2.1, cell_on bw5 hHeld.2.2.2.2.1, cell_on bw5 hHeld.2.2.2.2.2.1, cell_on bw5 hHeld.2.2.2.2.2.2.1, cell_on bw5 hHeld.2.2.2.2.2.2.2.1, also hHeld.2.2.2.2.2.2.2.2 bw5⟩ | exact ⟨cell_on bw4 hHeld.1, cell_on bw4 hHeld.2.1, cell_on bw4 hHeld.2.2.1, cell_on bw4 hHeld.2.2.2.1, cell_on bw4 hHeld.2.2.2.2.1, cell_on bw4 hHeld.2.2.2.2.2.1, cell_on bw4 hHeld.2.2.2.2.2.2.1, cell_on bw4 hHeld.2.2.2.2.2.2.2.1, also hHeld.2.2.2.2.2.2.2.2 bw4⟩ | exact ⟨cell_on bw3 hHeld.1, cell_on bw3 hHeld.2.1, cell_on bw3 hHeld.2.2.1, cell_on bw3 hHeld.2.2.2.1, cell_on bw3 hHeld.2.2.2.2.1, cell_on bw3 hHeld.2.2.2.2.2.1, cell_on bw3 hHeld.2.2.2.2.2.2.1, cell_on bw3 hHeld.2.2.2.2.2.2.2.1, also hHeld.2.2.2.2.2.2.2.2 bw3⟩ | exact ⟨cell_put4 hHeld.1 (by omega) _ _ _ _, cell_put4 hHeld.2.1 (by omega) _ _ _ _, cell_put4 hHeld.2.2.1 (by omega) _ _ _ _, cell_put4 hHeld.2.2.2.1 (by omega) _ _ _ _, cell_put4 hHeld.2.2.2.2.1 (by omega) _ _ _ _, cell_put4 hHeld.2.2.2.2.2.1 (by omega) _ _ _ _, cell_put4 hHeld.2.2.2.2.2.2.1 (by omega) _ _ _ _, cell_put4 hHeld.2.2.2.2.2.2.2.1 (by omega) _ _ _ _, below_put4 hHeld.2.2.2.2.2.2.2.2 (by omega) _ _ _ _⟩
  refine take_yes (i := 0) (v := ?vr0) rfl (by kernel_rfl) (by kernel_rfl) (by kernel_rfl) (fun _ _ _ h => h) (by rfl) (by assumption) ?hyr0 ?restr0
  case hyr0 => (intro w hSw; (try dsimp only at hSw); first | (go_simp; done) | (go_simp; with_reducible rfl))
  simp only [Act.put, List.setIfInBounds_toArray, List.set_cons_zero, List.set_cons_succ]
  refine take_yes (i := 1) (v := ?vr1) rfl (by kernel_rfl) (by kernel_rfl) (by kernel_rfl) (fun _ _ _ h => h) (by rfl) (by assumption) ?hyr1 ?restr1
  case hyr1 => (intro w hSw; (try dsimp only at hSw); first | (go_simp; done) | (go_simp; with_reducible rfl))
  simp only [Act.put, List.setIfInBounds_toArray, List.set_cons_zero, List.set_cons_succ]
  refine take_yes (i := 2) (v := ?vr2) rfl (by kernel_rfl) (by kernel_rfl) (by kernel_rfl) (fun _ _ _ h => h) (by rfl) (by assumption) ?hyr2 ?restr2
  case hyr2 => (intro w hSw; (try dsimp only at hSw); first | (go_simp; done) | (go_simp; with_reducible rfl))
  simp only [Act.put, List.setIfInBounds_toArray, List.set_cons_zero, List.set_cons_succ]
  refine take_yes (i := 3) (v := ?vr3) rfl (by kernel_rfl) (by kernel_rfl) (by kernel_rfl) (fun _ _ _ h => h) (by rfl) (by assumption) ?hyr3 ?restr3
  case hyr3 => (intro w hSw; (try dsimp only at hSw); first | (go_simp; done) | (go_simp; with_reducible rfl))
  simp only [Act.put, List.setIfInBounds_toArray, List.set_cons_zero, List.set_cons_succ]
  refine take_yes (i := 5) (v := ?vr5) rfl (by kernel_rfl) (by kernel_rfl) (by kernel_rfl) (fun _ _ _ h => h) (by rfl) (by assumption) ?hyr5 ?restr5
  case hyr5 => (intro w hSw; (try dsimp only at hSw); first | (go_simp; done) | (go_simp; with_reducible rfl))
  simp only [Act.put, List.setIfInBounds_toArray, List.set_cons_zero, List.set_cons_succ]
  refine take_yes (i := 6) (v := ?vr6) rfl (by kernel_rfl) (by kernel_rfl) (by kernel_rfl) (fun _ _ _ h => h) (by rfl) (by assumption) ?hyr6 ?restr6
  case hyr6 => (intro w hSw; (try dsimp only at hSw); first | (go_simp; done) | (go_simp; with_reducible rfl))
  simp only [Act.put, List.setIfInBounds_toArray, List.set_cons_zero, List.set_cons_succ]
  refine take_yes (i := 7) (v := ?vr7) rfl (by kernel_rfl) (by kernel_rfl) (by kernel_rfl) (fun _ _ _ h => h) (by rfl) (by assumption) ?hyr7 ?restr7
  case hyr7 => (intro w hSw; (try dsimp only at hSw); first | (go_simp; done) | (go_simp; with_reducible rfl))
  simp only [Act.put, List.setIfInBounds_toArray, List.set_cons_zero, List.set_cons_succ]
  refine take_yes (i := 8) (v := ?vr8) rfl (by kernel_rfl) (by kernel_rfl) (by kernel_rfl) (fun _ _ _ h => h) (by rfl) (by assumption) ?hyr8 ?restr8
  case hyr8 => (intro w hSw; (try dsimp only at hSw); first | (go_simp; done) | (go_simp; with_reducible rfl))
  simp only [Act.put, List.setIfInBounds_toArray, List.set_cons_zero, List.set_cons_succ]
  refine take_yes (i := 11) (v := ?vr11) rfl (by kernel_rfl) (by kernel_rfl) (by kernel_rfl) (fun _ _ _ h => h) (by rfl) (by assumption) ?hyr11 ?restr11
  case hyr11 => (intro w hSw; (try dsimp only at hSw); first | (go_simp; done) | (go_simp; with_reducible rfl))
  simp only [Act.put, List.setIfInBounds_toArray, List.set_cons_zero, List.set_cons_succ]
  refine take_yes (i := 12) (v := ?vr12) rfl (by kernel_rfl) (by kernel_rfl) (by kernel_rfl) (fun _ _ _ h => h) (by rfl) (by assumption) ?hyr12 ?restr12
  case hyr12 => (intro w hSw; (try dsimp only at hSw); first | (go_simp; done) | (go_simp; with_reducible rfl))
  simp only [Act.put, List.setIfInBounds_toArray, List.set_cons_zero, List.set_cons_succ]
  refine take_yes (i := 13) (v := ?vr13) rfl (by kernel_rfl) (by kernel_rfl) (by kernel_rfl) (fun _ _ _ h => h) (by rfl) (by assumption) ?hyr13 ?restr13
  case hyr13 => (intro w hSw; (try dsimp only at hSw); first | (go_simp; done) | (go_simp; with_reducible rfl))
  simp only [Act.put, List.setIfInBounds_toArray, List.set_cons_zero, List.set_cons_succ]
  refine take_yes (i := 14) (v := ?vr14) rfl (by kernel_rfl) (by kernel_rfl) (by kernel_rfl) (fun _ _ _ h => h) (by rfl) (by assumption) ?hyr14 ?restr14
  case hyr14 => (intro w hSw; (try dsimp only at hSw); first | (go_simp; done) | (go_simp; with_reducible rfl))
  simp only [Act.put, List.setIfInBounds_toArray, List.set_cons_zero, List.set_cons_succ]
  refine take_call (i := 4) rfl (by kernel_rfl) (fun Kc hK => ?_)
  go_simp
  (go_at_call 48; refine (rwMul s1 t2 d1 g2 l1 c1 h2 k2 N1 D2 _ _ x.rn y.rd fx gy rfl).mono ?_; rintro e w3 ⟨s3, d3, l3, c3, rfl, q3, f3, bw3⟩)
  refine hK.out _ _ ?_ (fun hHeld => ?_)
  · first | exact ⟨x_a.c0, x_a.c1, x_a.c2, x_a.c3, x_b.c0, x_b.c1, x_b.c2, x_b.c3, BB⟩ | exact ⟨cell_on bw6 hHeld.1, cell_on bw6 hHeld.2.1, cell_on bw6 hHeld.2.2.1, cell_on bw6 hHeld.2.2.2.1, cell_on bw6 hHeld.2.2.2.2.1, cell_on bw6 hHeld.2.2.2.2.2.1, cell_on bw6 hHeld.2.2.2.2.2.2.1, cell_on bw6 hHeld.2.2.2.2.2.2.2.1, also hHeld.2.2.2.2.2.2.2.2 bw6⟩ | exact ⟨cell_on bw5 hHeld.1, cell_on bw5 hHeld.2.1, cell_on bw5 hHeld.2.2.1, cell_on bw5 hHeld.2.2.2.1, cell_on bw5 hHeld.2.2.2.2.1, cell_on bw5 hHeld.2.2.2.2.2.1, cell_on bw5 hHeld.2.2.2.2.2.2.1, cell_on bw5 hHeld.2.2.2.2.2.2.2.1, also hHeld.2.2.2.2.2.2.2.2 bw5⟩ | exact ⟨cell_on bw4 hHeld.1, cell_on bw4 hHeld.2.1, cell_on bw4 hHeld.2.2.1, cell_on bw4 hHeld.2.2.2.1, cell_on bw4 hHeld.2.2.2.2.1, cell_on bw4 hHeld.2.2.2.2.2.1, cell_on bw4 hHeld.2.2.2.2.2.2.1, cell_on bw4 hHeld.2.2.2.2.2.2.2.1, also hHeld.2.2.2.2.2.2.2.2 bw4⟩ | exact ⟨cell_on bw3 hHeld.1, cell_on bw3 hHeld.2.1, cell_on bw3 hHeld.2.2.1, cell_on bw3 hHeld.2.2.2.1, cell_on bw3 hHeld.2.2.2.2.1, cell_on bw3 hHeld.2.2.2.2.2.1, cell_on bw3 hHeld.2.2.2.2.2.2.1, cell_on bw3 hHeld.2.2.2.2.2.2.2.1, also hHeld.2.2.2.2.2.2.2.2 bw3⟩ | exact ⟨cell_put4 hHeld.1 (by omega) _ _ _ _, cell_put4 hHeld.2.1 (by omega) _ _ _ _, cell_put4 hHeld.2.2.1 (by omega) _ _ _ _, cell_put4 hHeld.2.2.2.1 (by omega) _ _ _ _, cell_put4 hHeld.2.2.2.2.1 (by omega) _ _ _ _, cell_put4 hHeld.2.2.2.2.2.1 (by omega) _ _ _ _, cell_put4 hHeld.2.2.2.2.2.2.1 (by omega) _ _ _ _, cell_put4 hHeld.2.2.2.2.2.2.2.1 (by omega) _ _ _ _, below_put4 hHeld.2.2.2.2.2.2.2.2 (by omega) _ _ _ _⟩
  clear hK Kc
  have zbw3 := bw3.size
  replace x := x.below bw3
  replace y := y.below bw3
  replace BB := also BB bw3
  replace x_a := x_a.on bw3
  replace x_b := x_b.on bw3
  replace x_z := x_z.on bw3
  refine take_call (i := 9) rfl (by kernel_rfl) (fun Kc hK => ?_)
  go_simp
  (go_at_call 48; refine (rwMul s2 t1 d2 g1 l2 c2 h1 k1 N2 D1 _ _ y.rn x.rd fy gx rfl).mono ?_; rintro e w4 ⟨s4, d4, l4, c4, rfl, q4, f4, bw4⟩)
  refine hK.out _ _ ?_ (fun hHeld => ?_)
  · first | exact ⟨x_a.c0, x_a.c1, x_a.c2, x_a.c3, x_b.c0, x_b.c1, x_b.c2, x_b.c3, BB⟩ | exact ⟨cell_on bw6 hHeld.1, cell_on bw6 hHeld.2.1, cell_on bw6 hHeld.2.2.1, cell_on bw6 hHeld.2.2.2.1, cell_on bw6 hHeld.2.2.2.2.1, cell_on bw6 hHeld.2.2.2.2.2.1, cell_on bw6 hHeld.2.2.2.2.2.2.1, cell_on bw6 hHeld.2.2.2.2.2.2.2.1, also hHeld.2.2.2.2.2.2.2.2 bw6⟩ | exact ⟨cell_on bw5 hHeld.1, cell_on bw5 hHeld.2.1, cell_on bw5 hHeld.2.2.1, cell_on bw5 hHeld.2.2.2.1, cell_on bw5 hHeld.2.2.2.2.1, cell_on bw5 hHeld.2.2.2.2.2.1, cell_on bw5 hHeld.2.2.2.2.2.2.1, cell_on bw5 hHeld.2.2.2.2.2.2.2.1, also hHeld.2.2.2.2.2.2.2.2 bw5⟩ | exact ⟨cell_on bw4 hHeld.1, cell_on bw4 hHeld.2.1, cell_on bw4 hHeld.2.2.1, cell_on bw4 hHeld.2.2.2.1, cell_on bw4 hHeld.2.2.2.2.1, cell_on bw4 hHeld.2.2.2.2.2.1, cell_on bw4 hHeld.2.2.2.2.2.2.1, cell_on bw4 hHeld.2.2.2.2.2.2.2.1, also hHeld.2.2.2.2.2.2.2.2 bw4⟩ | exact ⟨cell_on bw3 hHeld.1, cell_on bw3 hHeld.2.1, cell_on bw3 hHeld.2.2.1, cell_on bw3 hHeld.2.2.2.1, cell_on bw3 hHeld.2.2.2.2.1, cell_on bw3 hHeld.2.2.2.2.2.1, cell_on bw3 hHeld.2.2.2.2.2.2.1, cell_on bw3 hHeld.2.2.2.2.2.2.2.1, also hHeld.2.2.2.2.2.2.2.2 bw3⟩ | exact ⟨cell_put4 hHeld.1 (by omega) _ _ _ _, cell_put4 hHeld.2.1 (by omega) _ _ _ _, cell_put4 hHeld.2.2.1 (by omega) _ _ _ _, cell_put4 hHeld.2.2.2.1 (by omega) _ _ _ _, cell_put4 hHeld.2.2.2.2.1 (by omega) _ _ _ _, cell_put4 hHeld.2.2.2.2.2.1 (by omega) _ _ _ _, cell_put4 hHeld.2.2.2.2.2.2.1 (by omega) _ _ _ _, cell_put4 hHeld.2.2.2.2.2.2.2.1 (by omega) _ _ _ _, below_put4 hHeld.2.2.2.2.2.2.2.2 (by omega) _ _ _ _⟩
  clear hK Kc
  have zbw4 := bw4.size
  replace x := x.below bw4
  replace y := y.below bw4
  replace BB := also BB bw4
  replace x_a := x_a.on bw4
  replace x_b := x_b.on bw4
  replace x_z := x_z.on bw4
  replace q3 := q3.below bw4
  refine take_call (i := 10) rfl (by kernel_rfl) (fun Kc hK => ?_)
  go_simp
  (go_at_call 47; refine (rwAdd s3 s4 d3 d4 l3 c3 l4 c4 _ _ N _ q3 q4 f1 f2 HN.out).mono ?_; rintro e w5 ⟨s5, d5, l5, c5, rfl, q5, f5, bw5⟩)
  refine hK.out _ _ ?_ (fun hHeld => ?_)
  · first | exact ⟨x_a.c0, x_a.c1, x_a.c2, x_a.c3, x_b.c0, x_b.c1, x_b.c2, x_b.c3, BB⟩ | exact ⟨cell_on bw6 hHeld.1, cell_on bw6 hHeld.2.1, cell_on bw6 hHeld.2.2.1, cell_on bw6 hHeld.2.2.2.1, cell_on bw6 hHeld.2.2.2.2.1, cell_on bw6 hHeld.2.2.2.2.2.1, cell_on bw6 hHeld.2.2.2.2.2.2.1, cell_on bw6 hHeld.2.2.2.2.2.2.2.1, also hHeld.2.2.2.2.2.2.2.2 bw6⟩ | exact ⟨cell_on bw5 hHeld.1, cell_on bw5 hHeld.2.1, cell_on bw5 hHeld.2.2.1, cell_on bw5 hHeld.2.2.2.1, cell_on bw5 hHeld.2.2.2.2.1, cell_on bw5 hHeld.2.2.2.2.2.1, cell_on bw5 hHeld.2.2.2.2.2.2.1, cell_on bw5 hHeld.2.2.2.2.2.2.2.1, also hHeld.2.2.2.2.2.2.2.2 bw5⟩ | exact ⟨cell_on bw4 hHeld.1, cell_on bw4 hHeld.2.1, cell_on bw4 hHeld.2.2.1, cell_on bw4 hHeld.2.2.2.1, cell_on bw4 hHeld.2.2.2.2.1, cell_on bw4 hHeld.2.2.2.2.2.1, cell_on bw4 hHeld.2.2.2.2.2.2.1, cell_on bw4 hHeld.2.2.2.2.2.2.2.1, also hHeld.2.2.2.2.2.2.2.2 bw4⟩ | exact ⟨cell_on bw3 hHeld.1, cell_on bw3 hHeld.2.1, cell_on bw3 hHeld.2.2.1, cell_on bw3 hHeld.2.2.2.1, cell_on bw3 hHeld.2.2.2.2.1, cell_on bw3 hHeld.2.2.2.2.2.1, cell_on bw3 hHeld.2.2.2.2.2.2.1, cell_on bw3 hHeld.2.2.2.2.2.2.2.1, also hHeld.2.2.2.2.2.2.2.2 bw3⟩ | exact ⟨cell_put4 hHeld.1 (by omega) _ _ _ _, cell_put4 hHeld.2.1 (by omega) _ _ _ _, cell_put4 hHeld.2.2.1 (by omega) _ _ _ _, cell_put4 hHeld.2.2.2.1 (by omega) _ _ _ _, cell_put4 hHeld.2.2.2.2.1 (by omega) _ _ _ _, cell_put4 hHeld.2.2.2.2.2.1 (by omega) _ _ _ _, cell_put4 hHeld.2.2.2.2.2.2.1 (by omega) _ _ _ _, cell_put4 hHeld.2.2.2.2.2.2.2.1 (by omega) _ _ _ _, below_put4 hHeld.2.2.2.2.2.2.2.2 (by omega) _ _ _ _⟩
  clear hK Kc
  have zbw5 := bw5.size
  replace x := x.below bw5
  replace y := y.below bw5
  replace BB := also BB bw5
  replace x_a := x_a.on bw5
  replace x_b := x_b.on bw5
  replace x_z := x_z.on bw5
  replace q3 := q3.below bw5
  replace q4 := q4.below bw5
  refine take_call (i := 15) rfl (by kernel_rfl) (fun Kc hK => ?_)
  go_simp
  (go_at_call 48; refine (rwMul t1 t2 g1 g2 h1 k1 h2 k2 D1 D2 D _ x.rd y.rd gx gy HD.out).mono ?_; rintro e w6 ⟨s6, d6, l6, c6, rfl, q6, f6, bw6⟩)
  refine hK.out _ _ ?_ (fun hHeld => ?_)
  · first | exact ⟨x_a.c0, x_a.c1, x_a.c2, x_a.c3, x_b.c0, x_b.c1, x_b.c2, x_b.c3, BB⟩ | exact ⟨cell_on bw6 hHeld.1, cell_on bw6 hHeld.2.1, cell_on bw6 hHeld.2.2.1, cell_on bw6 hHeld.2.2.2.1, cell_on bw6 hHeld.2.2.2.2.1, cell_on bw6 hHeld.2.2.2.2.2.1, cell_on bw6 hHeld.2.2.2.2.2.2.1, cell_on bw6 hHeld.2.2.2.2.2.2.2.1, also hHeld.2.2.2.2.2.2.2.2 bw6⟩ | exact ⟨cell_on bw5 hHeld.1, cell_on bw5 hHeld.2.1, cell_on bw5 hHeld.2.2.1, cell_on bw5 hHeld.2.2.2.1, cell_on bw5 hHeld.2.2.2.2.1, cell_on bw5 hHeld.2.2.2.2.2.1, cell_on bw5 hHeld.2.2.2.2.2.2.1, cell_on bw5 hHeld.2.2.2.2.2.2.2.1, also hHeld.2.2.2.2.2.2.2.2 bw5⟩ | exact ⟨cell_on bw4 hHeld.1, cell_on bw4 hHeld.2.1, cell_on bw4 hHeld.2.2.1, cell_on bw4 hHeld.2.2.2.1, cell_on bw4 hHeld.2.2.2.2.1, cell_on bw4 hHeld.2.2.2.2.2.1, cell_on bw4 hHeld.2.2.2.2.2.2.1, cell_on bw4 hHeld.2.2.2.2.2.2.2.1, also hHeld.2.2.2.2.2.2.2.2 bw4⟩ | exact ⟨cell_on bw3 hHeld.1, cell_on bw3 hHeld.2.1, cell_on bw3 hHeld.2.2.1, cell_on bw3 hHeld.2.2.2.1, cell_on bw3 hHeld.2.2.2.2.1, cell_on bw3 hHeld.2.2.2.2.2.1, cell_on bw3 hHeld.2.2.2.2.2.2.1, cell_on bw3 hHeld.2.2.2.2.2.2.2.1, also hHeld.2.2.2.2.2.2.2.2 bw3⟩ | exact ⟨cell_put4 hHeld.1 (by omega) _ _ _ _, cell_put4 hHeld.2.1 (by omega) _ _ _ _, cell_put4 hHeld.2.2.1 (by omega) _ _ _ _, cell_put4 hHeld.2.2.2.1 (by omega) _ _ _ _, cell_put4 hHeld.2.2.2.2.1 (by omega) _ _ _ _, cell_put4 hHeld.2.2.2.2.2.1 (by omega) _ _ _ _, cell_put4 hHeld.2.2.2.2.2.2.1 (by omega) _ _ _ _, cell_put4 hHeld.2.2.2.2.2.2.2.1 (by omega) _ _ _ _, below_put4 hHeld.2.2.2.2.2.2.2.2 (by omega) _ _ _ _⟩
  clear hK Kc
  have zbw6 := bw6.size
  replace x := x.below bw6
  replace y := y.below bw6
  replace BB := also BB bw6
  replace x_a := x_a.on bw6
  replace x_b := x_b.on bw6
  replace x_z := x_z.on bw6
  replace q3 := q3.below bw6
  replace q4 := q4.below bw6
  replace q5 := q5.below bw6
  refine take_yes (i := 16) (v := ?vr16) rfl (by kernel_rfl) (by kernel_rfl) (by kernel_rfl) (fun _ _ _ h => h) (by rfl) (by assumption) ?hyr16 ?restr16
  case hyr16 => (intro w hSw; (try dsimp only at hSw); first | (go_simp; done) | (go_simp; with_reducible rfl))
  simp only [Act.put, List.setIfInBounds_toArray, List.set_cons_zero, List.set_cons_succ]
  have ⟨x_z_0, x_z_1, x_z_2, x_z_3, x_z_4, x_z_5, x_z_6, x_z_7⟩ := x_z
  refine take_call (i := 17) rfl (by kernel_rfl) (fun Kc hK => ?_)
  go_simp
  refine hK.out _ _ ?_ (fun hHeld => ?_)
  · first | exact ⟨x_a.c0, x_a.c1, x_a.c2, x_a.c3, x_b.c0, x_b.c1, x_b.c2, x_b.c3, BB⟩ | exact ⟨cell_on bw6 hHeld.1, cell_on bw6 hHeld.2.1, cell_on bw6 hHeld.2.2.1, cell_on bw6 hHeld.2.2.2.1, cell_on bw6 hHeld.2.2.2.2.1, cell_on bw6 hHeld.2.2.2.2.2.1, cell_on bw6 hHeld.2.2.2.2.2.2.1, cell_on bw6 hHeld.2.2.2.2.2.2.2.1, also hHeld.2.2.2.2.2.2.2.2 bw6⟩ | exact ⟨cell_on bw5 hHeld.1, cell_on bw5 hHeld.2.1, cell_on bw5 hHeld.2.2.1, cell_on bw5 hHeld.2.2.2.1, cell_on bw5 hHeld.2.2.2.2.1, cell_on bw5 hHeld.2.2.2.2.2.1, cell_on bw5 hHeld.2.2.2.2.2.2.1, cell_on bw5 hHeld.2.2.2.2.2.2.2.1, also hHeld.2.2.2.2.2.2.2.2 bw5⟩ | exact ⟨cell_on bw4 hHeld.1, cell_on bw4 hHeld.2.1, cell_on bw4 hHeld.2.2.1, cell_on bw4 hHeld.2.2.2.1, cell_on bw4 hHeld.2.2.2.2.1, cell_on bw4 hHeld.2.2.2.2.2.1, cell_on bw4 hHeld.2.2.2.2.2.2.1, cell_on bw4 hHeld.2.2.2.2.2.2.2.1, also hHeld.2.2.2.2.2.2.2.2 bw4⟩ | exact ⟨cell_on bw3 hHeld.1, cell_on bw3 hHeld.2.1, cell_on bw3 hHeld.2.2.1, cell_on bw3 hHeld.2.2.2.1, cell_on bw3 hHeld.2.2.2.2.1, cell_on bw3 hHeld.2.2.2.2.2.1, cell_on bw3 hHeld.2.2.2.2.2.2.1, cell_on bw3 hHeld.2.2.2.2.2.2.2.1, also hHeld.2.2.2.2.2.2.2.2 bw3⟩ | exact ⟨cell_put4 hHeld.1 (by omega) _ _ _ _, cell_put4 hHeld.2.1 (by omega) _ _ _ _, cell_put4 hHeld.2.2.1 (by omega) _ _ _ _, cell_put4 hHeld.2.2.2.1 (by omega) _ _ _ _, cell_put4 hHeld.2.2.2.2.1 (by omega) _ _ _ _, cell_put4 hHeld.2.2.2.2.2.1 (by omega) _ _ _ _, cell_put4 hHeld.2.2.2.2.2.2.1 (by omega) _ _ _ _, cell_put4 hHeld.2.2.2.2.2.2.2.1 (by omega) _ _ _ _, below_put4 hHeld.2.2.2.2.2.2.2.2 (by omega) _ _ _ _⟩
  clear hK Kc
  refine wpAnyH_done (by kernel_rfl) ?_ _
  go_wp2
  exact bodyPost_ret (v := .agg #[.int .i64 s5, .slice d5 l5 c5, .int .i64 s6, .slice d6 l6 c6]) (by simp [results, Tryz.results21, go_sem, *]) rfl (endRQ _ (by omega) BB ⟨q5, q6, d0, HS.out, HT.out, kk⟩ (f5 _ (by omega) ⟨f3 _ (by omega) trivial, f4 _ (by omega) trivial⟩) (f6 _ (by omega) trivial) (fun j hj _ => ⟨f5 j (by omega) ⟨f3 _ (by omega) trivial, f4 _ (by omega) trivial⟩, f6 j (by omega) trivial⟩) _ _ _ _)
set_option maxRecDepth 100000 in
set_option maxHeartbeats 1000000 in
theorem rqSub (s1 : Int) (d1 : Option Addr) (l1 c1 : Nat) (t1 : Int) (g1 : Option Addr) (h1 k1 : Nat) (N1 : Int) (D1 : Nat) (s2 : Int) (d2 : Option Addr) (l2 c2 : Nat) (t2 : Int) (g2 : Option Addr) (h2 k2 : Nat) (N2 : Int) (D2 : Nat) (K : Nat) (w : World) (x : RQ w K s1 d1 l1 c1 t1 g1 h1 k1 N1 D1) (y : RQ w K s2 d2 l2 c2 t2 g2 h2 k2 N2 D2) (kk : K + K + 1 ≤ 10000) (N : Int) (D : Nat) (hN : N = N1 * (D2 : Int) + -N2 * (D1 : Int)) (hD : D = D1 * D2) :
    Calls Tryz.prog 40 #[.agg #[.int .i64 s1, .slice d1 l1 c1, .int .i64 t1, .slice g1 h1 k1], .agg #[.int .i64 s2, .slice d2 l2 c2, .int .i64 t2, .slice g2 h2 k2]] w (GotRQ w (fun _ => True) (K + K + 1) N D) := by
  have HN : Hid _ := hN
  have HD : Hid _ := hD
  have n1 : NA (w.heap.size + 1 + 1) d2 l2 := y.rn.hd.sl.na (by omega)
  have n2 : NA (w.heap.size + 1 + 1) g2 h2 := y.rd.hd.sl.na (by omega)
  clear hN hD
  obtain ⟨W, hW, bW, x_a, x_b, x_z, sW⟩ := bs_444 w (.int .i64 s1) (.slice d1 l1 c1) (.int .i64 t1) (.slice g1 h1 k1) (.int .i64 s2) (.slice d2 l2 c2) (.int .i64 t2) (.slice g2 h2 k2) (.int .i64 0) (.slice none 0 0) (.int .i64 0) (.slice none 0 0) 41 41 41
  have zbW := bW.size
  replace x := x.below bW
  replace y := y.below bW
  have BB := bW
  go_enter Tryz.func40, Tryz.ntmps40
  go_wp2
  rw [← hW]
  clear hW
  have dd1 : Below W.heap.size W W.drew := (Below.refl _ _).drew
  have zdd1 := dd1.size
  replace x := x.below dd1
  replace y := y.below dd1
  replace BB := also BB dd1
  replace x_a := x_a.on dd1
  replace x_b := x_b.on dd1
  replace x_z := x_z.on dd1
  refine wp_region_held_drew (S := (fun w' => w'.cell? ⟨w.heap.size, 0, none⟩ = some (.int .i64 s1) ∧ w'.cell? ⟨w.heap.size, 1, none⟩ = some (.slice d1 l1 c1) ∧ w'.cell? ⟨w.heap.size, 2, none⟩ = some (.int .i64 t1) ∧ w'.cell? ⟨w.heap.size, 3, none⟩ = some (.slice g1 h1 k1) ∧ w'.cell? ⟨w.heap.size + 1, 0, none⟩ = some (.int .i64 s2) ∧ w'.cell? ⟨w.heap.size + 1, 1, none⟩ = some (.slice d2 l2 c2) ∧ w'.cell? ⟨w.heap.size + 1, 2, none⟩ = some (.int .i64 t2) ∧ w'.cell? ⟨w.heap.size + 1, 3, none⟩ = some (.slice g2 h2 k2) ∧ Below w.heap.size w w')) (by kernel_rfl) ?_ (fun hHeld => ?_)
  · first | exact ⟨x_a.c0, x_a.c1, x_a.c2, x_a.c3, x_b.c0, x_b.c1, x_b.c2, x_b.c3, BB⟩ | exact ⟨cell_on bw4 hHeld.1, cell_on bw4 hHeld.2.1, cell_on bw4 hHeld.2.2.1, cell_on bw4 hHeld.2.2.2.1, cell_on bw4 hHeld.2.2.2.2.1, cell_on bw4 hHeld.2.2.2.2.2.1, cell_on bw4 hHeld.2.2.2.2.2.2.1, cell_on bw4 hHeld.2.2.2.2.2.2.2.1, also hHeld.2.2.2.2.2.2.2.2 bw4⟩ | exact ⟨cell_on bw3 hHeld.1, cell_on bw3 hHeld.2.1, cell_on bw3 hHeld.2.2.1, cell_on bw3 hHeld.2.2.2.1, cell_on bw3 hHeld.2.2.2.2.1, cell_on bw3 hHeld.2.2.2.2.2.1, cell_on bw3 hHeld.2.2.2.2.2.2.1, cell_on bw3 hHeld.2.2.2.2.2.2.2.1, also hHeld.2.2.2.2.2.2.2.2 bw3⟩ | exact ⟨cell_put4 hHeld.1 (by omega) _ _ _ _, cell_put4 hHeld.2.1 (by omega) _ _ _ _, cell_put4 hHeld.2.2.1 (by omega) _ _ _ _, cell_put4 hHeld.2.2.2.1 (by omega) _ _ _ _, cell_put4 hHeld.2.2.2.2.1 (by omega) _ _ _ _, cell_put4 hHeld.2.2.2.2.2.1 (by omega) _ _ _ _, cell_put4 hHeld.2.2.2.2.2.2.1 (by omega) _ _ _ _, cell_put4 hHeld.2.2.2.2.2.2.2.1 (by omega) _ _ _ _, below_put4 hHeld.2.2.2.2.2.2.2.2 (by omega) _ _ _ _⟩
  refine take_yes (i := 0) (v := ?vr0) rfl (by kernel_rfl) (by kernel_rfl) (by kernel_rfl) (fun _ _ _ h => h) (by rfl) (by assumption) ?hyr0 ?restr0
  case hyr0 => (intro w hSw; (try dsimp only at hSw); first | (go_simp; done) | (go_simp; with_reducible rfl))
  simp only [Act.put, List.setIfInBounds_toArray, List.set_cons_zero, List.set_cons_succ]
  refine take_yes (i := 1) (v := ?vr1) rfl (by kernel_rfl) (by kernel_rfl) (by kernel_rfl) (fun _ _ _ h => h) (by rfl) (by assumption) ?hyr1 ?restr1
  case hyr1 => (intro w hSw; (try dsimp only at hSw); first | (go_simp; done) | (go_simp; with_reducible rfl))
  simp only [Act.put, List.setIfInBounds_toArray, List.set_cons_zero, List.set_cons_succ]
  refine take_call (i := 2) rfl (by kernel_rfl) (fun Kc hK => ?_)
  go_simp
  (go_at_call 75; refine (rqNeg s2 d2 l2 c2 t2 g2 h2 k2 N2 D2 K _ y (-N2) rfl).mono ?_; rintro e w3 ⟨s3, d3, l3, c3, t3, g3, h3, k3, rfl, q3, f3, bw3⟩)
  refine hK.out _ _ ?_ (fun hHeld => ?_)
  · first | exact ⟨x_a.c0, x_a.c1, x_a.c2, x_a.c3, x_b.c0, x_b.c1, x_b.c2, x_b.c3, BB⟩ | exact ⟨cell_on bw4 hHeld.1, cell_on bw4 hHeld.2.1, cell_on bw4 hHeld.2.2.1, cell_on bw4 hHeld.2.2.2.1, cell_on bw4 hHeld.2.2.2.2.1, cell_on bw4 hHeld.2.2.2.2.2.1, cell_on bw4 hHeld.2.2.2.2.2.2.1, cell_on bw4 hHeld.2.2.2.2.2.2.2.1, also hHeld.2.2.2.2.2.2.2.2 bw4⟩ | exact ⟨cell_on bw3 hHeld.1, cell_on bw3 hHeld.2.1, cell_on bw3 hHeld.2.2.1, cell_on bw3 hHeld.2.2.2.1, cell_on bw3 hHeld.2.2.2.2.1, cell_on bw3 hHeld.2.2.2.2.2.1, cell_on bw3 hHeld.2.2.2.2.2.2.1, cell_on bw3 hHeld.2.2.2.2.2.2.2.1, also hHeld.2.2.2.2.2.2.2.2 bw3⟩ | exact ⟨cell_put4 hHeld.1 (by omega) _ _ _ _, cell_put4 hHeld.2.1 (by omega) _ _ _ _, cell_put4 hHeld.2.2.1 (by omega) _ _ _ _, cell_put4 hHeld.2.2.2.1 (by omega) _ _ _ _, cell_put4 hHeld.2.2.2.2.1 (by omega) _ _ _ _, cell_put4 hHeld.2.2.2.2.2.1 (by omega) _ _ _ _, cell_put4 hHeld.2.2.2.2.2.2.1 (by omega) _ _ _ _, cell_put4 hHeld.2.2.2.2.2.2.2.1 (by omega) _ _ _ _, below_put4 hHeld.2.2.2.2.2.2.2.2 (by omega) _ _ _ _⟩
  clear hK Kc
  have zbw3 := bw3.size
  replace x := x.below bw3
  replace y := y.below bw3
  replace BB := also BB bw3
  replace x_a := x_a.on bw3
  replace x_b := x_b.on bw3
  replace x_z := x_z.on bw3
  refine take_call (i := 3) rfl (by kernel_rfl) (fun Kc hK => ?_)
  go_simp
  (go_at_call 21; refine (rqAdd s1 d1 l1 c1 t1 g1 h1 k1 N1 D1 s3 d3 l3 c3 t3 g3 h3 k3 (-N2) D2 K _ x q3 kk N D HN.out HD.out).mono ?_; rintro e w4 ⟨s4, d4, l4, c4, t4, g4, h4, k4, rfl, q4, f4, bw4⟩)
  refine hK.out _ _ ?_ (fun hHeld => ?_)
  · first | exact ⟨x_a.c0, x_a.c1, x_a.c2, x_a.c3, x_b.c0, x_b.c1, x_b.c2, x_b.c3, BB⟩ | exact ⟨cell_on bw4 hHeld.1, cell_on bw4 hHeld.2.1, cell_on bw4 hHeld.2.2.1, cell_on bw4 hHeld.2.2.2.1, cell_on bw4 hHeld.2.2.2.2.1, cell_on bw4 hHeld.2.2.2.2.2.1, cell_on bw4 hHeld.2.2.2.2.2.2.1, cell_on bw4 hHeld.2.2.2.2.2.2.2.1, also hHeld.2.2.2.2.2.2.2.2 bw4⟩ | exact ⟨cell_on bw3 hHeld.1, cell_on bw3 hHeld.2.1, cell_on bw3 hHeld.2.2.1, cell_on bw3 hHeld.2.2.2.1, cell_on bw3 hHeld.2.2.2.2.1, cell_on bw3 hHeld.2.2.2.2.2.1, cell_on bw3 hHeld.2.2.2.2.2.2.1, cell_on bw3 hHeld.2.2.2.2.2.2.2.1, also hHeld.2.2.2.2.2.2.2.2 bw3⟩ | exact ⟨cell_put4 hHeld.1 (by omega) _ _ _ _, cell_put4 hHeld.2.1 (by omega) _ _ _ _, cell_put4 hHeld.2.2.1 (by omega) _ _ _ _, cell_put4 hHeld.2.2.2.1 (by omega) _ _ _ _, cell_put4 hHeld.2.2.2.2.1 (by omega) _ _ _ _, cell_put4 hHeld.2.2.2.2.2.1 (by omega) _ _ _ _, cell_put4 hHeld.2.2.2.2.2.2.1 (by omega) _ _ _ _, cell_put4 hHeld.2.2.2.2.2.2.2.1 (by omega) _ _ _ _, below_put4 hHeld.2.2.2.2.2.2.2.2 (by omega) _ _ _ _⟩
  clear hK Kc
  have zbw4 := bw4.size
  replace x := x.below bw4
  replace y := y.below bw4
  replace BB := also BB bw4
  replace x_a := x_a.on bw4
  replace x_b := x_b.on bw4
  replace x_z := x_z.on bw4
  replace q3 := q3.below bw4
  have ⟨x_z_0, x_z_1, x_z_2, x_z_3, x_z_4, x_z_5, x_z_6, x_z_7⟩ := x_z
  refine take_call (i := 4) rfl (by kernel_rfl) (fun Kc hK => ?_)
  go_simp
  refine hK.out _ _ ?_ (fun hHeld => ?_)
  · first | exact ⟨x_a.c0, x_a.c1, x_a.c2, x_a.c3, x_b.c0, x_b.c1, x_b.c2, x_b.c3, BB⟩ | exact ⟨cell_on bw4 hHeld.1, cell_on bw4 hHeld.2.1, cell_on bw4 hHeld.2.2.1, cell_on bw4 hHeld.2.2.2.1, cell_on bw4 hHeld.2.2.2.2.1, cell_on bw4 hHeld.2.2.2.2.2.1, cell_on bw4 hHeld.2.2.2.2.2.2.1, cell_on bw4 hHeld.2.2.2.2.2.2.2.1, also hHeld.2.2.2.2.2.2.2.2 bw4⟩ | exact ⟨cell_on bw3 hHeld.1, cell_on bw3 hHeld.2.1, cell_on bw3 hHeld.2.2.1, cell_on bw3 hHeld.2.2.2.1, cell_on bw3 hHeld.2.2.2.2.1, cell_on bw3 hHeld.2.2.2.2.2.1, cell_on bw3 hHeld.2.2.2.2.2.2.1, cell_on bw3 hHeld.2.2.2.2.2.2.2.1, also hHeld.2.2.2.2.2.2.2.2 bw3⟩ | exact ⟨cell_put4 hHeld.1 (by omega) _ _ _ _, cell_put4 hHeld.2.1 (by omega) _ _ _ _, cell_put4 hHeld.2.2.1 (by omega) _ _ _ _, cell_put4 hHeld.2.2.2.1 (by omega) _ _ _ _, cell_put4 hHeld.2.2.2.2.1 (by omega) _ _ _ _, cell_put4 hHeld.2.2.2.2.2.1 (by omega) _ _ _ _, cell_put4 hHeld.2.2.2.2.2.2.1 (by omega) _ _ _ _, cell_put4 hHeld.2.2.2.2.2.2.2.1 (by omega) _ _ _ _, below_put4 hHeld.2.2.2.2.2.2.2.2 (by omega) _ _ _ _⟩
  clear hK Kc
  refine wpAnyH_done (by kernel_rfl) ?_ _
  go_wp2
  exact bodyPost_ret (v := .agg #[.int .i64 s4, .slice d4 l4 c4, .int .i64 t4, .slice g4 h4 k4]) (by simp [results, Tryz.results40, go_sem, *]) rfl (endRQ _ (by omega) BB q4 (f4 _ (by omega) trivial).1 (f4 _ (by omega) trivial).2 (fun j hj _ => f4 j (by omega) trivial) _ _ _ _)
end Go.Proofs.YtcaihoomcdbfnaaGreat

namespace Go.Proofs.YtcaihoomcdbfnaaGreat
open Go.RowKit
set_option linter.unusedVariables false

theorem bs_824 (w : World) (x00 x01 x02 x03 x04 x05 x06 x07 x10 x11 x20 x21 x22 x23 : Value) (t0 t1 t2 : TypeId) : ∃ W, W = (((w.alloc (.cells #[x00, x01, x02, x03, x04, x05, x06, x07] t0)).alloc (.cells #[x10, x11] t1)).alloc (.cells #[x20, x21, x22, x23] t2)) ∧ Below w.heap.size w W ∧ B8 W (w.heap.size) x00 x01 x02 x03 x04 x05 x06 x07 ∧ Bx W (w.heap.size + 1) x10 x11 ∧ B4 W (w.heap.size + 1 + 1) x20 x21 x22 x23 ∧ w.heap.size + 1 + 1 < W.heap.size := by
  have e0 : Below w.heap.size w (w.alloc (.cells #[x00, x01, x02, x03, x04, x05, x06, x07] t0)) := (Below.refl _ _).alloc (Nat.le_refl _) _
  have h0 := b8_new w x00 x01 x02 x03 x04 x05 x06 x07 t0
  have e1 : Below (w.alloc (.cells #[x00, x01, x02, x03, x04, x05, x06, x07] t0)).heap.size (w.alloc (.cells #[x00, x01, x02, x03, x04, x05, x06, x07] t0)) ((w.alloc (.cells #[x00, x01, x02, x03, x04, x05, x06, x07] t0)).alloc (.cells #[x10, x11] t1)) := (Below.refl _ _).alloc (Nat.le_refl _) _
  have h1 := bx_new (w.alloc (.cells #[x00, x01, x02, x03, x04, x05, x06, x07] t0)) x10 x11 t1
  rw [World.size_alloc] at h1
  have e2 : Below ((w.alloc (.cells #[x00, x01, x02, x03, x04, x05, x06, x07] t0)).alloc (.cells #[x10, x11] t1)).heap.size ((w.alloc (.cells #[x00, x01, x02, x03, x04, x05, x06, x07] t0)).alloc (.cells #[x10, x11] t1)) (((w.alloc (.cells #[x00, x01, x02, x03, x04, x05, x06, x07] t0)).alloc (.cells #[x10, x11] t1)).alloc (.cells #[x20, x21, x22, x23] t2)) := (Below.refl _ _).alloc (Nat.le_refl _) _
  have h2 := b4_new ((w.alloc (.cells #[x00, x01, x02, x03, x04, x05, x06, x07] t0)).alloc (.cells #[x10, x11] t1)) x20 x21 x22 x23 t2
  rw [World.size_alloc, World.size_alloc] at h2
  exact ⟨_, rfl, also (also (e0) e1) e2, ((h0.on e1).on e2), (h1.on e2), h2, by simp⟩
def SpG (K ex ey : Nat) (p1 p2 ux uy : Int) : Nat → Value → (World → Prop) → (Nat → Prop) → Prop
  | 0 => RQIs (2) p1 1
  | 1 => RQIs (K + K + 1) ux ex
  | 2 => RQIs (2) p2 1
  | 3 => RQIs (K + K + 1) uy ey
  | _ => ValIs undef
theorem SpG_good (K ex ey : Nat) (p1 p2 ux uy : Int) : GoodSp (SpG K ex ey p1 p2 ux uy) := fun j x R A h => match j with
  | 0 => rqIs_good h
  | 1 => rqIs_good h
  | 2 => rqIs_good h
  | 3 => rqIs_good h
  | k + 4 => valIs_good h
def SpGZ : Nat → List Value
  | 0 => [.int .i64 0, .slice none 0 0, .int .i64 0, .slice none 0 0]
  | 1 => [.int .i64 0, .slice none 0 0, .int .i64 0, .slice none 0 0]
  | _ => []
theorem fuel_SpG_b0 {bD eD : Nat → Bool} {f : Nat} (hf : f = 2 + (nb (bD 0) + nb (bD 1) + nb (bD 2) + nb (bD 3) + nb (eD 0) + nb (eD 1))) (h : bD 0 = false) : f - 1 = 2 + (nb (upd bD 0 true 0) + nb (upd bD 0 true 1) + nb (upd bD 0 true 2) + nb (upd bD 0 true 3) + nb (eD 0) + nb (eD 1)) := by
  have h1 : nb (bD 0) = 1 := by rw [h]; rfl
  have h2 : nb (upd bD 0 true 0) = 0 := rfl
  have q1 : nb (upd bD 0 true 1) = nb (bD 1) := rfl
  have q2 : nb (upd bD 0 true 2) = nb (bD 2) := rfl
  have q3 : nb (upd bD 0 true 3) = nb (bD 3) := rfl
  omega
theorem fuel_SpG_b1 {bD eD : Nat → Bool} {f : Nat} (hf : f = 2 + (nb (bD 0) + nb (bD 1) + nb (bD 2) + nb (bD 3) + nb (eD 0) + nb (eD 1))) (h : bD 1 = false) : f - 1 = 2 + (nb (upd bD 1 true 0) + nb (upd bD 1 true 1) + nb (upd bD 1 true 2) + nb (upd bD 1 true 3) + nb (eD 0) + nb (eD 1)) := by
  have h1 : nb (bD 1) = 1 := by rw [h]; rfl
  have h2 : nb (upd bD 1 true 1) = 0 := rfl
  have q0 : nb (upd bD 1 true 0) = nb (bD 0) := rfl
  have q2 : nb (upd bD 1 true 2) = nb (bD 2) := rfl
  have q3 : nb (upd bD 1 true 3) = nb (bD 3) := rfl
  omega
theorem fuel_SpG_b2 {bD eD : Nat → Bool} {f : Nat} (hf : f = 2 + (nb (bD 0) + nb (bD 1) + nb (bD 2) + nb (bD 3) + nb (eD 0) + nb (eD 1))) (h : bD 2 = false) : f - 1 = 2 + (nb (upd bD 2 true 0) + nb (upd bD 2 true 1) + nb (upd bD 2 true 2) + nb (upd bD 2 true 3) + nb (eD 0) + nb (eD 1)) := by
  have h1 : nb (bD 2) = 1 := by rw [h]; rfl
  have h2 : nb (upd bD 2 true 2) = 0 := rfl
  have q0 : nb (upd bD 2 true 0) = nb (bD 0) := rfl
  have q1 : nb (upd bD 2 true 1) = nb (bD 1) := rfl
  have q3 : nb (upd bD 2 true 3) = nb (bD 3) := rfl
  omega
theorem fuel_SpG_b3 {bD eD : Nat → Bool} {f : Nat} (hf : f = 2 + (nb (bD 0) + nb (bD 1) + nb (bD 2) + nb (bD 3) + nb (eD 0) + nb (eD 1))) (h : bD 3 = false) : f - 1 = 2 + (nb (upd bD 3 true 0) + nb (upd bD 3 true 1) + nb (upd bD 3 true 2) + nb (upd bD 3 true 3) + nb (eD 0) + nb (eD 1)) := by
  have h1 : nb (bD 3) = 1 := by rw [h]; rfl
  have h2 : nb (upd bD 3 true 3) = 0 := rfl
  have q0 : nb (upd bD 3 true 0) = nb (bD 0) := rfl
  have q1 : nb (upd bD 3 true 1) = nb (bD 1) := rfl
  have q2 : nb (upd bD 3 true 2) = nb (bD 2) := rfl
  omega
theorem fuel_SpG_e0 {bD eD : Nat → Bool} {f : Nat} (hf : f = 2 + (nb (bD 0) + nb (bD 1) + nb (bD 2) + nb (bD 3) + nb (eD 0) + nb (eD 1))) (h : eD 0 = false) : f - 1 = 2 + (nb (bD 0) + nb (bD 1) + nb (bD 2) + nb (bD 3) + nb (upd eD 0 true 0) + nb (upd eD 0 true 1)) := by
  have h1 : nb (eD 0) = 1 := by rw [h]; rfl
  have h2 : nb (upd eD 0 true 0) = 0 := rfl
  have q1 : nb (upd eD 0 true 1) = nb (eD 1) := rfl
  omega
theorem fuel_SpG_e1 {bD eD : Nat → Bool} {f : Nat} (hf : f = 2 + (nb (bD 0) + nb (bD 1) + nb (bD 2) + nb (bD 3) + nb (eD 0) + nb (eD 1))) (h : eD 1 = false) : f - 1 = 2 + (nb (bD 0) + nb (bD 1) + nb (bD 2) + nb (bD 3) + nb (upd eD 1 true 0) + nb (upd eD 1 true 1)) := by
  have h1 : nb (eD 1) = 1 := by rw [h]; rfl
  have h2 : nb (upd eD 1 true 1) = 0 := rfl
  have q0 : nb (upd eD 1 true 0) = nb (eD 0) := rfl
  omega
set_option maxRecDepth 100000 in
set_option maxHeartbeats 8000000 in
theorem rcFar (s1 : Int) (d1 : Option Addr) (l1 c1 : Nat) (t1 : Int) (g1 : Option Addr) (h1 k1 : Nat) (N1 : Int) (D1 : Nat) (s2 : Int) (d2 : Option Addr) (l2 c2 : Nat) (t2 : Int) (g2 : Option Addr) (h2 k2 : Nat) (N2 : Int) (D2 : Nat) (p1 p2 : Int) (K : Nat) (w : World) (q1 : RQ w K s1 d1 l1 c1 t1 g1 h1 k1 N1 D1) (q2 : RQ w K s2 d2 l2 c2 t2 g2 h2 k2 N2 D2) (Rp : Hid (R2 (p1, p2))) (kl : 2 ≤ K) (ku : K ≤ 100) {ux uy : Int} {ex ey : Nat} (hux : ux = N1 * ((1 : Nat) : Int) + -p1 * (D1 : Int)) (hex : ex = D1 * 1) (huy : uy = N2 * ((1 : Nat) : Int) + -p2 * (D2 : Int)) (hey : ey = D2 * 1) {N : Int} {D : Nat} (hN : N = lowN (ux * ux * ((ey * ey : Nat) : Int) + uy * uy * ((ex * ex : Nat) : Int)) (ex * ex * (ey * ey))) (hD : D = lowD (ux * ux * ((ey * ey : Nat) : Int) + uy * uy * ((ex * ex : Nat) : Int)) (ex * ex * (ey * ey))) :
    Calls Tryz.prog 17 #[.agg #[.int .i64 s1, .slice d1 l1 c1, .int .i64 t1, .slice g1 h1 k1, .int .i64 s2, .slice d2 l2 c2, .int .i64 t2, .slice g2 h2 k2], .agg #[.int .i64 p1, .int .i64 p2]] w (GotRQ w (fun _ => True) ((K + K + 1 + (K + K + 1)) + (K + K + 1 + (K + K + 1)) + 1) N D) := by
  have Eux : Hid _ := hux
  have Euy : Hid _ := huy
  have Eex : Hid _ := hex
  have Eey : Hid _ := hey
  have EN : Hid _ := hN
  have ED : Hid _ := hD
  have K1 : Hid (2 ≤ K) := by unfold Hid; omega
  have K2 : Hid (K ≤ 10000) := by unfold Hid; omega
  have K3 : Hid (K + K + 1 ≤ 10000) := by unfold Hid; omega
  have K4 : Hid (K + K + 1 + (K + K + 1) ≤ 10000) := by unfold Hid; omega
  have K5 : Hid (K + K + 1 + (K + K + 1) + (K + K + 1 + (K + K + 1)) + 1 ≤ 10000) := by unfold Hid; omega
  clear hux huy hex hey hN hD kl ku
  obtain ⟨W, hW, bW, x_s, x_p, x_r, sW⟩ := bs_824 w (.int .i64 s1) (.slice d1 l1 c1) (.int .i64 t1) (.slice g1 h1 k1) (.int .i64 s2) (.slice d2 l2 c2) (.int .i64 t2) (.slice g2 h2 k2) (.int .i64 p1) (.int .i64 p2) (.int .i64 0) (.slice none 0 0) (.int .i64 0) (.slice none 0 0) 43 23 41
  have zbW := bW.size
  replace q1 := q1.below bW
  replace q2 := q2.below bW
  have BB := bW
  go_enter Tryz.func17, Tryz.ntmps17
  go_wp2
  rw [← hW]
  clear hW
  obtain ⟨QQ, hQQ⟩ : ∃ QQ : Exit → Act → World → Prop, QQ = fun e act wr => e = .normal ∧ ∃ (pma0 : Nat) (pma1 : Nat) (s11 : Int) (d11 : Option Addr) (l11 c11 : Nat) (t11 : Int) (g11 : Option Addr) (h11 k11 : Nat) (s12 : Int) (d12 : Option Addr) (l12 c12 : Nat) (t12 : Int) (g12 : Option Addr) (h12 k12 : Nat) (s13 : Int) (d13 : Option Addr) (l13 c13 : Nat) (t13 : Int) (g13 : Option Addr) (h13 k13 : Nat) (s14 : Int) (d14 : Option Addr) (l14 c14 : Nat) (t14 : Int) (g14 : Option Addr) (h14 k14 : Nat), act = ⟨#[.agg #[.int .i64 s1, .slice d1 l1 c1, .int .i64 t1, .slice g1 h1 k1, .int .i64 s2, .slice d2 l2 c2, .int .i64 t2, .slice g2 h2 k2], .agg #[.int .i64 p1, .int .i64 p2], .pointer (some ⟨w.heap.size, 0, none⟩), .pointer (some ⟨w.heap.size + 1, 0, none⟩), .pointer (some ⟨w.heap.size + 1 + 1, 0, none⟩), .pointer (some ⟨pma0, 0, none⟩), .pointer (some ⟨pma1, 0, none⟩), .pointer (some ⟨w.heap.size, 0, none⟩), .agg #[.int .i64 s1, .slice d1 l1 c1, .int .i64 t1, .slice g1 h1 k1], .pointer (some ⟨w.heap.size + 1, 0, none⟩), .int .i64 p1, .agg #[.int .i64 s11, .slice d11 l11 c11, .int .i64 t11, .slice g11 h11 k11], .agg #[.int .i64 s12, .slice d12 l12 c12, .int .i64 t12, .slice g12 h12 k12], .pointer (some ⟨w.heap.size, 4, none⟩), .agg #[.int .i64 s2, .slice d2 l2 c2, .int .i64 t2, .slice g2 h2 k2], .pointer (some ⟨w.heap.size + 1, 1, none⟩), .int .i64 p2, .agg #[.int .i64 s13, .slice d13 l13 c13, .int .i64 t13, .slice g13 h13 k13], .agg #[.int .i64 s14, .slice d14 l14 c14, .int .i64 t14, .slice g14 h14 k14], undef, undef, undef, undef, undef, undef, undef, undef], []⟩ ∧ RQ wr K s1 d1 l1 c1 t1 g1 h1 k1 N1 D1 ∧ RQ wr K s2 d2 l2 c2 t2 g2 h2 k2 N2 D2 ∧ RQ wr (2) s11 d11 l11 c11 t11 g11 h11 k11 p1 1 ∧ RQ wr (K + K + 1) s12 d12 l12 c12 t12 g12 h12 k12 ux ex ∧ RQ wr (2) s13 d13 l13 c13 t13 g13 h13 k13 p2 1 ∧ RQ wr (K + K + 1) s14 d14 l14 c14 t14 g14 h14 k14 uy ey ∧ B8 wr (w.heap.size) (.int .i64 s1) (.slice d1 l1 c1) (.int .i64 t1) (.slice g1 h1 k1) (.int .i64 s2) (.slice d2 l2 c2) (.int .i64 t2) (.slice g2 h2 k2) ∧ Bx wr (w.heap.size + 1) (.int .i64 p1) (.int .i64 p2) ∧ B4 wr (w.heap.size + 1 + 1) (.int .i64 0) (.slice none 0 0) (.int .i64 0) (.slice none 0 0) ∧ B4 wr pma0 (.int .i64 s12) (.slice d12 l12 c12) (.int .i64 t12) (.slice g12 h12 k12) ∧ B4 wr pma1 (.int .i64 s14) (.slice d14 l14 c14) (.int .i64 t14) (.slice g14 h14 k14) ∧ Below w.heap.size w wr ∧ W.heap.size ≤ wr.heap.size ∧ (W.heap.size ≤ pma0 ∧ pma0 < wr.heap.size) ∧ (W.heap.size ≤ pma1 ∧ pma1 < wr.heap.size) := ⟨_, rfl⟩
  have HQQ : Hid _ := hQQ
  clear hQQ
  refine wp_mono (Q := QQ) ?_ ?_
  · refine wp_region_held_drew (S := (fun w' => w'.cell? ⟨w.heap.size, 0, none⟩ = some (.int .i64 s1) ∧ w'.cell? ⟨w.heap.size, 1, none⟩ = some (.slice d1 l1 c1) ∧ w'.cell? ⟨w.heap.size, 2, none⟩ = some (.int .i64 t1) ∧ w'.cell? ⟨w.heap.size, 3, none⟩ = some (.slice g1 h1 k1) ∧ w'.cell? ⟨w.heap.size, 4, none⟩ = some (.int .i64 s2) ∧ w'.cell? ⟨w.heap.size, 5, none⟩ = some (.slice d2 l2 c2) ∧ w'.cell? ⟨w.heap.size, 6, none⟩ = some (.int .i64 t2) ∧ w'.cell? ⟨w.heap.size, 7, none⟩ = some (.slice g2 h2 k2) ∧ w'.cell? ⟨w.heap.size + 1, 0, none⟩ = some (.int .i64 p1) ∧ w'.cell? ⟨w.heap.size + 1, 1, none⟩ = some (.int .i64 p2) ∧ Below w.heap.size w w')) (by kernel_rfl) ?_ (fun hHeld => ?_)
    · exact ⟨x_s.c0, x_s.c1, x_s.c2, x_s.c3, x_s.c4, x_s.c5, x_s.c6, x_s.c7, x_p.c0, x_p.c1, BB.drew⟩
    refine take_yes (i := 0) (v := ?vma0x1) rfl (by kernel_rfl) (by kernel_rfl) (by kernel_rfl) (fun _ _ _ h => by rw [HQQ.out] at h; exact Exit.noConfusion h.1) (by rfl) (by assumption) ?hyma0x1 ?restma0x1
    case hyma0x1 => (intro w hSw; (try dsimp only at hSw); first | (go_simp; done) | (go_simp; with_reducible rfl))
    simp only [Act.put, List.setIfInBounds_toArray, List.set_cons_zero, List.set_cons_succ]
    refine take_yes (i := 1) (v := ?vma1x2) rfl (by kernel_rfl) (by kernel_rfl) (by kernel_rfl) (fun _ _ _ h => by rw [HQQ.out] at h; exact Exit.noConfusion h.1) (by rfl) (by assumption) ?hyma1x2 ?restma1x2
    case hyma1x2 => (intro w hSw; (try dsimp only at hSw); first | (go_simp; done) | (go_simp; with_reducible rfl))
    simp only [Act.put, List.setIfInBounds_toArray, List.set_cons_zero, List.set_cons_succ]
    refine take_yes (i := 2) (v := ?vma2x3) rfl (by kernel_rfl) (by kernel_rfl) (by kernel_rfl) (fun _ _ _ h => by rw [HQQ.out] at h; exact Exit.noConfusion h.1) (by rfl) (by assumption) ?hyma2x3 ?restma2x3
    case hyma2x3 => (intro w hSw; (try dsimp only at hSw); first | (go_simp; done) | (go_simp; with_reducible rfl))
    simp only [Act.put, List.setIfInBounds_toArray, List.set_cons_zero, List.set_cons_succ]
    refine take_yes (i := 3) (v := ?vma3x4) rfl (by kernel_rfl) (by kernel_rfl) (by kernel_rfl) (fun _ _ _ h => by rw [HQQ.out] at h; exact Exit.noConfusion h.1) (by rfl) (by assumption) ?hyma3x4 ?restma3x4
    case hyma3x4 => (intro w hSw; (try dsimp only at hSw); first | (go_simp; done) | (go_simp; with_reducible rfl))
    simp only [Act.put, List.setIfInBounds_toArray, List.set_cons_zero, List.set_cons_succ]
    refine take_yes (i := 6) (v := ?vma6x5) rfl (by kernel_rfl) (by kernel_rfl) (by kernel_rfl) (fun _ _ _ h => by rw [HQQ.out] at h; exact Exit.noConfusion h.1) (by rfl) (by assumption) ?hyma6x5 ?restma6x5
    case hyma6x5 => (intro w hSw; (try dsimp only at hSw); first | (go_simp; done) | (go_simp; with_reducible rfl))
    simp only [Act.put, List.setIfInBounds_toArray, List.set_cons_zero, List.set_cons_succ]
    refine take_yes (i := 7) (v := ?vma7x6) rfl (by kernel_rfl) (by kernel_rfl) (by kernel_rfl) (fun _ _ _ h => by rw [HQQ.out] at h; exact Exit.noConfusion h.1) (by rfl) (by assumption) ?hyma7x6 ?restma7x6
    case hyma7x6 => (intro w hSw; (try dsimp only at hSw); first | (go_simp; done) | (go_simp; with_reducible rfl))
    simp only [Act.put, List.setIfInBounds_toArray, List.set_cons_zero, List.set_cons_succ]
    refine take_yes (i := 8) (v := ?vma8x7) rfl (by kernel_rfl) (by kernel_rfl) (by kernel_rfl) (fun _ _ _ h => by rw [HQQ.out] at h; exact Exit.noConfusion h.1) (by rfl) (by assumption) ?hyma8x7 ?restma8x7
    case hyma8x7 => (intro w hSw; (try dsimp only at hSw); first | (go_simp; done) | (go_simp; with_reducible rfl))
    simp only [Act.put, List.setIfInBounds_toArray, List.set_cons_zero, List.set_cons_succ]
    refine take_yes (i := 9) (v := ?vma9x8) rfl (by kernel_rfl) (by kernel_rfl) (by kernel_rfl) (fun _ _ _ h => by rw [HQQ.out] at h; exact Exit.noConfusion h.1) (by rfl) (by assumption) ?hyma9x8 ?restma9x8
    case hyma9x8 => (intro w hSw; (try dsimp only at hSw); first | (go_simp; done) | (go_simp; with_reducible rfl))
    simp only [Act.put, List.setIfInBounds_toArray, List.set_cons_zero, List.set_cons_succ]
    clear hHeld
    obtain ⟨INV, hINV⟩ : ∃ INV : Nat → Array Bool → Act → World → Prop, INV = fun f L act wr => ∃ (bD eD : Nat → Bool) (pD : Nat → Nat) (RD : Nat → World → Prop) (AD : Nat → Nat → Prop) (uD vD : Nat → Value), f = 2 + (nb (bD 0) + nb (bD 1) + nb (bD 2) + nb (bD 3) + nb (eD 0) + nb (eD 1)) ∧ L = #[true, true, true, true, bD 0, bD 1, true, true, true, true, bD 2, bD 3, eD 0, eD 1, false, false] ∧ act = ⟨#[.agg #[.int .i64 s1, .slice d1 l1 c1, .int .i64 t1, .slice g1 h1 k1, .int .i64 s2, .slice d2 l2 c2, .int .i64 t2, .slice g2 h2 k2], .agg #[.int .i64 p1, .int .i64 p2], .pointer (some ⟨w.heap.size, 0, none⟩), .pointer (some ⟨w.heap.size + 1, 0, none⟩), .pointer (some ⟨w.heap.size + 1 + 1, 0, none⟩), vD 0, vD 1, .pointer (some ⟨w.heap.size, 0, none⟩), .agg #[.int .i64 s1, .slice d1 l1 c1, .int .i64 t1, .slice g1 h1 k1], .pointer (some ⟨w.heap.size + 1, 0, none⟩), .int .i64 p1, uD 0, uD 1, .pointer (some ⟨w.heap.size, 4, none⟩), .agg #[.int .i64 s2, .slice d2 l2 c2, .int .i64 t2, .slice g2 h2 k2], .pointer (some ⟨w.heap.size + 1, 1, none⟩), .int .i64 p2, uD 2, uD 3, undef, undef, undef, undef, undef, undef, undef, undef], []⟩ ∧ (bD 1 = true → bD 0 = true) ∧ (bD 2 = true → bD 1 = true) ∧ (bD 3 = true → bD 2 = true) ∧ Mk W SpGZ (SpG K ex ey p1 p2 ux uy) bD eD pD RD AD uD vD wr := ⟨_, rfl⟩
    have HINV : Hid _ := hINV
    clear hINV
    refine phase INV ?stepma _ _ _ _ ?initma
    case initma => rw [HINV.out]; exact ⟨fun _ => false, fun _ => false, fun _ => 0, fun _ _ => True, fun _ _ => True, fun _ => undef, fun _ => undef, rfl, rfl, rfl, fun h => Bool.noConfusion h, fun h => Bool.noConfusion h, fun h => Bool.noConfusion h, Mk.start _ _ _ (Below.refl _ _).drew⟩
    intro f L act wr hinv
    rw [HINV.out] at hinv
    obtain ⟨bD, eD, pD, RD, AD, uD, vD, hf, rfl, rfl, ch0, ch1, ch2, hm⟩ := hinv
    by_cases hall : bD 3 = true ∧ eD 0 = true ∧ eD 1 = true
    · refine Or.inl ?_
      obtain ⟨hb3, he0, he1⟩ := hall
      have hb2 := ch2 hb3
      have hb1 := ch1 hb2
      have hb0 := ch0 hb1
      simp only [hb0, hb1, hb2, hb3, he0, he1, nb] at hf
      subst hf
      rw [hb0, hb1, hb2, hb3, he0, he1, hm.ptr 0 he0, hm.ptr 1 he1]
      obtain ⟨s11, d11, l11, c11, t11, g11, h11, k11, hu0, hR0, hA0⟩ : RQIs _ _ _ _ _ _ := hm.spec 0 hb0
      rw [hu0]
      have q11 : RQ wr (2) s11 d11 l11 c11 t11 g11 h11 k11 p1 1 := by have := hm.res 0 hb0; rw [hR0] at this; exact this
      have n_q11_0_pma0 : NA (pD 0) d11 l11 := by have := hm.ap 0 0 he0 hb0; rw [hA0] at this; exact this.1
      have n_q11_1_pma0 : NA (pD 0) g11 h11 := by have := hm.ap 0 0 he0 hb0; rw [hA0] at this; exact this.2
      have n_q11_0_pma1 : NA (pD 1) d11 l11 := by have := hm.ap 1 0 he1 hb0; rw [hA0] at this; exact this.1
      have n_q11_1_pma1 : NA (pD 1) g11 h11 := by have := hm.ap 1 0 he1 hb0; rw [hA0] at this; exact this.2
      obtain ⟨s12, d12, l12, c12, t12, g12, h12, k12, hu1, hR1, hA1⟩ : RQIs _ _ _ _ _ _ := hm.spec 1 hb1
      rw [hu1]
      have q12 : RQ wr (K + K + 1) s12 d12 l12 c12 t12 g12 h12 k12 ux ex := by have := hm.res 1 hb1; rw [hR1] at this; exact this
      have n_q12_0_pma0 : NA (pD 0) d12 l12 := by have := hm.ap 0 1 he0 hb1; rw [hA1] at this; exact this.1
      have n_q12_1_pma0 : NA (pD 0) g12 h12 := by have := hm.ap 0 1 he0 hb1; rw [hA1] at this; exact this.2
      have n_q12_0_pma1 : NA (pD 1) d12 l12 := by have := hm.ap 1 1 he1 hb1; rw [hA1] at this; exact this.1
      have n_q12_1_pma1 : NA (pD 1) g12 h12 := by have := hm.ap 1 1 he1 hb1; rw [hA1] at this; exact this.2
      obtain ⟨s13, d13, l13, c13, t13, g13, h13, k13, hu2, hR2, hA2⟩ : RQIs _ _ _ _ _ _ := hm.spec 2 hb2
      rw [hu2]
      have q13 : RQ wr (2) s13 d13 l13 c13 t13 g13 h13 k13 p2 1 := by have := hm.res 2 hb2; rw [hR2] at this; exact this
      have n_q13_0_pma0 : NA (pD 0) d13 l13 := by have := hm.ap 0 2 he0 hb2; rw [hA2] at this; exact this.1
      have n_q13_1_pma0 : NA (pD 0) g13 h13 := by have := hm.ap 0 2 he0 hb2; rw [hA2] at this; exact this.2
      have n_q13_0_pma1 : NA (pD 1) d13 l13 := by have := hm.ap 1 2 he1 hb2; rw [hA2] at this; exact this.1
      have n_q13_1_pma1 : NA (pD 1) g13 h13 := by have := hm.ap 1 2 he1 hb2; rw [hA2] at this; exact this.2
      obtain ⟨s14, d14, l14, c14, t14, g14, h14, k14, hu3, hR3, hA3⟩ : RQIs _ _ _ _ _ _ := hm.spec 3 hb3
      rw [hu3]
      have q14 : RQ wr (K + K + 1) s14 d14 l14 c14 t14 g14 h14 k14 uy ey := by have := hm.res 3 hb3; rw [hR3] at this; exact this
      have n_q14_0_pma0 : NA (pD 0) d14 l14 := by have := hm.ap 0 3 he0 hb3; rw [hA3] at this; exact this.1
      have n_q14_1_pma0 : NA (pD 0) g14 h14 := by have := hm.ap 0 3 he0 hb3; rw [hA3] at this; exact this.2
      have n_q14_0_pma1 : NA (pD 1) d14 l14 := by have := hm.ap 1 3 he1 hb3; rw [hA3] at this; exact this.1
      have n_q14_1_pma1 : NA (pD 1) g14 h14 := by have := hm.ap 1 3 he1 hb3; rw [hA3] at this; exact this.2
      have y_pma0 : B4 wr (pD 0) (.int .i64 0) (.slice none 0 0) (.int .i64 0) (.slice none 0 0) := b4_row (hm.blk 0 he0)
      have gpma0 := hm.old 0 he0
      have ltpma0 := hm.lt 0 he0
      have y_pma1 : B4 wr (pD 1) (.int .i64 0) (.slice none 0 0) (.int .i64 0) (.slice none 0 0) := b4_row (hm.blk 1 he1)
      have gpma1 := hm.old 1 he1
      have ltpma1 := hm.lt 1 he1
      have ne_0_1 : pD 0 ≠ pD 1 := hm.ne 0 1 he0 he1 (by decide)
      have BU := hm.bel
      have n_q1_0_pma0 : NA (pD 0) d1 l1 := q1.rn.hd.sl.na gpma0
      have n_q1_0_pma1 : NA (pD 1) d1 l1 := q1.rn.hd.sl.na gpma1
      have n_q1_1_pma0 : NA (pD 0) g1 h1 := q1.rd.hd.sl.na gpma0
      have n_q1_1_pma1 : NA (pD 1) g1 h1 := q1.rd.hd.sl.na gpma1
      replace q1 := q1.below BU
      have n_q2_0_pma0 : NA (pD 0) d2 l2 := q2.rn.hd.sl.na gpma0
      have n_q2_0_pma1 : NA (pD 1) d2 l2 := q2.rn.hd.sl.na gpma1
      have n_q2_1_pma0 : NA (pD 0) g2 h2 := q2.rd.hd.sl.na gpma0
      have n_q2_1_pma1 : NA (pD 1) g2 h2 := q2.rd.hd.sl.na gpma1
      replace q2 := q2.below BU
      replace x_s := x_s.on BU
      replace x_p := x_p.on BU
      replace x_r := x_r.on BU
      replace BB := also BB BU
      have hHeld : ((fun w' => w'.cell? ⟨w.heap.size, 0, none⟩ = some (.int .i64 s1) ∧ w'.cell? ⟨w.heap.size, 1, none⟩ = some (.slice d1 l1 c1) ∧ w'.cell? ⟨w.heap.size, 2, none⟩ = some (.int .i64 t1) ∧ w'.cell? ⟨w.heap.size, 3, none⟩ = some (.slice g1 h1 k1) ∧ w'.cell? ⟨w.heap.size, 4, none⟩ = some (.int .i64 s2) ∧ w'.cell? ⟨w.heap.size, 5, none⟩ = some (.slice d2 l2 c2) ∧ w'.cell? ⟨w.heap.size, 6, none⟩ = some (.int .i64 t2) ∧ w'.cell? ⟨w.heap.size, 7, none⟩ = some (.slice g2 h2 k2) ∧ w'.cell? ⟨w.heap.size + 1, 0, none⟩ = some (.int .i64 p1) ∧ w'.cell? ⟨w.heap.size + 1, 1, none⟩ = some (.int .i64 p2) ∧ Below w.heap.size w w')) wr := ⟨x_s.c0, x_s.c1, x_s.c2, x_s.c3, x_s.c4, x_s.c5, x_s.c6, x_s.c7, x_p.c0, x_p.c1, BB⟩
      clear hm HINV INV ch0 ch1 ch2
      generalize pD 0 = pma0 at *
      generalize pD 1 = pma1 at *
      dsimp only at hHeld
      have ⟨c_pma0_0, c_pma0_1, c_pma0_2, c_pma0_3, c_pma0_4, c_pma0_5, c_pma0_6, c_pma0_7⟩ : B4 wr pma0 (.int .i64 0) (.slice none 0 0) (.int .i64 0) (.slice none 0 0) := y_pma0
      refine take_call (i := 14) rfl (by kernel_rfl) (fun Kc hK => ?_)
      go_simp
      refine hK.out _ _ ⟨cell_put4 hHeld.1 (by omega) _ _ _ _, cell_put4 hHeld.2.1 (by omega) _ _ _ _, cell_put4 hHeld.2.2.1 (by omega) _ _ _ _, cell_put4 hHeld.2.2.2.1 (by omega) _ _ _ _, cell_put4 hHeld.2.2.2.2.1 (by omega) _ _ _ _, cell_put4 hHeld.2.2.2.2.2.1 (by omega) _ _ _ _, cell_put4 hHeld.2.2.2.2.2.2.1 (by omega) _ _ _ _, cell_put4 hHeld.2.2.2.2.2.2.2.1 (by omega) _ _ _ _, cell_put4 hHeld.2.2.2.2.2.2.2.2.1 (by omega) _ _ _ _, cell_put4 hHeld.2.2.2.2.2.2.2.2.2.1 (by omega) _ _ _ _, below_put4 hHeld.2.2.2.2.2.2.2.2.2.2 (by omega) _ _ _ _⟩ (fun hHeld => ?_)
      clear hK Kc
      have ⟨c_pma1_0, c_pma1_1, c_pma1_2, c_pma1_3, c_pma1_4, c_pma1_5, c_pma1_6, c_pma1_7⟩ : B4 ((((wr.setCell ⟨pma0, 0, none⟩ (.int .i64 s12)).setCell ⟨pma0, 1, none⟩ (.slice d12 l12 c12)).setCell ⟨pma0, 2, none⟩ (.int .i64 t12)).setCell ⟨pma0, 3, none⟩ (.slice g12 h12 k12)) pma1 (.int .i64 0) (.slice none 0 0) (.int .i64 0) (.slice none 0 0) := ((((y_pma1.put ne_0_1).put ne_0_1).put ne_0_1).put ne_0_1)
      refine take_call (i := 15) rfl (by kernel_rfl) (fun Kc hK => ?_)
      go_simp
      refine hK.out _ _ ⟨cell_put4 hHeld.1 (by omega) _ _ _ _, cell_put4 hHeld.2.1 (by omega) _ _ _ _, cell_put4 hHeld.2.2.1 (by omega) _ _ _ _, cell_put4 hHeld.2.2.2.1 (by omega) _ _ _ _, cell_put4 hHeld.2.2.2.2.1 (by omega) _ _ _ _, cell_put4 hHeld.2.2.2.2.2.1 (by omega) _ _ _ _, cell_put4 hHeld.2.2.2.2.2.2.1 (by omega) _ _ _ _, cell_put4 hHeld.2.2.2.2.2.2.2.1 (by omega) _ _ _ _, cell_put4 hHeld.2.2.2.2.2.2.2.2.1 (by omega) _ _ _ _, cell_put4 hHeld.2.2.2.2.2.2.2.2.2.1 (by omega) _ _ _ _, below_put4 hHeld.2.2.2.2.2.2.2.2.2.2 (by omega) _ _ _ _⟩ (fun hHeld => ?_)
      clear hK Kc
      refine wpAnyH_done (by kernel_rfl) ?_ _
      rw [HQQ.out]
      exact ⟨rfl, pma0, pma1, s11, d11, l11, c11, t11, g11, h11, k11, s12, d12, l12, c12, t12, g12, h12, k12, s13, d13, l13, c13, t13, g13, h13, k13, s14, d14, l14, c14, t14, g14, h14, k14, rfl, ((((((((q1.put n_q1_0_pma0 n_q1_1_pma0 0 _).put n_q1_0_pma0 n_q1_1_pma0 1 _).put n_q1_0_pma0 n_q1_1_pma0 2 _).put n_q1_0_pma0 n_q1_1_pma0 3 _).put n_q1_0_pma1 n_q1_1_pma1 0 _).put n_q1_0_pma1 n_q1_1_pma1 1 _).put n_q1_0_pma1 n_q1_1_pma1 2 _).put n_q1_0_pma1 n_q1_1_pma1 3 _), ((((((((q2.put n_q2_0_pma0 n_q2_1_pma0 0 _).put n_q2_0_pma0 n_q2_1_pma0 1 _).put n_q2_0_pma0 n_q2_1_pma0 2 _).put n_q2_0_pma0 n_q2_1_pma0 3 _).put n_q2_0_pma1 n_q2_1_pma1 0 _).put n_q2_0_pma1 n_q2_1_pma1 1 _).put n_q2_0_pma1 n_q2_1_pma1 2 _).put n_q2_0_pma1 n_q2_1_pma1 3 _), ((((((((q11.put n_q11_0_pma0 n_q11_1_pma0 0 _).put n_q11_0_pma0 n_q11_1_pma0 1 _).put n_q11_0_pma0 n_q11_1_pma0 2 _).put n_q11_0_pma0 n_q11_1_pma0 3 _).put n_q11_0_pma1 n_q11_1_pma1 0 _).put n_q11_0_pma1 n_q11_1_pma1 1 _).put n_q11_0_pma1 n_q11_1_pma1 2 _).put n_q11_0_pma1 n_q11_1_pma1 3 _), ((((((((q12.put n_q12_0_pma0 n_q12_1_pma0 0 _).put n_q12_0_pma0 n_q12_1_pma0 1 _).put n_q12_0_pma0 n_q12_1_pma0 2 _).put n_q12_0_pma0 n_q12_1_pma0 3 _).put n_q12_0_pma1 n_q12_1_pma1 0 _).put n_q12_0_pma1 n_q12_1_pma1 1 _).put n_q12_0_pma1 n_q12_1_pma1 2 _).put n_q12_0_pma1 n_q12_1_pma1 3 _), ((((((((q13.put n_q13_0_pma0 n_q13_1_pma0 0 _).put n_q13_0_pma0 n_q13_1_pma0 1 _).put n_q13_0_pma0 n_q13_1_pma0 2 _).put n_q13_0_pma0 n_q13_1_pma0 3 _).put n_q13_0_pma1 n_q13_1_pma1 0 _).put n_q13_0_pma1 n_q13_1_pma1 1 _).put n_q13_0_pma1 n_q13_1_pma1 2 _).put n_q13_0_pma1 n_q13_1_pma1 3 _), ((((((((q14.put n_q14_0_pma0 n_q14_1_pma0 0 _).put n_q14_0_pma0 n_q14_1_pma0 1 _).put n_q14_0_pma0 n_q14_1_pma0 2 _).put n_q14_0_pma0 n_q14_1_pma0 3 _).put n_q14_0_pma1 n_q14_1_pma1 0 _).put n_q14_0_pma1 n_q14_1_pma1 1 _).put n_q14_0_pma1 n_q14_1_pma1 2 _).put n_q14_0_pma1 n_q14_1_pma1 3 _), ((((((((x_s.put (by omega)).put (by omega)).put (by omega)).put (by omega)).put (by omega)).put (by omega)).put (by omega)).put (by omega)), ((((((((x_p.put (by omega)).put (by omega)).put (by omega)).put (by omega)).put (by omega)).put (by omega)).put (by omega)).put (by omega)), ((((((((x_r.put (by omega)).put (by omega)).put (by omega)).put (by omega)).put (by omega)).put (by omega)).put (by omega)).put (by omega)), ((((y_pma0.set.put (fun e => ne_0_1 e.symm)).put (fun e => ne_0_1 e.symm)).put (fun e => ne_0_1 e.symm)).put (fun e => ne_0_1 e.symm)), ((((y_pma1.put ne_0_1).put ne_0_1).put ne_0_1).put ne_0_1).set, (below_put4 (below_put4 BB (by omega) _ _ _ _) (by omega) _ _ _ _), by have := BU.size; simp only [World.size_setCell]; omega, ⟨gpma0, by simp only [World.size_setCell]; omega⟩, ⟨gpma1, by simp only [World.size_setCell]; omega⟩⟩
    · refine Or.inr ⟨f - 1, by omega, ?nema, ?opsma⟩
      case nema =>
        cases he0 : eD 0
        · exact ready_ne (i := 12) (by decide) (by kernel_rfl)
        cases he1 : eD 1
        · exact ready_ne (i := 13) (by decide) (by kernel_rfl)
        cases hb0 : bD 0
        · exact ready_ne (i := 4) (by decide) (by kernel_rfl)
        cases hb1 : bD 1
        · exact ready_ne (i := 5) (by decide) (by kernel_rfl)
        cases hb2 : bD 2
        · exact ready_ne (i := 10) (by decide) (by kernel_rfl)
        cases hb3 : bD 3
        · exact ready_ne (i := 11) (by decide) (by kernel_rfl)
        exact absurd ⟨hb3, he0, he1⟩ hall
      case opsma =>
        intro i hi
        obtain ⟨hlt, hnot, hdep⟩ := ready_at hi
        replace hlt : i < 16 := hlt
        obtain rfl | rfl | rfl | rfl | rfl | rfl | rfl | rfl | rfl | rfl | rfl | rfl | rfl | rfl | rfl | rfl : i = 0 ∨ i = 1 ∨ i = 2 ∨ i = 3 ∨ i = 4 ∨ i = 5 ∨ i = 6 ∨ i = 7 ∨ i = 8 ∨ i = 9 ∨ i = 10 ∨ i = 11 ∨ i = 12 ∨ i = 13 ∨ i = 14 ∨ i = 15 := by omega
        · skip
          exact Bool.noConfusion (show true = false from hnot)
        · skip
          exact Bool.noConfusion (show true = false from hnot)
        · skip
          exact Bool.noConfusion (show true = false from hnot)
        · skip
          exact Bool.noConfusion (show true = false from hnot)
        · skip
          have hbj : bD 0 = false := hnot
          refine ⟨_, rfl, fun K' hK => ?_⟩
          go_simp
          (go_at_call 15; refine (rqLong p1 _ (r2x Rp.out).1 (r2x Rp.out).2).mono ?_; rintro e' X ⟨s11, d11, l11, c11, t11, g11, h11, k11, rfl, q11, f11, bX⟩)
          have hm' := hm.call (SpG_good K ex ey p1 p2 ux uy) 0 bX (.agg #[.int .i64 s11, .slice d11 l11 c11, .int .i64 t11, .slice g11 h11 k11]) (fun w => RQ w (2) s11 d11 l11 c11 t11 g11 h11 k11 p1 1) (fun k => NA k d11 l11 ∧ NA k g11 h11) ⟨_, _, _, _, _, _, _, _, rfl, rfl, rfl⟩ q11 (fun i hi => f11 (pD i) (hm.lt i hi) trivial)
          refine hK.out _ _ ⟨cell_on hm'.bel x_s.c0, cell_on hm'.bel x_s.c1, cell_on hm'.bel x_s.c2, cell_on hm'.bel x_s.c3, cell_on hm'.bel x_s.c4, cell_on hm'.bel x_s.c5, cell_on hm'.bel x_s.c6, cell_on hm'.bel x_s.c7, cell_on hm'.bel x_p.c0, cell_on hm'.bel x_p.c1, also BB hm'.bel⟩ ?_
          rw [HINV.out]
          exact ⟨upd bD 0 true, eD, pD, upd RD 0 (fun w => RQ w (2) s11 d11 l11 c11 t11 g11 h11 k11 p1 1), upd AD 0 (fun k => NA k d11 l11 ∧ NA k g11 h11), upd uD 0 (.agg #[.int .i64 s11, .slice d11 l11 c11, .int .i64 t11, .slice g11 h11 k11]), vD, fuel_SpG_b0 hf hbj, rfl, rfl, fun _ => rfl, ch1, ch2, hm'⟩
        · skip
          have hbj : bD 1 = false := hnot
          have hprev : bD 0 = true := hdep _ rfl 2 _ rfl rfl
          refine ⟨_, rfl, fun K' hK => ?_⟩
          have q1 := q1.below hm.bel
          obtain ⟨s11, d11, l11, c11, t11, g11, h11, k11, hu0, hR0, hA0⟩ : RQIs _ _ _ _ _ _ := hm.spec 0 hprev
          have q11 : RQ wr (2) s11 d11 l11 c11 t11 g11 h11 k11 p1 1 := by have := hm.res 0 hprev; rw [hR0] at this; exact this
          rw [hu0]
          go_simp
          (go_at_call 40; refine (rqSub s1 d1 l1 c1 t1 g1 h1 k1 N1 D1 s11 d11 l11 c11 t11 g11 h11 k11 p1 1 K _ q1 (q11.more K1.out K2.out) K3.out ux ex Eux.out Eex.out).mono ?_; rintro e' X ⟨s12, d12, l12, c12, t12, g12, h12, k12, rfl, q12, f12, bX⟩)
          have hm' := hm.call (SpG_good K ex ey p1 p2 ux uy) 1 bX (.agg #[.int .i64 s12, .slice d12 l12 c12, .int .i64 t12, .slice g12 h12 k12]) (fun w => RQ w (K + K + 1) s12 d12 l12 c12 t12 g12 h12 k12 ux ex) (fun k => NA k d12 l12 ∧ NA k g12 h12) ⟨_, _, _, _, _, _, _, _, rfl, rfl, rfl⟩ q12 (fun i hi => f12 (pD i) (hm.lt i hi) trivial)
          refine hK.out _ _ ⟨cell_on hm'.bel x_s.c0, cell_on hm'.bel x_s.c1, cell_on hm'.bel x_s.c2, cell_on hm'.bel x_s.c3, cell_on hm'.bel x_s.c4, cell_on hm'.bel x_s.c5, cell_on hm'.bel x_s.c6, cell_on hm'.bel x_s.c7, cell_on hm'.bel x_p.c0, cell_on hm'.bel x_p.c1, also BB hm'.bel⟩ ?_
          rw [HINV.out]
          exact ⟨upd bD 1 true, eD, pD, upd RD 1 (fun w => RQ w (K + K + 1) s12 d12 l12 c12 t12 g12 h12 k12 ux ex), upd AD 1 (fun k => NA k d12 l12 ∧ NA k g12 h12), upd uD 1 (.agg #[.int .i64 s12, .slice d12 l12 c12, .int .i64 t12, .slice g12 h12 k12]), vD, fuel_SpG_b1 hf hbj, rfl, (by rw [show upd uD 1 (.agg #[.int .i64 s12, .slice d12 l12 c12, .int .i64 t12, .slice g12 h12 k12]) 0 = .agg #[.int .i64 s11, .slice d11 l11 c11, .int .i64 t11, .slice g11 h11 k11] from hu0] <;> rfl), fun _ => hprev, fun _ => rfl, ch2, hm'⟩
        · skip
          exact Bool.noConfusion (show true = false from hnot)
        · skip
          exact Bool.noConfusion (show true = false from hnot)
        · skip
          exact Bool.noConfusion (show true = false from hnot)
        · skip
          exact Bool.noConfusion (show true = false from hnot)
        · skip
          have hbj : bD 2 = false := hnot
          have hprev : bD 1 = true := hdep _ rfl 1 _ rfl rfl
          have hq0 : bD 0 = true := ch0 hprev
          refine ⟨_, rfl, fun K' hK => ?_⟩
          go_simp
          (go_at_call 15; refine (rqLong p2 _ (r2y Rp.out).1 (r2y Rp.out).2).mono ?_; rintro e' X ⟨s13, d13, l13, c13, t13, g13, h13, k13, rfl, q13, f13, bX⟩)
          have hm' := hm.call (SpG_good K ex ey p1 p2 ux uy) 2 bX (.agg #[.int .i64 s13, .slice d13 l13 c13, .int .i64 t13, .slice g13 h13 k13]) (fun w => RQ w (2) s13 d13 l13 c13 t13 g13 h13 k13 p2 1) (fun k => NA k d13 l13 ∧ NA k g13 h13) ⟨_, _, _, _, _, _, _, _, rfl, rfl, rfl⟩ q13 (fun i hi => f13 (pD i) (hm.lt i hi) trivial)
          refine hK.out _ _ ⟨cell_on hm'.bel x_s.c0, cell_on hm'.bel x_s.c1, cell_on hm'.bel x_s.c2, cell_on hm'.bel x_s.c3, cell_on hm'.bel x_s.c4, cell_on hm'.bel x_s.c5, cell_on hm'.bel x_s.c6, cell_on hm'.bel x_s.c7, cell_on hm'.bel x_p.c0, cell_on hm'.bel x_p.c1, also BB hm'.bel⟩ ?_
          rw [HINV.out]
          exact ⟨upd bD 2 true, eD, pD, upd RD 2 (fun w => RQ w (2) s13 d13 l13 c13 t13 g13 h13 k13 p2 1), upd AD 2 (fun k => NA k d13 l13 ∧ NA k g13 h13), upd uD 2 (.agg #[.int .i64 s13, .slice d13 l13 c13, .int .i64 t13, .slice g13 h13 k13]), vD, fuel_SpG_b2 hf hbj, rfl, rfl, ch0, fun _ => hprev, fun _ => rfl, hm'⟩
        · skip
          have hbj : bD 3 = false := hnot
          have hprev : bD 2 = true := hdep _ rfl 2 _ rfl rfl
          have hq1 : bD 1 = true := ch1 hprev
          have hq0 : bD 0 = true := ch0 hq1
          refine ⟨_, rfl, fun K' hK => ?_⟩
          have q2 := q2.below hm.bel
          obtain ⟨s13, d13, l13, c13, t13, g13, h13, k13, hu2, hR2, hA2⟩ : RQIs _ _ _ _ _ _ := hm.spec 2 hprev
          have q13 : RQ wr (2) s13 d13 l13 c13 t13 g13 h13 k13 p2 1 := by have := hm.res 2 hprev; rw [hR2] at this; exact this
          rw [hu2]
          go_simp
          (go_at_call 40; refine (rqSub s2 d2 l2 c2 t2 g2 h2 k2 N2 D2 s13 d13 l13 c13 t13 g13 h13 k13 p2 1 K _ q2 (q13.more K1.out K2.out) K3.out uy ey Euy.out Eey.out).mono ?_; rintro e' X ⟨s14, d14, l14, c14, t14, g14, h14, k14, rfl, q14, f14, bX⟩)
          have hm' := hm.call (SpG_good K ex ey p1 p2 ux uy) 3 bX (.agg #[.int .i64 s14, .slice d14 l14 c14, .int .i64 t14, .slice g14 h14 k14]) (fun w => RQ w (K + K + 1) s14 d14 l14 c14 t14 g14 h14 k14 uy ey) (fun k => NA k d14 l14 ∧ NA k g14 h14) ⟨_, _, _, _, _, _, _, _, rfl, rfl, rfl⟩ q14 (fun i hi => f14 (pD i) (hm.lt i hi) trivial)
          refine hK.out _ _ ⟨cell_on hm'.bel x_s.c0, cell_on hm'.bel x_s.c1, cell_on hm'.bel x_s.c2, cell_on hm'.bel x_s.c3, cell_on hm'.bel x_s.c4, cell_on hm'.bel x_s.c5, cell_on hm'.bel x_s.c6, cell_on hm'.bel x_s.c7, cell_on hm'.bel x_p.c0, cell_on hm'.bel x_p.c1, also BB hm'.bel⟩ ?_
          rw [HINV.out]
          exact ⟨upd bD 3 true, eD, pD, upd RD 3 (fun w => RQ w (K + K + 1) s14 d14 l14 c14 t14 g14 h14 k14 uy ey), upd AD 3 (fun k => NA k d14 l14 ∧ NA k g14 h14), upd uD 3 (.agg #[.int .i64 s14, .slice d14 l14 c14, .int .i64 t14, .slice g14 h14 k14]), vD, fuel_SpG_b3 hf hbj, rfl, (by rw [show upd uD 3 (.agg #[.int .i64 s14, .slice d14 l14 c14, .int .i64 t14, .slice g14 h14 k14]) 2 = .agg #[.int .i64 s13, .slice d13 l13 c13, .int .i64 t13, .slice g13 h13 k13] from hu2] <;> rfl), ch0, ch1, fun _ => hprev, hm'⟩
        · skip
          have hei : eD 0 = false := hnot
          refine ⟨_, rfl, fun K' hK => ?_⟩
          go_simp
          have hm' := hm.alloc (SpG_good K ex ey p1 p2 ux uy) 0 41 hei
          refine hK.out _ _ ⟨cell_on hm'.bel x_s.c0, cell_on hm'.bel x_s.c1, cell_on hm'.bel x_s.c2, cell_on hm'.bel x_s.c3, cell_on hm'.bel x_s.c4, cell_on hm'.bel x_s.c5, cell_on hm'.bel x_s.c6, cell_on hm'.bel x_s.c7, cell_on hm'.bel x_p.c0, cell_on hm'.bel x_p.c1, also BB hm'.bel⟩ ?_
          rw [HINV.out]
          exact ⟨bD, upd eD 0 true, upd pD 0 wr.heap.size, RD, AD, uD, upd vD 0 (.pointer (some ⟨wr.heap.size, 0, none⟩)), fuel_SpG_e0 hf hei, rfl, rfl, ch0, ch1, ch2, hm'⟩
        · skip
          have hei : eD 1 = false := hnot
          refine ⟨_, rfl, fun K' hK => ?_⟩
          go_simp
          have hm' := hm.alloc (SpG_good K ex ey p1 p2 ux uy) 1 41 hei
          refine hK.out _ _ ⟨cell_on hm'.bel x_s.c0, cell_on hm'.bel x_s.c1, cell_on hm'.bel x_s.c2, cell_on hm'.bel x_s.c3, cell_on hm'.bel x_s.c4, cell_on hm'.bel x_s.c5, cell_on hm'.bel x_s.c6, cell_on hm'.bel x_s.c7, cell_on hm'.bel x_p.c0, cell_on hm'.bel x_p.c1, also BB hm'.bel⟩ ?_
          rw [HINV.out]
          exact ⟨bD, upd eD 1 true, upd pD 1 wr.heap.size, RD, AD, uD, upd vD 1 (.pointer (some ⟨wr.heap.size, 0, none⟩)), fuel_SpG_e1 hf hei, rfl, rfl, ch0, ch1, ch2, hm'⟩
        · skip
          exact absurd ⟨hdep _ rfl 2 _ rfl rfl, hdep _ rfl 0 _ rfl rfl, hdep _ rfl 16 _ rfl rfl⟩ hall
        · skip
          exact Bool.noConfusion (show false = true from hdep _ rfl 2 _ rfl rfl)
  rw [HQQ.out]
  rintro e act Y1 ⟨rfl, pma0, pma1, s11, d11, l11, c11, t11, g11, h11, k11, s12, d12, l12, c12, t12, g12, h12, k12, s13, d13, l13, c13, t13, g13, h13, k13, s14, d14, l14, c14, t14, g14, h14, k14, rfl, q1, q2, q11, q12, q13, q14, x_s, x_p, x_r, x_x, x_y, BB, z_Y1, z_Y1_pma0, z_Y1_pma1⟩
  clear HQQ QQ
  try dsimp only
  go_wp2
  have dd1 : Below Y1.heap.size Y1 Y1.drew := (Below.refl _ _).drew
  have zdd1 := dd1.size
  replace q1 := q1.below dd1
  replace q2 := q2.below dd1
  replace BB := also BB dd1
  replace x_s := x_s.on dd1
  replace x_p := x_p.on dd1
  replace x_r := x_r.on dd1
  replace q11 := q11.below dd1
  replace q12 := q12.below dd1
  replace q13 := q13.below dd1
  replace q14 := q14.below dd1
  replace x_x := x_x.on dd1
  replace x_y := x_y.on dd1
  refine wp_region_held_drew (S := (fun w' => w'.cell? ⟨pma0, 0, none⟩ = some (.int .i64 s12) ∧ w'.cell? ⟨pma0, 1, none⟩ = some (.slice d12 l12 c12) ∧ w'.cell? ⟨pma0, 2, none⟩ = some (.int .i64 t12) ∧ w'.cell? ⟨pma0, 3, none⟩ = some (.slice g12 h12 k12) ∧ w'.cell? ⟨pma1, 0, none⟩ = some (.int .i64 s14) ∧ w'.cell? ⟨pma1, 1, none⟩ = some (.slice d14 l14 c14) ∧ w'.cell? ⟨pma1, 2, none⟩ = some (.int .i64 t14) ∧ w'.cell? ⟨pma1, 3, none⟩ = some (.slice g14 h14 k14) ∧ Below w.heap.size w w')) (by kernel_rfl) ?_ (fun hHeld => ?_)
  · exact ⟨x_x.c0, x_x.c1, x_x.c2, x_x.c3, x_y.c0, x_y.c1, x_y.c2, x_y.c3, BB⟩
  refine take_yes (i := 0) (v := ?vs0) rfl (by kernel_rfl) (by kernel_rfl) (by kernel_rfl) (fun _ _ _ h => h) (by rfl) (by assumption) ?hys0 ?rests0
  case hys0 => (intro w hSw; (try dsimp only at hSw); first | (go_simp; done) | (go_simp; with_reducible rfl))
  simp only [Act.put, List.setIfInBounds_toArray, List.set_cons_zero, List.set_cons_succ]
  refine take_yes (i := 1) (v := ?vs1) rfl (by kernel_rfl) (by kernel_rfl) (by kernel_rfl) (fun _ _ _ h => h) (by rfl) (by assumption) ?hys1 ?rests1
  case hys1 => (intro w hSw; (try dsimp only at hSw); first | (go_simp; done) | (go_simp; with_reducible rfl))
  simp only [Act.put, List.setIfInBounds_toArray, List.set_cons_zero, List.set_cons_succ]
  refine take_yes (i := 3) (v := ?vs3) rfl (by kernel_rfl) (by kernel_rfl) (by kernel_rfl) (fun _ _ _ h => h) (by rfl) (by assumption) ?hys3 ?rests3
  case hys3 => (intro w hSw; (try dsimp only at hSw); first | (go_simp; done) | (go_simp; with_reducible rfl))
  simp only [Act.put, List.setIfInBounds_toArray, List.set_cons_zero, List.set_cons_succ]
  refine take_yes (i := 4) (v := ?vs4) rfl (by kernel_rfl) (by kernel_rfl) (by kernel_rfl) (fun _ _ _ h => h) (by rfl) (by assumption) ?hys4 ?rests4
  case hys4 => (intro w hSw; (try dsimp only at hSw); first | (go_simp; done) | (go_simp; with_reducible rfl))
  simp only [Act.put, List.setIfInBounds_toArray, List.set_cons_zero, List.set_cons_succ]
  refine take_call (i := 2) rfl (by kernel_rfl) (fun Kc hK => ?_)
  go_simp
  (go_at_call 41; refine (rqMul s12 d12 l12 c12 t12 g12 h12 k12 ux ex s12 d12 l12 c12 t12 g12 h12 k12 ux ex (K + K + 1) _ q12 q12 K4.out _ _ rfl rfl).mono ?_; rintro e w1 ⟨s15, d15, l15, c15, t15, g15, h15, k15, rfl, q15, f15, bw1⟩)
  refine hK.out _ _ ?_ (fun hHeld => ?_)
  · exact ⟨cell_on bw1 hHeld.1, cell_on bw1 hHeld.2.1, cell_on bw1 hHeld.2.2.1, cell_on bw1 hHeld.2.2.2.1, cell_on bw1 hHeld.2.2.2.2.1, cell_on bw1 hHeld.2.2.2.2.2.1, cell_on bw1 hHeld.2.2.2.2.2.2.1, cell_on bw1 hHeld.2.2.2.2.2.2.2.1, also hHeld.2.2.2.2.2.2.2.2 bw1⟩
  clear hK Kc
  have zbw1 := bw1.size
  replace q1 := q1.below bw1
  replace q2 := q2.below bw1
  replace BB := also BB bw1
  replace x_s := x_s.on bw1
  replace x_p := x_p.on bw1
  replace x_r := x_r.on bw1
  replace q11 := q11.below bw1
  replace q12 := q12.below bw1
  replace q13 := q13.below bw1
  replace q14 := q14.below bw1
  replace x_x := x_x.on bw1
  replace x_y := x_y.on bw1
  refine take_call (i := 5) rfl (by kernel_rfl) (fun Kc hK => ?_)
  go_simp
  (go_at_call 41; refine (rqMul s14 d14 l14 c14 t14 g14 h14 k14 uy ey s14 d14 l14 c14 t14 g14 h14 k14 uy ey (K + K + 1) _ q14 q14 K4.out _ _ rfl rfl).mono ?_; rintro e w2 ⟨s16, d16, l16, c16, t16, g16, h16, k16, rfl, q16, f16, bw2⟩)
  refine hK.out _ _ ?_ (fun hHeld => ?_)
  · exact ⟨cell_on bw2 hHeld.1, cell_on bw2 hHeld.2.1, cell_on bw2 hHeld.2.2.1, cell_on bw2 hHeld.2.2.2.1, cell_on bw2 hHeld.2.2.2.2.1, cell_on bw2 hHeld.2.2.2.2.2.1, cell_on bw2 hHeld.2.2.2.2.2.2.1, cell_on bw2 hHeld.2.2.2.2.2.2.2.1, also hHeld.2.2.2.2.2.2.2.2 bw2⟩
  clear hK Kc
  have zbw2 := bw2.size
  replace q1 := q1.below bw2
  replace q2 := q2.below bw2
  replace BB := also BB bw2
  replace x_s := x_s.on bw2
  replace x_p := x_p.on bw2
  replace x_r := x_r.on bw2
  replace q11 := q11.below bw2
  replace q12 := q12.below bw2
  replace q13 := q13.below bw2
  replace q14 := q14.below bw2
  replace x_x := x_x.on bw2
  replace x_y := x_y.on bw2
  replace q15 := q15.below bw2
  refine take_call (i := 6) rfl (by kernel_rfl) (fun Kc hK => ?_)
  go_simp
  (go_at_call 21; refine (rqAdd s15 d15 l15 c15 t15 g15 h15 k15 _ _ s16 d16 l16 c16 t16 g16 h16 k16 _ _ (K + K + 1 + (K + K + 1)) _ q15 q16 K5.out _ _ rfl rfl).mono ?_; rintro e w3 ⟨s17, d17, l17, c17, t17, g17, h17, k17, rfl, q17, f17, bw3⟩)
  refine hK.out _ _ ?_ (fun hHeld => ?_)
  · exact ⟨cell_on bw3 hHeld.1, cell_on bw3 hHeld.2.1, cell_on bw3 hHeld.2.2.1, cell_on bw3 hHeld.2.2.2.1, cell_on bw3 hHeld.2.2.2.2.1, cell_on bw3 hHeld.2.2.2.2.2.1, cell_on bw3 hHeld.2.2.2.2.2.2.1, cell_on bw3 hHeld.2.2.2.2.2.2.2.1, also hHeld.2.2.2.2.2.2.2.2 bw3⟩
  clear hK Kc
  have zbw3 := bw3.size
  replace q1 := q1.below bw3
  replace q2 := q2.below bw3
  replace BB := also BB bw3
  replace x_s := x_s.on bw3
  replace x_p := x_p.on bw3
  replace x_r := x_r.on bw3
  replace q11 := q11.below bw3
  replace q12 := q12.below bw3
  replace q13 := q13.below bw3
  replace q14 := q14.below bw3
  replace x_x := x_x.on bw3
  replace x_y := x_y.on bw3
  replace q15 := q15.below bw3
  replace q16 := q16.below bw3
  refine take_call (i := 7) rfl (by kernel_rfl) (fun Kc hK => ?_)
  go_simp
  (go_at_call 30; refine (rqLow s17 d17 l17 c17 t17 g17 h17 k17 _ _ (K + K + 1 + (K + K + 1) + (K + K + 1 + (K + K + 1)) + 1) _ q17 N D EN.out ED.out).mono ?_; rintro e w4 ⟨s18, d18, l18, c18, t18, g18, h18, k18, rfl, q18, f18, bw4⟩)
  refine hK.out _ _ ?_ (fun hHeld => ?_)
  · exact ⟨cell_on bw4 hHeld.1, cell_on bw4 hHeld.2.1, cell_on bw4 hHeld.2.2.1, cell_on bw4 hHeld.2.2.2.1, cell_on bw4 hHeld.2.2.2.2.1, cell_on bw4 hHeld.2.2.2.2.2.1, cell_on bw4 hHeld.2.2.2.2.2.2.1, cell_on bw4 hHeld.2.2.2.2.2.2.2.1, also hHeld.2.2.2.2.2.2.2.2 bw4⟩
  clear hK Kc
  have zbw4 := bw4.size
  replace q1 := q1.below bw4
  replace q2 := q2.below bw4
  replace BB := also BB bw4
  replace x_s := x_s.on bw4
  replace x_p := x_p.on bw4
  replace x_r := x_r.on bw4
  replace q11 := q11.below bw4
  replace q12 := q12.below bw4
  replace q13 := q13.below bw4
  replace q14 := q14.below bw4
  replace x_x := x_x.on bw4
  replace x_y := x_y.on bw4
  replace q15 := q15.below bw4
  replace q16 := q16.below bw4
  replace q17 := q17.below bw4
  have ⟨x_r_0, x_r_1, x_r_2, x_r_3, x_r_4, x_r_5, x_r_6, x_r_7⟩ := x_r
  refine take_call (i := 8) rfl (by kernel_rfl) (fun Kc hK => ?_)
  go_simp
  refine hK.out _ _ ?_ (fun hHeld => ?_)
  · first | exact ⟨cell_put4 hHeld.1 (by omega) _ _ _ _, cell_put4 hHeld.2.1 (by omega) _ _ _ _, cell_put4 hHeld.2.2.1 (by omega) _ _ _ _, cell_put4 hHeld.2.2.2.1 (by omega) _ _ _ _, cell_put4 hHeld.2.2.2.2.1 (by omega) _ _ _ _, cell_put4 hHeld.2.2.2.2.2.1 (by omega) _ _ _ _, cell_put4 hHeld.2.2.2.2.2.2.1 (by omega) _ _ _ _, cell_put4 hHeld.2.2.2.2.2.2.2.1 (by omega) _ _ _ _, below_put4 hHeld.2.2.2.2.2.2.2.2 (by omega) _ _ _ _⟩ | exact ⟨x_x.c0, x_x.c1, x_x.c2, x_x.c3, x_y.c0, x_y.c1, x_y.c2, x_y.c3, BB⟩
  clear hK Kc
  refine wpAnyH_done (by kernel_rfl) ?_ _
  have m1 := f18 (w.heap.size + 1 + 1) (by omega) trivial
  go_wp2
  exact bodyPost_ret (v := .agg #[.int .i64 s18, .slice d18 l18 c18, .int .i64 t18, .slice g18 h18 k18]) (by simp [results, Tryz.results17, go_sem, *]) rfl (endRQ _ (by omega) BB q18 m1.1 m1.2 (fun j hj _ => f18 j (by omega) trivial) _ _ _ _)
end Go.Proofs.YtcaihoomcdbfnaaGreat

namespace Go.Proofs.YtcaihoomcdbfnaaGreat
set_option linter.unusedVariables false

theorem fe_mul {n n' m m' : Int} {d d' e e' : Nat} (h1 : fe n d n' d') (h2 : fe m e m' e') : fe (n * m) (d * e) (n' * m') (d' * e') := by
  unfold fe at *
  rw [Int.natCast_mul, Int.natCast_mul]
  grind
theorem fe_add {n n' m m' : Int} {d d' e e' : Nat} (h1 : fe n d n' d') (h2 : fe m e m' e') : fe (n * (e : Int) + m * (d : Int)) (d * e) (n' * (e' : Int) + m' * (d' : Int)) (d' * e') := by
  unfold fe at *
  rw [Int.natCast_mul, Int.natCast_mul]
  grind
end Go.Proofs.YtcaihoomcdbfnaaGreat

namespace Go.Proofs.YtcaihoomcdbfnaaGreat
open Go.RowKit
set_option linter.unusedVariables false

theorem sgn_sq {x : Int} (h : x ≠ 0) : x.sign * x.sign = 1 := by
  rcases Int.lt_trichotomy x 0 with k | k | k
  · rw [Int.sign_eq_neg_one_of_neg k]; rfl
  · exact absurd k h
  · rw [Int.sign_eq_one_of_pos k]; rfl
/-- How far a spot is from a point, squared. -/
theorem far_fe {X Y p1 p2 N1 N2 : Int} {d D1 D2 : Nat} (h1 : fe N1 D1 X d) (h2 : fe N2 D2 Y d) {ux uy : Int} {ex ey : Nat} (hux : ux = N1 * ((1 : Nat) : Int) + -p1 * (D1 : Int)) (hex : ex = D1 * 1) (huy : uy = N2 * ((1 : Nat) : Int) + -p2 * (D2 : Int)) (hey : ey = D2 * 1) (hd : 0 < d) :
    fe (ux * ux * ((ey * ey : Nat) : Int) + uy * uy * ((ex * ex : Nat) : Int)) (ex * ex * (ey * ey)) ((X - p1 * (d : Int)) * (X - p1 * (d : Int)) + (Y - p2 * (d : Int)) * (Y - p2 * (d : Int))) (d * d) := by
  have f1 : fe ux ex (X - p1 * (d : Int)) d := by subst hux hex; unfold fe at *; simp only [Nat.mul_one]; grind
  have f2 : fe uy ey (Y - p2 * (d : Int)) d := by subst huy hey; unfold fe at *; simp only [Nat.mul_one]; grind
  have f3 := fe_add (fe_mul f1 f1) (fe_mul f2 f2)
  refine fe_trans (Nat.mul_pos (Nat.mul_pos hd hd) (Nat.mul_pos hd hd)) f3 ?_
  unfold fe
  push_cast
  grind
theorem rad_sq {T c1' c2' p1 p2 R : Int} (hT : T ≠ 0) (h : (c1' - T * p1) * (c1' - T * p1) + (c2' - T * p2) * (c2' - T * p2) = R) :
    (c1' * T.sign - p1 * (T.natAbs : Int)) * (c1' * T.sign - p1 * (T.natAbs : Int)) + (c2' * T.sign - p2 * (T.natAbs : Int)) * (c2' * T.sign - p2 * (T.natAbs : Int)) = R := by
  have hs := sgn_sq hT
  rw [abs_sgn]
  generalize T.sign = s at hs
  grind
/-- From each corner it is as far: of the center in lowest terms. -/
theorem far_low {a1 a2 b1 b2 c1 c2 p1 p2 : Int} (h0 : areaP a1 a2 b1 b2 c1 c2 ≠ 0) (hp : (p1 = a1 ∧ p2 = a2) ∨ (p1 = b1 ∧ p2 = b2) ∨ (p1 = c1 ∧ p2 = c2)) {N1 N2 : Int} {D1 D2 : Nat}
    (hN1 : N1 = lowN (cenX a1 a2 b1 b2 c1 c2 * (2 * areaP a1 a2 b1 b2 c1 c2).sign) (2 * areaP a1 a2 b1 b2 c1 c2).natAbs) (hD1 : D1 = lowD (cenX a1 a2 b1 b2 c1 c2 * (2 * areaP a1 a2 b1 b2 c1 c2).sign) (2 * areaP a1 a2 b1 b2 c1 c2).natAbs)
    (hN2 : N2 = lowN (cenY a1 a2 b1 b2 c1 c2 * (2 * areaP a1 a2 b1 b2 c1 c2).sign) (2 * areaP a1 a2 b1 b2 c1 c2).natAbs) (hD2 : D2 = lowD (cenY a1 a2 b1 b2 c1 c2 * (2 * areaP a1 a2 b1 b2 c1 c2).sign) (2 * areaP a1 a2 b1 b2 c1 c2).natAbs)
    {ux uy : Int} {ex ey : Nat} (hux : ux = N1 * ((1 : Nat) : Int) + -p1 * (D1 : Int)) (hex : ex = D1 * 1) (huy : uy = N2 * ((1 : Nat) : Int) + -p2 * (D2 : Int)) (hey : ey = D2 * 1) (hdx : 0 < ex) (hdy : 0 < ey) :
    lowN (ux * ux * ((ey * ey : Nat) : Int) + uy * uy * ((ex * ex : Nat) : Int)) (ex * ex * (ey * ey)) = lowN (rad2 a1 a2 b1 b2 c1 c2) ((2 * areaP a1 a2 b1 b2 c1 c2).natAbs * (2 * areaP a1 a2 b1 b2 c1 c2).natAbs) ∧
    lowD (ux * ux * ((ey * ey : Nat) : Int) + uy * uy * ((ex * ex : Nat) : Int)) (ex * ex * (ey * ey)) = lowD (rad2 a1 a2 b1 b2 c1 c2) ((2 * areaP a1 a2 b1 b2 c1 c2).natAbs * (2 * areaP a1 a2 b1 b2 c1 c2).natAbs) := by
  have hr : (cenX a1 a2 b1 b2 c1 c2 - 2 * areaP a1 a2 b1 b2 c1 c2 * p1) * (cenX a1 a2 b1 b2 c1 c2 - 2 * areaP a1 a2 b1 b2 c1 c2 * p1) + (cenY a1 a2 b1 b2 c1 c2 - 2 * areaP a1 a2 b1 b2 c1 c2 * p2) * (cenY a1 a2 b1 b2 c1 c2 - 2 * areaP a1 a2 b1 b2 c1 c2 * p2) = rad2 a1 a2 b1 b2 c1 c2 := by
    rcases hp with ⟨rfl, rfl⟩ | ⟨rfl, rfl⟩ | ⟨rfl, rfl⟩
    · exact cen_far_a _ _ _ _ _ _
    · exact cen_far_b _ _ _ _ _ _
    · exact cen_far_c _ _ _ _ _ _
  have hT : 2 * areaP a1 a2 b1 b2 c1 c2 ≠ 0 := by omega
  generalize 2 * areaP a1 a2 b1 b2 c1 c2 = T at *
  have ht : 0 < T.natAbs := by omega
  have f1 : fe N1 D1 (cenX a1 a2 b1 b2 c1 c2 * T.sign) T.natAbs := by rw [hN1, hD1]; exact fe_low ht
  have f2 : fe N2 D2 (cenY a1 a2 b1 b2 c1 c2 * T.sign) T.natAbs := by rw [hN2, hD2]; exact fe_low ht
  have f := far_fe (p1 := p1) (p2 := p2) f1 f2 hux hex huy hey ht
  rw [rad_sq hT hr] at f
  exact low_uniq (Nat.mul_pos (Nat.mul_pos hdx hdx) (Nat.mul_pos hdy hdy)) (Nat.mul_pos ht ht) f
/-- Which circles are small. -/
theorem small_iff {R A s : Int} {N : Int} {D : Nat} (hA : A ≠ 0) (hN : N = lowN R ((2 * A).natAbs * (2 * A).natAbs)) (hD : D = lowD R ((2 * A).natAbs * (2 * A).natAbs)) :
    decide ((16 * N * ((1 * 1 : Nat) : Int) - s * s * ((1 * D : Nat) : Int)).sign < 0) = decide (4 * R < s * s * (A * A)) := by
  have ht : 0 < (2 * A).natAbs := by omega
  have hd : 0 < (2 * A).natAbs * (2 * A).natAbs := Nat.mul_pos ht ht
  have f : fe N D R ((2 * A).natAbs * (2 * A).natAbs) := by rw [hN, hD]; exact fe_low hd
  have hDp : 0 < D := by rw [hD]; exact lowD_pos hd
  unfold fe at f
  rw [Int.natCast_mul, Int.natAbs_mul_self'] at f
  have e : ∀ x : Int, x.sign < 0 ↔ x < 0 := fun x => by
    rcases Int.lt_trichotomy x 0 with h | h | h
    · rw [Int.sign_eq_neg_one_of_neg h]; omega
    · subst h; simp
    · rw [Int.sign_eq_one_of_pos h]; omega
  rw [decide_eq_decide, e]
  simp only [Nat.one_mul, Nat.mul_one, Int.natCast_one, Int.mul_one]
  have hA2 : 0 < A * A := by
    rcases Int.lt_trichotomy A 0 with h | h | h
    · exact Int.mul_pos_of_neg_of_neg h h
    · exact absurd h hA
    · exact Int.mul_pos h h
  have f' : 4 * (N * (A * A)) = R * (D : Int) := by rw [← f]; grind
  have hDi : 0 < (D : Int) := by omega
  constructor
  · intro h
    have h1 : 16 * N < s * s * (D : Int) := by omega
    have h2 := Int.mul_lt_mul_of_pos_right h1 hA2
    have h3 : 4 * R * (D : Int) < s * s * (A * A) * (D : Int) := by
      have e1 : 16 * N * (A * A) = 4 * R * (D : Int) := by rw [Int.mul_assoc 4 R, ← f']; grind
      have e2 : s * s * (D : Int) * (A * A) = s * s * (A * A) * (D : Int) := by grind
      rw [e1, e2] at h2
      exact h2
    exact Int.lt_of_mul_lt_mul_right h3 (Int.le_of_lt hDi)
  · intro h
    have h2 := Int.mul_lt_mul_of_pos_right h hDi
    have h3 : 16 * N * (A * A) < s * s * (D : Int) * (A * A) := by
      have e1 : 16 * N * (A * A) = 4 * R * (D : Int) := by rw [Int.mul_assoc 4 R, ← f']; grind
      have e2 : s * s * (D : Int) * (A * A) = s * s * (A * A) * (D : Int) := by grind
      rw [e1, e2]
      exact h2
    have := Int.lt_of_mul_lt_mul_right h3 (Int.le_of_lt hA2)
    omega
end Go.Proofs.YtcaihoomcdbfnaaGreat
