/-
  Joined texts, part 8:
  What zelligeref07's near, sign, Orient and flat answer.
  What zelligeref11's AddFace answers where a vertex is not there, a corner can't be, or the corners don't turn left.
-/
import Derived.Test.YtjdeehffbgpenaaGreatP7
namespace Go.Proofs.YtjdeehffbgpenaaGreat
open Go.RowKit
set_option linter.unusedVariables false

def nearP (a1 a2 b1 b2 : Int) : Bool := decide (-8192 < b1 - a1 ∧ b1 - a1 < 8192 ∧ -8192 < b2 - a2 ∧ b2 - a2 < 8192)
theorem near_abs {a1 a2 b1 b2 : Int} (h : nearP a1 a2 b1 b2 = true) : (b1 - a1).natAbs ≤ 8191 ∧ (b2 - a2).natAbs ≤ 8191 := by
  have := of_decide_eq_true h
  omega
theorem rpSign (n : Int) (w : World) {g : Int} (hg : g = n.sign) : Calls Tryz.prog 120 #[.int .i64 n] w fun e w' => e = .returned (.int .i64 g) ∧ Below w.heap.size w w' := by
  rcases Int.lt_trichotomy n 0 with h | h | h
  · obtain rfl : g = -1 := by rw [hg, Int.sign_eq_neg_one_of_neg h]
    clear hg
    go_enter Tryz.func120, Tryz.ntmps120
    go_wp2
    go_ret
    exact ⟨rfl, Below.refl _ _⟩
  · subst h
    obtain rfl : g = 0 := hg
    go_enter Tryz.func120, Tryz.ntmps120
    go_wp2
    go_ret
    exact ⟨rfl, Below.refl _ _⟩
  · obtain rfl : g = 1 := by rw [hg, Int.sign_eq_one_of_pos h]
    clear hg
    have h' : ¬ n < 0 := by omega
    go_enter Tryz.func120, Tryz.ntmps120
    go_wp2
    go_ret
    exact ⟨rfl, Below.refl _ _⟩
set_option maxRecDepth 100000 in
set_option maxHeartbeats 4000000 in
theorem rpNear (a1 a2 b1 b2 : Int) (w : World) (ha : canC a1 a2 = true) (hb : canC b1 b2 = true) {r : Bool} (hr : r = nearP a1 a2 b1 b2) :
    Calls Tryz.prog 119 #[.agg #[.int .i64 a1, .int .i64 a2], .agg #[.int .i64 b1, .int .i64 b2]] w fun e w' => e = .returned (.bool r) ∧ Below w.heap.size w w' := by
  obtain ⟨x, hx⟩ : ∃ x, x = b1 - a1 := ⟨_, rfl⟩
  have c_x := can_sub (canC_true.1 hb).1 (canC_true.1 ha).1
  rw [← hx] at c_x
  have w_x : wrap64 (b1 - a1) = x := by rw [← hx]; exact c_x.1
  have v_x : IntKind.i64.wrap (b1 - a1) = x := (wrap_i64 _).trans w_x
  have R_x : Hid _ := c_x.2
  have E_x : Hid _ := hx
  clear c_x hx
  obtain ⟨y, hy⟩ : ∃ y, y = b2 - a2 := ⟨_, rfl⟩
  have c_y := can_sub (canC_true.1 hb).2 (canC_true.1 ha).2
  rw [← hy] at c_y
  have w_y : wrap64 (b2 - a2) = y := by rw [← hy]; exact c_y.1
  have v_y : IntKind.i64.wrap (b2 - a2) = y := (wrap_i64 _).trans w_y
  have R_y : Hid _ := c_y.2
  have E_y : Hid _ := hy
  clear c_y hy
  have HR : Hid (r = decide (-8192 < x ∧ x < 8192 ∧ -8192 < y ∧ y < 8192)) := by unfold Hid; rw [hr, E_x.out, E_y.out]; rfl
  clear hr ha hb
  rcases Decidable.em (-8192 < x) with k0 | k0
  rotate_left
  · skip
    obtain rfl : r = false := by rw [HR.out]; simp; omega
    have k' : decide (-8192 < x) = false := decide_eq_false k0
    obtain ⟨W, hW, bW, x_a, x_b, sW⟩ := bs_22 w (.int .i64 a1) (.int .i64 a2) (.int .i64 b1) (.int .i64 b2) 41 41
    have zbW := bW.size
    have BB := bW
    go_enter Tryz.func119, Tryz.ntmps119
    go_wp2
    rw [← hW]
    clear hW
    have dd1 : Below W.heap.size W W.drew := (Below.refl _ _).drew
    have zdd1 := dd1.size
    replace BB := also BB dd1
    replace x_a := x_a.on dd1
    replace x_b := x_b.on dd1
    refine wp_region_held_drew (S := (fun w' => w'.cell? ⟨w.heap.size, 0, none⟩ = some (.int .i64 a1) ∧ w'.cell? ⟨w.heap.size, 1, none⟩ = some (.int .i64 a2) ∧ w'.cell? ⟨w.heap.size + 1, 0, none⟩ = some (.int .i64 b1) ∧ w'.cell? ⟨w.heap.size + 1, 1, none⟩ = some (.int .i64 b2) ∧ Below w.heap.size w w')) (by kernel_rfl) ?_ (fun hHeld => ?_)
    · exact ⟨x_a.c0, x_a.c1, x_b.c0, x_b.c1, BB⟩
    refine ty (i := 0) (v := ?vsa0) rfl ?hysa0 ?_
    case hysa0 => (intro w hSw; (try dsimp only at hSw); go_simp <;> with_reducible rfl)
    simp only [Act.put, ps1, ps2, ps3]
    refine ty (i := 1) (v := ?vsa1) rfl ?hysa1 ?_
    case hysa1 => (intro w hSw; (try dsimp only at hSw); go_simp <;> with_reducible rfl)
    simp only [Act.put, ps1, ps2, ps3]
    refine ty (i := 2) (v := ?vsa2) rfl ?hysa2 ?_
    case hysa2 => (intro w hSw; (try dsimp only at hSw); go_simp <;> with_reducible rfl)
    simp only [Act.put, ps1, ps2, ps3]
    refine ty (i := 3) (v := ?vsa3) rfl ?hysa3 ?_
    case hysa3 => (intro w hSw; (try dsimp only at hSw); go_simp <;> with_reducible rfl)
    simp only [Act.put, ps1, ps2, ps3]
    refine ty (i := 4) (v := ?vsa4) rfl ?hysa4 ?_
    case hysa4 => (intro w hSw; (try dsimp only at hSw); go_simp <;> with_reducible rfl)
    simp only [Act.put, ps1, ps2, ps3]
    refine ty (i := 5) (v := ?vsa5) rfl ?hysa5 ?_
    case hysa5 => (intro w hSw; (try dsimp only at hSw); go_simp <;> with_reducible rfl)
    simp only [Act.put, ps1, ps2, ps3]
    refine ty (i := 6) (v := ?vsa6) rfl ?hysa6 ?_
    case hysa6 => (intro w hSw; (try dsimp only at hSw); go_simp <;> with_reducible rfl)
    simp only [Act.put, ps1, ps2, ps3]
    refine ty (i := 7) (v := ?vsa7) rfl ?hysa7 ?_
    case hysa7 => (intro w hSw; (try dsimp only at hSw); go_simp <;> with_reducible rfl)
    simp only [Act.put, ps1, ps2, ps3]
    refine ty (i := 8) (v := ?vsa8) rfl ?hysa8 ?_
    case hysa8 => (intro w hSw; (try dsimp only at hSw); go_simp <;> with_reducible rfl)
    simp only [Act.put, ps1, ps2, ps3]
    refine ty (i := 9) (v := ?vsa9) rfl ?hysa9 ?_
    case hysa9 => (intro w hSw; (try dsimp only at hSw); go_simp <;> with_reducible rfl)
    simp only [Act.put, ps1, ps2, ps3]
    refine ty (i := 10) (v := ?vsa10) rfl ?hysa10 ?_
    case hysa10 => (intro w hSw; (try dsimp only at hSw); go_simp <;> with_reducible rfl)
    simp only [Act.put, ps1, ps2, ps3]
    refine ty (i := 11) (v := ?vsa11) rfl ?hysa11 ?_
    case hysa11 => (intro w hSw; (try dsimp only at hSw); go_simp <;> with_reducible rfl)
    simp only [Act.put, ps1, ps2, ps3]
    refine wpAnyH_done (by kernel_rfl) ?_ _
    go_wp2
    go_ret
    exact ⟨rfl, BB⟩
  rcases Decidable.em (x < 8192) with k1 | k1
  rotate_left
  · skip
    obtain rfl : r = false := by rw [HR.out]; simp; omega
    have k' : decide (x < 8192) = false := decide_eq_false k1
    obtain ⟨W, hW, bW, x_a, x_b, sW⟩ := bs_22 w (.int .i64 a1) (.int .i64 a2) (.int .i64 b1) (.int .i64 b2) 41 41
    have zbW := bW.size
    have BB := bW
    go_enter Tryz.func119, Tryz.ntmps119
    go_wp2
    rw [← hW]
    clear hW
    have dd1 : Below W.heap.size W W.drew := (Below.refl _ _).drew
    have zdd1 := dd1.size
    replace BB := also BB dd1
    replace x_a := x_a.on dd1
    replace x_b := x_b.on dd1
    refine wp_region_held_drew (S := (fun w' => w'.cell? ⟨w.heap.size, 0, none⟩ = some (.int .i64 a1) ∧ w'.cell? ⟨w.heap.size, 1, none⟩ = some (.int .i64 a2) ∧ w'.cell? ⟨w.heap.size + 1, 0, none⟩ = some (.int .i64 b1) ∧ w'.cell? ⟨w.heap.size + 1, 1, none⟩ = some (.int .i64 b2) ∧ Below w.heap.size w w')) (by kernel_rfl) ?_ (fun hHeld => ?_)
    · exact ⟨x_a.c0, x_a.c1, x_b.c0, x_b.c1, BB⟩
    refine ty (i := 0) (v := ?vsb0) rfl ?hysb0 ?_
    case hysb0 => (intro w hSw; (try dsimp only at hSw); go_simp <;> with_reducible rfl)
    simp only [Act.put, ps1, ps2, ps3]
    refine ty (i := 1) (v := ?vsb1) rfl ?hysb1 ?_
    case hysb1 => (intro w hSw; (try dsimp only at hSw); go_simp <;> with_reducible rfl)
    simp only [Act.put, ps1, ps2, ps3]
    refine ty (i := 2) (v := ?vsb2) rfl ?hysb2 ?_
    case hysb2 => (intro w hSw; (try dsimp only at hSw); go_simp <;> with_reducible rfl)
    simp only [Act.put, ps1, ps2, ps3]
    refine ty (i := 3) (v := ?vsb3) rfl ?hysb3 ?_
    case hysb3 => (intro w hSw; (try dsimp only at hSw); go_simp <;> with_reducible rfl)
    simp only [Act.put, ps1, ps2, ps3]
    refine ty (i := 4) (v := ?vsb4) rfl ?hysb4 ?_
    case hysb4 => (intro w hSw; (try dsimp only at hSw); go_simp <;> with_reducible rfl)
    simp only [Act.put, ps1, ps2, ps3]
    refine ty (i := 5) (v := ?vsb5) rfl ?hysb5 ?_
    case hysb5 => (intro w hSw; (try dsimp only at hSw); go_simp <;> with_reducible rfl)
    simp only [Act.put, ps1, ps2, ps3]
    refine ty (i := 6) (v := ?vsb6) rfl ?hysb6 ?_
    case hysb6 => (intro w hSw; (try dsimp only at hSw); go_simp <;> with_reducible rfl)
    simp only [Act.put, ps1, ps2, ps3]
    refine ty (i := 7) (v := ?vsb7) rfl ?hysb7 ?_
    case hysb7 => (intro w hSw; (try dsimp only at hSw); go_simp <;> with_reducible rfl)
    simp only [Act.put, ps1, ps2, ps3]
    refine ty (i := 8) (v := ?vsb8) rfl ?hysb8 ?_
    case hysb8 => (intro w hSw; (try dsimp only at hSw); go_simp <;> with_reducible rfl)
    simp only [Act.put, ps1, ps2, ps3]
    refine ty (i := 9) (v := ?vsb9) rfl ?hysb9 ?_
    case hysb9 => (intro w hSw; (try dsimp only at hSw); go_simp <;> with_reducible rfl)
    simp only [Act.put, ps1, ps2, ps3]
    refine ty (i := 10) (v := ?vsb10) rfl ?hysb10 ?_
    case hysb10 => (intro w hSw; (try dsimp only at hSw); go_simp <;> with_reducible rfl)
    simp only [Act.put, ps1, ps2, ps3]
    refine ty (i := 11) (v := ?vsb11) rfl ?hysb11 ?_
    case hysb11 => (intro w hSw; (try dsimp only at hSw); go_simp <;> with_reducible rfl)
    simp only [Act.put, ps1, ps2, ps3]
    refine wpAnyH_done (by kernel_rfl) ?_ _
    go_wp2
    go_ret
    exact ⟨rfl, BB⟩
  rcases Decidable.em (-8192 < y) with k2 | k2
  rotate_left
  · skip
    obtain rfl : r = false := by rw [HR.out]; simp; omega
    have k' : decide (-8192 < y) = false := decide_eq_false k2
    obtain ⟨W, hW, bW, x_a, x_b, sW⟩ := bs_22 w (.int .i64 a1) (.int .i64 a2) (.int .i64 b1) (.int .i64 b2) 41 41
    have zbW := bW.size
    have BB := bW
    go_enter Tryz.func119, Tryz.ntmps119
    go_wp2
    rw [← hW]
    clear hW
    have dd1 : Below W.heap.size W W.drew := (Below.refl _ _).drew
    have zdd1 := dd1.size
    replace BB := also BB dd1
    replace x_a := x_a.on dd1
    replace x_b := x_b.on dd1
    refine wp_region_held_drew (S := (fun w' => w'.cell? ⟨w.heap.size, 0, none⟩ = some (.int .i64 a1) ∧ w'.cell? ⟨w.heap.size, 1, none⟩ = some (.int .i64 a2) ∧ w'.cell? ⟨w.heap.size + 1, 0, none⟩ = some (.int .i64 b1) ∧ w'.cell? ⟨w.heap.size + 1, 1, none⟩ = some (.int .i64 b2) ∧ Below w.heap.size w w')) (by kernel_rfl) ?_ (fun hHeld => ?_)
    · exact ⟨x_a.c0, x_a.c1, x_b.c0, x_b.c1, BB⟩
    refine ty (i := 0) (v := ?vsc0) rfl ?hysc0 ?_
    case hysc0 => (intro w hSw; (try dsimp only at hSw); go_simp <;> with_reducible rfl)
    simp only [Act.put, ps1, ps2, ps3]
    refine ty (i := 1) (v := ?vsc1) rfl ?hysc1 ?_
    case hysc1 => (intro w hSw; (try dsimp only at hSw); go_simp <;> with_reducible rfl)
    simp only [Act.put, ps1, ps2, ps3]
    refine ty (i := 2) (v := ?vsc2) rfl ?hysc2 ?_
    case hysc2 => (intro w hSw; (try dsimp only at hSw); go_simp <;> with_reducible rfl)
    simp only [Act.put, ps1, ps2, ps3]
    refine ty (i := 3) (v := ?vsc3) rfl ?hysc3 ?_
    case hysc3 => (intro w hSw; (try dsimp only at hSw); go_simp <;> with_reducible rfl)
    simp only [Act.put, ps1, ps2, ps3]
    refine ty (i := 4) (v := ?vsc4) rfl ?hysc4 ?_
    case hysc4 => (intro w hSw; (try dsimp only at hSw); go_simp <;> with_reducible rfl)
    simp only [Act.put, ps1, ps2, ps3]
    refine ty (i := 5) (v := ?vsc5) rfl ?hysc5 ?_
    case hysc5 => (intro w hSw; (try dsimp only at hSw); go_simp <;> with_reducible rfl)
    simp only [Act.put, ps1, ps2, ps3]
    refine ty (i := 6) (v := ?vsc6) rfl ?hysc6 ?_
    case hysc6 => (intro w hSw; (try dsimp only at hSw); go_simp <;> with_reducible rfl)
    simp only [Act.put, ps1, ps2, ps3]
    refine ty (i := 7) (v := ?vsc7) rfl ?hysc7 ?_
    case hysc7 => (intro w hSw; (try dsimp only at hSw); go_simp <;> with_reducible rfl)
    simp only [Act.put, ps1, ps2, ps3]
    refine ty (i := 8) (v := ?vsc8) rfl ?hysc8 ?_
    case hysc8 => (intro w hSw; (try dsimp only at hSw); go_simp <;> with_reducible rfl)
    simp only [Act.put, ps1, ps2, ps3]
    refine ty (i := 9) (v := ?vsc9) rfl ?hysc9 ?_
    case hysc9 => (intro w hSw; (try dsimp only at hSw); go_simp <;> with_reducible rfl)
    simp only [Act.put, ps1, ps2, ps3]
    refine ty (i := 10) (v := ?vsc10) rfl ?hysc10 ?_
    case hysc10 => (intro w hSw; (try dsimp only at hSw); go_simp <;> with_reducible rfl)
    simp only [Act.put, ps1, ps2, ps3]
    refine ty (i := 11) (v := ?vsc11) rfl ?hysc11 ?_
    case hysc11 => (intro w hSw; (try dsimp only at hSw); go_simp <;> with_reducible rfl)
    simp only [Act.put, ps1, ps2, ps3]
    refine wpAnyH_done (by kernel_rfl) ?_ _
    go_wp2
    go_ret
    exact ⟨rfl, BB⟩
  rcases Decidable.em (y < 8192) with k3 | k3
  rotate_left
  · skip
    obtain rfl : r = false := by rw [HR.out]; simp; omega
    have k' : decide (y < 8192) = false := decide_eq_false k3
    obtain ⟨W, hW, bW, x_a, x_b, sW⟩ := bs_22 w (.int .i64 a1) (.int .i64 a2) (.int .i64 b1) (.int .i64 b2) 41 41
    have zbW := bW.size
    have BB := bW
    go_enter Tryz.func119, Tryz.ntmps119
    go_wp2
    rw [← hW]
    clear hW
    have dd1 : Below W.heap.size W W.drew := (Below.refl _ _).drew
    have zdd1 := dd1.size
    replace BB := also BB dd1
    replace x_a := x_a.on dd1
    replace x_b := x_b.on dd1
    refine wp_region_held_drew (S := (fun w' => w'.cell? ⟨w.heap.size, 0, none⟩ = some (.int .i64 a1) ∧ w'.cell? ⟨w.heap.size, 1, none⟩ = some (.int .i64 a2) ∧ w'.cell? ⟨w.heap.size + 1, 0, none⟩ = some (.int .i64 b1) ∧ w'.cell? ⟨w.heap.size + 1, 1, none⟩ = some (.int .i64 b2) ∧ Below w.heap.size w w')) (by kernel_rfl) ?_ (fun hHeld => ?_)
    · exact ⟨x_a.c0, x_a.c1, x_b.c0, x_b.c1, BB⟩
    refine ty (i := 0) (v := ?vsd0) rfl ?hysd0 ?_
    case hysd0 => (intro w hSw; (try dsimp only at hSw); go_simp <;> with_reducible rfl)
    simp only [Act.put, ps1, ps2, ps3]
    refine ty (i := 1) (v := ?vsd1) rfl ?hysd1 ?_
    case hysd1 => (intro w hSw; (try dsimp only at hSw); go_simp <;> with_reducible rfl)
    simp only [Act.put, ps1, ps2, ps3]
    refine ty (i := 2) (v := ?vsd2) rfl ?hysd2 ?_
    case hysd2 => (intro w hSw; (try dsimp only at hSw); go_simp <;> with_reducible rfl)
    simp only [Act.put, ps1, ps2, ps3]
    refine ty (i := 3) (v := ?vsd3) rfl ?hysd3 ?_
    case hysd3 => (intro w hSw; (try dsimp only at hSw); go_simp <;> with_reducible rfl)
    simp only [Act.put, ps1, ps2, ps3]
    refine ty (i := 4) (v := ?vsd4) rfl ?hysd4 ?_
    case hysd4 => (intro w hSw; (try dsimp only at hSw); go_simp <;> with_reducible rfl)
    simp only [Act.put, ps1, ps2, ps3]
    refine ty (i := 5) (v := ?vsd5) rfl ?hysd5 ?_
    case hysd5 => (intro w hSw; (try dsimp only at hSw); go_simp <;> with_reducible rfl)
    simp only [Act.put, ps1, ps2, ps3]
    refine ty (i := 6) (v := ?vsd6) rfl ?hysd6 ?_
    case hysd6 => (intro w hSw; (try dsimp only at hSw); go_simp <;> with_reducible rfl)
    simp only [Act.put, ps1, ps2, ps3]
    refine ty (i := 7) (v := ?vsd7) rfl ?hysd7 ?_
    case hysd7 => (intro w hSw; (try dsimp only at hSw); go_simp <;> with_reducible rfl)
    simp only [Act.put, ps1, ps2, ps3]
    refine ty (i := 8) (v := ?vsd8) rfl ?hysd8 ?_
    case hysd8 => (intro w hSw; (try dsimp only at hSw); go_simp <;> with_reducible rfl)
    simp only [Act.put, ps1, ps2, ps3]
    refine ty (i := 9) (v := ?vsd9) rfl ?hysd9 ?_
    case hysd9 => (intro w hSw; (try dsimp only at hSw); go_simp <;> with_reducible rfl)
    simp only [Act.put, ps1, ps2, ps3]
    refine ty (i := 10) (v := ?vsd10) rfl ?hysd10 ?_
    case hysd10 => (intro w hSw; (try dsimp only at hSw); go_simp <;> with_reducible rfl)
    simp only [Act.put, ps1, ps2, ps3]
    refine ty (i := 11) (v := ?vsd11) rfl ?hysd11 ?_
    case hysd11 => (intro w hSw; (try dsimp only at hSw); go_simp <;> with_reducible rfl)
    simp only [Act.put, ps1, ps2, ps3]
    refine wpAnyH_done (by kernel_rfl) ?_ _
    go_wp2
    go_ret
    exact ⟨rfl, BB⟩
  obtain rfl : r = true := by rw [HR.out]; simp; omega
  obtain ⟨W, hW, bW, x_a, x_b, sW⟩ := bs_22 w (.int .i64 a1) (.int .i64 a2) (.int .i64 b1) (.int .i64 b2) 41 41
  have zbW := bW.size
  have BB := bW
  go_enter Tryz.func119, Tryz.ntmps119
  go_wp2
  rw [← hW]
  clear hW
  have dd1 : Below W.heap.size W W.drew := (Below.refl _ _).drew
  have zdd1 := dd1.size
  replace BB := also BB dd1
  replace x_a := x_a.on dd1
  replace x_b := x_b.on dd1
  refine wp_region_held_drew (S := (fun w' => w'.cell? ⟨w.heap.size, 0, none⟩ = some (.int .i64 a1) ∧ w'.cell? ⟨w.heap.size, 1, none⟩ = some (.int .i64 a2) ∧ w'.cell? ⟨w.heap.size + 1, 0, none⟩ = some (.int .i64 b1) ∧ w'.cell? ⟨w.heap.size + 1, 1, none⟩ = some (.int .i64 b2) ∧ Below w.heap.size w w')) (by kernel_rfl) ?_ (fun hHeld => ?_)
  · exact ⟨x_a.c0, x_a.c1, x_b.c0, x_b.c1, BB⟩
  refine ty (i := 0) (v := ?vse0) rfl ?hyse0 ?_
  case hyse0 => (intro w hSw; (try dsimp only at hSw); go_simp <;> with_reducible rfl)
  simp only [Act.put, ps1, ps2, ps3]
  refine ty (i := 1) (v := ?vse1) rfl ?hyse1 ?_
  case hyse1 => (intro w hSw; (try dsimp only at hSw); go_simp <;> with_reducible rfl)
  simp only [Act.put, ps1, ps2, ps3]
  refine ty (i := 2) (v := ?vse2) rfl ?hyse2 ?_
  case hyse2 => (intro w hSw; (try dsimp only at hSw); go_simp <;> with_reducible rfl)
  simp only [Act.put, ps1, ps2, ps3]
  refine ty (i := 3) (v := ?vse3) rfl ?hyse3 ?_
  case hyse3 => (intro w hSw; (try dsimp only at hSw); go_simp <;> with_reducible rfl)
  simp only [Act.put, ps1, ps2, ps3]
  refine ty (i := 4) (v := ?vse4) rfl ?hyse4 ?_
  case hyse4 => (intro w hSw; (try dsimp only at hSw); go_simp <;> with_reducible rfl)
  simp only [Act.put, ps1, ps2, ps3]
  refine ty (i := 5) (v := ?vse5) rfl ?hyse5 ?_
  case hyse5 => (intro w hSw; (try dsimp only at hSw); go_simp <;> with_reducible rfl)
  simp only [Act.put, ps1, ps2, ps3]
  refine ty (i := 6) (v := ?vse6) rfl ?hyse6 ?_
  case hyse6 => (intro w hSw; (try dsimp only at hSw); go_simp <;> with_reducible rfl)
  simp only [Act.put, ps1, ps2, ps3]
  refine ty (i := 7) (v := ?vse7) rfl ?hyse7 ?_
  case hyse7 => (intro w hSw; (try dsimp only at hSw); go_simp <;> with_reducible rfl)
  simp only [Act.put, ps1, ps2, ps3]
  refine ty (i := 8) (v := ?vse8) rfl ?hyse8 ?_
  case hyse8 => (intro w hSw; (try dsimp only at hSw); go_simp <;> with_reducible rfl)
  simp only [Act.put, ps1, ps2, ps3]
  refine ty (i := 9) (v := ?vse9) rfl ?hyse9 ?_
  case hyse9 => (intro w hSw; (try dsimp only at hSw); go_simp <;> with_reducible rfl)
  simp only [Act.put, ps1, ps2, ps3]
  refine ty (i := 10) (v := ?vse10) rfl ?hyse10 ?_
  case hyse10 => (intro w hSw; (try dsimp only at hSw); go_simp <;> with_reducible rfl)
  simp only [Act.put, ps1, ps2, ps3]
  refine ty (i := 11) (v := ?vse11) rfl ?hyse11 ?_
  case hyse11 => (intro w hSw; (try dsimp only at hSw); go_simp <;> with_reducible rfl)
  simp only [Act.put, ps1, ps2, ps3]
  refine wpAnyH_done (by kernel_rfl) ?_ _
  go_wp2
  go_ret
  exact ⟨rfl, BB⟩
set_option maxRecDepth 100000 in
set_option maxHeartbeats 4000000 in
theorem rpOrient (a1 a2 b1 b2 c1 c2 : Int) (w : World) (ha : canC a1 a2 = true) (hb : canC b1 b2 = true) (hc : canC c1 c2 = true) {g : Int} (hg : g = (areaP a1 a2 b1 b2 c1 c2).sign) :
    Calls Tryz.prog 97 #[.agg #[.int .i64 a1, .int .i64 a2], .agg #[.int .i64 b1, .int .i64 b2], .agg #[.int .i64 c1, .int .i64 c2]] w fun e w' => e = .returned (.int .i64 g) ∧ Below w.heap.size w w' := by
  cases n1 : nearP a1 a2 b1 b2
  · skip
    have HG : Hid _ := hg
    clear hg
    obtain ⟨W, hW, bW, x_a, x_b, x_c, sW⟩ := bs_222 w (.int .i64 a1) (.int .i64 a2) (.int .i64 b1) (.int .i64 b2) (.int .i64 c1) (.int .i64 c2) 41 41 41
    have zbW := bW.size
    have BB := bW
    go_enter Tryz.func97, Tryz.ntmps97
    go_wp2_with (go_at_call 119; fail)
    rw [← hW]
    clear hW
    refine (rpNear a1 a2 b1 b2 W ha hb n1.symm).mono ?_
    rintro e w1 ⟨rfl, bw1⟩
    have zbw1 := bw1.size
    replace BB := also BB bw1
    replace x_a := x_a.on bw1
    replace x_b := x_b.on bw1
    replace x_c := x_c.on bw1
    have ⟨x_a_0, x_a_1, x_a_2, x_a_3⟩ := x_a
    have ⟨x_b_0, x_b_1, x_b_2, x_b_3⟩ := x_b
    have ⟨x_c_0, x_c_1, x_c_2, x_c_3⟩ := x_c
    go_wp2_with (go_at_call 39; fail)
    refine (rpArea a1 a2 b1 b2 c1 c2 w1 ha hb hc rfl).mono ?_
    rintro e w3 ⟨s11, d11, l11, c11, rfl, r11, f11, bw3⟩
    clear x_a_0 x_a_1 x_a_2 x_a_3 x_b_0 x_b_1 x_b_2 x_b_3 x_c_0 x_c_1 x_c_2 x_c_3
    have zbw3 := bw3.size
    replace BB := also BB bw3
    replace x_a := x_a.on bw3
    replace x_b := x_b.on bw3
    replace x_c := x_c.on bw3
    have hfS := fieldS s11 d11 l11 c11 w3
    go_wp2
    go_ret
    exact ⟨by rw [HG.out, ← r11.sg]; rfl, BB⟩
  · skip
    cases n2 : nearP a1 a2 c1 c2
    · skip
      have HG : Hid _ := hg
      clear hg
      obtain ⟨W, hW, bW, x_a, x_b, x_c, sW⟩ := bs_222 w (.int .i64 a1) (.int .i64 a2) (.int .i64 b1) (.int .i64 b2) (.int .i64 c1) (.int .i64 c2) 41 41 41
      have zbW := bW.size
      have BB := bW
      go_enter Tryz.func97, Tryz.ntmps97
      go_wp2_with (go_at_call 119; fail)
      rw [← hW]
      clear hW
      refine (rpNear a1 a2 b1 b2 W ha hb n1.symm).mono ?_
      rintro e w1 ⟨rfl, bw1⟩
      have zbw1 := bw1.size
      replace BB := also BB bw1
      replace x_a := x_a.on bw1
      replace x_b := x_b.on bw1
      replace x_c := x_c.on bw1
      have ⟨x_a_0, x_a_1, x_a_2, x_a_3⟩ := x_a
      have ⟨x_b_0, x_b_1, x_b_2, x_b_3⟩ := x_b
      have ⟨x_c_0, x_c_1, x_c_2, x_c_3⟩ := x_c
      go_wp2_with (go_at_call 119; fail)
      refine (rpNear a1 a2 c1 c2 w1 ha hc n2.symm).mono ?_
      rintro e w2 ⟨rfl, bw2⟩
      clear x_a_0 x_a_1 x_a_2 x_a_3 x_b_0 x_b_1 x_b_2 x_b_3 x_c_0 x_c_1 x_c_2 x_c_3
      have zbw2 := bw2.size
      replace BB := also BB bw2
      replace x_a := x_a.on bw2
      replace x_b := x_b.on bw2
      replace x_c := x_c.on bw2
      have ⟨x_a_0, x_a_1, x_a_2, x_a_3⟩ := x_a
      have ⟨x_b_0, x_b_1, x_b_2, x_b_3⟩ := x_b
      have ⟨x_c_0, x_c_1, x_c_2, x_c_3⟩ := x_c
      go_wp2_with (go_at_call 39; fail)
      refine (rpArea a1 a2 b1 b2 c1 c2 w2 ha hb hc rfl).mono ?_
      rintro e w3 ⟨s11, d11, l11, c11, rfl, r11, f11, bw3⟩
      clear x_a_0 x_a_1 x_a_2 x_a_3 x_b_0 x_b_1 x_b_2 x_b_3 x_c_0 x_c_1 x_c_2 x_c_3
      have zbw3 := bw3.size
      replace BB := also BB bw3
      replace x_a := x_a.on bw3
      replace x_b := x_b.on bw3
      replace x_c := x_c.on bw3
      have hfS := fieldS s11 d11 l11 c11 w3
      go_wp2
      go_ret
      exact ⟨by rw [HG.out, ← r11.sg]; rfl, BB⟩
    · skip
      obtain ⟨qx, qu⟩ := near_abs n1
      obtain ⟨qv, qy⟩ := near_abs n2
      obtain ⟨x, hx⟩ : ∃ z : Int, z = b1 - a1 := ⟨_, rfl⟩
      rw [← hx] at qx
      have wx : wrap64 (b1 - a1) = x := by rw [← hx]; exact wrap_in (by omega) (by omega)
      obtain ⟨y, hy⟩ : ∃ z : Int, z = c2 - a2 := ⟨_, rfl⟩
      rw [← hy] at qy
      have wy : wrap64 (c2 - a2) = y := by rw [← hy]; exact wrap_in (by omega) (by omega)
      obtain ⟨u, hu⟩ : ∃ z : Int, z = b2 - a2 := ⟨_, rfl⟩
      rw [← hu] at qu
      have wu : wrap64 (b2 - a2) = u := by rw [← hu]; exact wrap_in (by omega) (by omega)
      obtain ⟨v, hv⟩ : ∃ z : Int, z = c1 - a1 := ⟨_, rfl⟩
      rw [← hv] at qv
      have wv : wrap64 (c1 - a1) = v := by rw [← hv]; exact wrap_in (by omega) (by omega)
      obtain ⟨p, hp⟩ : ∃ z : Int, z = x * y := ⟨_, rfl⟩
      have qp : p.natAbs ≤ 67092481 := by rw [hp]; exact prod_abs qx qy
      have wp : wrap64 (x * y) = p := by rw [← hp]; exact wrap_in (by omega) (by omega)
      obtain ⟨q, hq⟩ : ∃ z : Int, z = u * v := ⟨_, rfl⟩
      have qq : q.natAbs ≤ 67092481 := by rw [hq]; exact prod_abs qu qv
      have wq : wrap64 (u * v) = q := by rw [← hq]; exact wrap_in (by omega) (by omega)
      obtain ⟨z, hz⟩ : ∃ z : Int, z = p - q := ⟨_, rfl⟩
      have qz : z.natAbs ≤ 134184962 := by rw [hz]; omega
      have wz : wrap64 (p - q) = z := by rw [← hz]; exact wrap_in (by omega) (by omega)
      have HG : Hid (g = z.sign) := by unfold Hid; rw [hg, hz, hp, hq, hx, hy, hu, hv]; rfl
      clear hg hz hp hq hx hy hu hv qx qy qu qv qp qq qz
      obtain ⟨W, hW, bW, x_a, x_b, x_c, sW⟩ := bs_222 w (.int .i64 a1) (.int .i64 a2) (.int .i64 b1) (.int .i64 b2) (.int .i64 c1) (.int .i64 c2) 41 41 41
      have zbW := bW.size
      have BB := bW
      go_enter Tryz.func97, Tryz.ntmps97
      go_wp2_with (go_at_call 119; fail)
      rw [← hW]
      clear hW
      refine (rpNear a1 a2 b1 b2 W ha hb n1.symm).mono ?_
      rintro e w1 ⟨rfl, bw1⟩
      have zbw1 := bw1.size
      replace BB := also BB bw1
      replace x_a := x_a.on bw1
      replace x_b := x_b.on bw1
      replace x_c := x_c.on bw1
      have ⟨x_a_0, x_a_1, x_a_2, x_a_3⟩ := x_a
      have ⟨x_b_0, x_b_1, x_b_2, x_b_3⟩ := x_b
      have ⟨x_c_0, x_c_1, x_c_2, x_c_3⟩ := x_c
      go_wp2_with (go_at_call 119; fail)
      refine (rpNear a1 a2 c1 c2 w1 ha hc n2.symm).mono ?_
      rintro e w2 ⟨rfl, bw2⟩
      clear x_a_0 x_a_1 x_a_2 x_a_3 x_b_0 x_b_1 x_b_2 x_b_3 x_c_0 x_c_1 x_c_2 x_c_3
      have zbw2 := bw2.size
      replace BB := also BB bw2
      replace x_a := x_a.on bw2
      replace x_b := x_b.on bw2
      replace x_c := x_c.on bw2
      have ⟨x_a_0, x_a_1, x_a_2, x_a_3⟩ := x_a
      have ⟨x_b_0, x_b_1, x_b_2, x_b_3⟩ := x_b
      have ⟨x_c_0, x_c_1, x_c_2, x_c_3⟩ := x_c
      go_wp2_with (go_at_call 120; fail)
      refine (rpSign z w2 HG.out).mono ?_
      rintro e w3 ⟨rfl, bw3⟩
      clear x_a_0 x_a_1 x_a_2 x_a_3 x_b_0 x_b_1 x_b_2 x_b_3 x_c_0 x_c_1 x_c_2 x_c_3
      have zbw3 := bw3.size
      replace BB := also BB bw3
      replace x_a := x_a.on bw3
      replace x_b := x_b.on bw3
      replace x_c := x_c.on bw3
      go_wp2
      go_ret
      exact ⟨rfl, BB⟩
end Go.Proofs.YtjdeehffbgpenaaGreat

namespace Go.Proofs.YtjdeehffbgpenaaGreat
open Go.RowKit
set_option linter.unusedVariables false

theorem isV_no {S : Ms} {v : Int} (h : isV S v = false) : fAt Vt.no v S.V 0 < 0 := by have := of_decide_eq_false h; omega
theorem isV_yes {S : Ms} {v : Int} (h : isV S v = true) : 0 ≤ fAt Vt.no v S.V 0 := of_decide_eq_true h
theorem plOk_can {S : Ms} {t : Tr} {i : Nat} (h : plOk S t i = true) : canC (plX S t i) (plY S t i) = true := by
  unfold plX plY
  rw [h]
  unfold plOk atC at h
  simp only [Bool.and_eq_true] at h
  unfold canC
  simp only [if_true, Bool.and_eq_true]
  exact h.2.2

set_option maxRecDepth 100000 in
set_option maxHeartbeats 2000000 in
theorem addF1_0 (p : Nat) (S : Ms) (t : Tr) (w : World) (h : MeLook p S w) (hV : S.V.length ≤ 1000) (hn : In64 S.n) (hvs : ∀ v ∈ S.V, Vt64 v) (ht : Tr64 t) (h0 : isV S t.v0 = false) :
    Calls Tryz.prog 58 #[ptR p, trV t] w fun e w' => e = .returned (.tuple #[.int .i64 (-1), .int .i64 1]) ∧ Below w.heap.size w w' := by
  obtain ⟨W, hW⟩ : ∃ W, W = w.alloc (.cells (trC t).toArray 51) := ⟨_, rfl⟩
  have BW : Below w.heap.size w W := by rw [hW]; exact (Below.refl _ _).alloc (Nat.le_refl _) _
  have zW : W.heap.size = w.heap.size + 1 := by rw [hW]; simp
  have R0 : Row W w.heap.size (trC t) := by rw [hW]; exact Row.new w (trC t) _
  have hW' : w.alloc (.cells #[.int .i64 t.v0, .int .i64 t.v1, .int .i64 t.v2, .int .i64 t.x0, .int .i64 t.y0, .int .i64 t.x1, .int .i64 t.y1, .int .i64 t.x2, .int .i64 t.y2] 51) = W := hW.symm
  have L0 : Hid _ := h.below BW
  have c0 := R0.cell 0 _ rfl
  have c1 := R0.cell 1 _ rfl
  have c2 := R0.cell 2 _ rfl
  have c3 := R0.cell 3 _ rfl
  have c4 := R0.cell 4 _ rfl
  have c5 := R0.cell 5 _ rfl
  have c6 := R0.cell 6 _ rfl
  have c7 := R0.cell 7 _ rfl
  have c8 := R0.cell 8 _ rfl
  clear h hW
  have k0 := isV_no h0
  go_enter Tryz.func58, Tryz.ntmps58
  go_wp2_with (go_at_call 18; fail)
  refine (mrVertAt p S t.v0 W L0.out hV rfl).mono ?_
  rintro e w1 ⟨rfl, b1⟩
  have L1 : Hid _ := L0.out.below b1
  have R1 := R0.below b1 (by omega)
  have z1 := b1.size
  have c10 := R1.cell 0 _ rfl
  have c11 := R1.cell 1 _ rfl
  have c12 := R1.cell 2 _ rfl
  have c13 := R1.cell 3 _ rfl
  have c14 := R1.cell 4 _ rfl
  have c15 := R1.cell 5 _ rfl
  have c16 := R1.cell 6 _ rfl
  have c17 := R1.cell 7 _ rfl
  have c18 := R1.cell 8 _ rfl
  go_wp2
  exact bodyPost_ret (v := .tuple #[.int .i64 (-1), .int .i64 1]) (by simp [results, Tryz.results58, go_sem]) rfl ⟨rfl, (BW.trans (b1.mono (by omega)))⟩
set_option maxRecDepth 100000 in
set_option maxHeartbeats 2000000 in
theorem addF1_1 (p : Nat) (S : Ms) (t : Tr) (w : World) (h : MeLook p S w) (hV : S.V.length ≤ 1000) (hn : In64 S.n) (hvs : ∀ v ∈ S.V, Vt64 v) (ht : Tr64 t) (h0 : isV S t.v0 = true) (h1 : isV S t.v1 = false) :
    Calls Tryz.prog 58 #[ptR p, trV t] w fun e w' => e = .returned (.tuple #[.int .i64 (-1), .int .i64 1]) ∧ Below w.heap.size w w' := by
  obtain ⟨W, hW⟩ : ∃ W, W = w.alloc (.cells (trC t).toArray 51) := ⟨_, rfl⟩
  have BW : Below w.heap.size w W := by rw [hW]; exact (Below.refl _ _).alloc (Nat.le_refl _) _
  have zW : W.heap.size = w.heap.size + 1 := by rw [hW]; simp
  have R0 : Row W w.heap.size (trC t) := by rw [hW]; exact Row.new w (trC t) _
  have hW' : w.alloc (.cells #[.int .i64 t.v0, .int .i64 t.v1, .int .i64 t.v2, .int .i64 t.x0, .int .i64 t.y0, .int .i64 t.x1, .int .i64 t.y1, .int .i64 t.x2, .int .i64 t.y2] 51) = W := hW.symm
  have L0 : Hid _ := h.below BW
  have c0 := R0.cell 0 _ rfl
  have c1 := R0.cell 1 _ rfl
  have c2 := R0.cell 2 _ rfl
  have c3 := R0.cell 3 _ rfl
  have c4 := R0.cell 4 _ rfl
  have c5 := R0.cell 5 _ rfl
  have c6 := R0.cell 6 _ rfl
  have c7 := R0.cell 7 _ rfl
  have c8 := R0.cell 8 _ rfl
  clear h hW
  have k0 := isV_yes h0
  have d0 : decide (fAt Vt.no t.v0 S.V 0 < 0) = false := decide_eq_false (by omega)
  have k1 := isV_no h1
  go_enter Tryz.func58, Tryz.ntmps58
  go_wp2_with (go_at_call 18; fail)
  refine (mrVertAt p S t.v0 W L0.out hV rfl).mono ?_
  rintro e w1 ⟨rfl, b1⟩
  have L1 : Hid _ := L0.out.below b1
  have R1 := R0.below b1 (by omega)
  have z1 := b1.size
  have c10 := R1.cell 0 _ rfl
  have c11 := R1.cell 1 _ rfl
  have c12 := R1.cell 2 _ rfl
  have c13 := R1.cell 3 _ rfl
  have c14 := R1.cell 4 _ rfl
  have c15 := R1.cell 5 _ rfl
  have c16 := R1.cell 6 _ rfl
  have c17 := R1.cell 7 _ rfl
  have c18 := R1.cell 8 _ rfl
  go_wp2_with (go_at_call 18; fail)
  refine (mrVertAt p S t.v1 w1 L1.out hV rfl).mono ?_
  rintro e w2 ⟨rfl, b2⟩
  have L2 : Hid _ := L1.out.below b2
  have R2 := R1.below b2 (by omega)
  have z2 := b2.size
  have c20 := R2.cell 0 _ rfl
  have c21 := R2.cell 1 _ rfl
  have c22 := R2.cell 2 _ rfl
  have c23 := R2.cell 3 _ rfl
  have c24 := R2.cell 4 _ rfl
  have c25 := R2.cell 5 _ rfl
  have c26 := R2.cell 6 _ rfl
  have c27 := R2.cell 7 _ rfl
  have c28 := R2.cell 8 _ rfl
  go_wp2
  exact bodyPost_ret (v := .tuple #[.int .i64 (-1), .int .i64 1]) (by simp [results, Tryz.results58, go_sem]) rfl ⟨rfl, ((BW.trans (b1.mono (by omega))).trans (b2.mono (by omega)))⟩
set_option maxRecDepth 100000 in
set_option maxHeartbeats 2000000 in
theorem addF1_2 (p : Nat) (S : Ms) (t : Tr) (w : World) (h : MeLook p S w) (hV : S.V.length ≤ 1000) (hn : In64 S.n) (hvs : ∀ v ∈ S.V, Vt64 v) (ht : Tr64 t) (h0 : isV S t.v0 = true) (h1 : isV S t.v1 = true) (h2 : isV S t.v2 = false) :
    Calls Tryz.prog 58 #[ptR p, trV t] w fun e w' => e = .returned (.tuple #[.int .i64 (-1), .int .i64 1]) ∧ Below w.heap.size w w' := by
  obtain ⟨W, hW⟩ : ∃ W, W = w.alloc (.cells (trC t).toArray 51) := ⟨_, rfl⟩
  have BW : Below w.heap.size w W := by rw [hW]; exact (Below.refl _ _).alloc (Nat.le_refl _) _
  have zW : W.heap.size = w.heap.size + 1 := by rw [hW]; simp
  have R0 : Row W w.heap.size (trC t) := by rw [hW]; exact Row.new w (trC t) _
  have hW' : w.alloc (.cells #[.int .i64 t.v0, .int .i64 t.v1, .int .i64 t.v2, .int .i64 t.x0, .int .i64 t.y0, .int .i64 t.x1, .int .i64 t.y1, .int .i64 t.x2, .int .i64 t.y2] 51) = W := hW.symm
  have L0 : Hid _ := h.below BW
  have c0 := R0.cell 0 _ rfl
  have c1 := R0.cell 1 _ rfl
  have c2 := R0.cell 2 _ rfl
  have c3 := R0.cell 3 _ rfl
  have c4 := R0.cell 4 _ rfl
  have c5 := R0.cell 5 _ rfl
  have c6 := R0.cell 6 _ rfl
  have c7 := R0.cell 7 _ rfl
  have c8 := R0.cell 8 _ rfl
  clear h hW
  have k0 := isV_yes h0
  have d0 : decide (fAt Vt.no t.v0 S.V 0 < 0) = false := decide_eq_false (by omega)
  have k1 := isV_yes h1
  have d1 : decide (fAt Vt.no t.v1 S.V 0 < 0) = false := decide_eq_false (by omega)
  have k2 := isV_no h2
  go_enter Tryz.func58, Tryz.ntmps58
  go_wp2_with (go_at_call 18; fail)
  refine (mrVertAt p S t.v0 W L0.out hV rfl).mono ?_
  rintro e w1 ⟨rfl, b1⟩
  have L1 : Hid _ := L0.out.below b1
  have R1 := R0.below b1 (by omega)
  have z1 := b1.size
  have c10 := R1.cell 0 _ rfl
  have c11 := R1.cell 1 _ rfl
  have c12 := R1.cell 2 _ rfl
  have c13 := R1.cell 3 _ rfl
  have c14 := R1.cell 4 _ rfl
  have c15 := R1.cell 5 _ rfl
  have c16 := R1.cell 6 _ rfl
  have c17 := R1.cell 7 _ rfl
  have c18 := R1.cell 8 _ rfl
  go_wp2_with (go_at_call 18; fail)
  refine (mrVertAt p S t.v1 w1 L1.out hV rfl).mono ?_
  rintro e w2 ⟨rfl, b2⟩
  have L2 : Hid _ := L1.out.below b2
  have R2 := R1.below b2 (by omega)
  have z2 := b2.size
  have c20 := R2.cell 0 _ rfl
  have c21 := R2.cell 1 _ rfl
  have c22 := R2.cell 2 _ rfl
  have c23 := R2.cell 3 _ rfl
  have c24 := R2.cell 4 _ rfl
  have c25 := R2.cell 5 _ rfl
  have c26 := R2.cell 6 _ rfl
  have c27 := R2.cell 7 _ rfl
  have c28 := R2.cell 8 _ rfl
  go_wp2_with (go_at_call 18; fail)
  refine (mrVertAt p S t.v2 w2 L2.out hV rfl).mono ?_
  rintro e w3 ⟨rfl, b3⟩
  have L3 : Hid _ := L2.out.below b3
  have R3 := R2.below b3 (by omega)
  have z3 := b3.size
  have c30 := R3.cell 0 _ rfl
  have c31 := R3.cell 1 _ rfl
  have c32 := R3.cell 2 _ rfl
  have c33 := R3.cell 3 _ rfl
  have c34 := R3.cell 4 _ rfl
  have c35 := R3.cell 5 _ rfl
  have c36 := R3.cell 6 _ rfl
  have c37 := R3.cell 7 _ rfl
  have c38 := R3.cell 8 _ rfl
  go_wp2
  exact bodyPost_ret (v := .tuple #[.int .i64 (-1), .int .i64 1]) (by simp [results, Tryz.results58, go_sem]) rfl ⟨rfl, (((BW.trans (b1.mono (by omega))).trans (b2.mono (by omega))).trans (b3.mono (by omega)))⟩
set_option maxRecDepth 100000 in
set_option maxHeartbeats 2000000 in
theorem addF6_0 (p : Nat) (S : Ms) (t : Tr) (w : World) (h : MeLook p S w) (hV : S.V.length ≤ 1000) (hn : In64 S.n) (hvs : ∀ v ∈ S.V, Vt64 v) (ht : Tr64 t) (h0 : isV S t.v0 = true) (h1 : isV S t.v1 = true) (h2 : isV S t.v2 = true) (o0 : plOk S t 0 = false) :
    Calls Tryz.prog 58 #[ptR p, trV t] w fun e w' => e = .returned (.tuple #[.int .i64 (-1), .int .i64 6]) ∧ Below w.heap.size w w' := by
  obtain ⟨W, hW⟩ : ∃ W, W = w.alloc (.cells (trC t).toArray 51) := ⟨_, rfl⟩
  have BW : Below w.heap.size w W := by rw [hW]; exact (Below.refl _ _).alloc (Nat.le_refl _) _
  have zW : W.heap.size = w.heap.size + 1 := by rw [hW]; simp
  have R0 : Row W w.heap.size (trC t) := by rw [hW]; exact Row.new w (trC t) _
  have hW' : w.alloc (.cells #[.int .i64 t.v0, .int .i64 t.v1, .int .i64 t.v2, .int .i64 t.x0, .int .i64 t.y0, .int .i64 t.x1, .int .i64 t.y1, .int .i64 t.x2, .int .i64 t.y2] 51) = W := hW.symm
  have L0 : Hid _ := h.below BW
  have c0 := R0.cell 0 _ rfl
  have c1 := R0.cell 1 _ rfl
  have c2 := R0.cell 2 _ rfl
  have c3 := R0.cell 3 _ rfl
  have c4 := R0.cell 4 _ rfl
  have c5 := R0.cell 5 _ rfl
  have c6 := R0.cell 6 _ rfl
  have c7 := R0.cell 7 _ rfl
  have c8 := R0.cell 8 _ rfl
  clear h hW
  have k0 := isV_yes h0
  have d0 : decide (fAt Vt.no t.v0 S.V 0 < 0) = false := decide_eq_false (by omega)
  obtain ⟨ok0, hok0, Hok0⟩ : ∃ ok, ok = false ∧ Hid (ok = plOk S t 0) := ⟨_, rfl, o0.symm⟩
  obtain ⟨X0, HX0⟩ : ∃ X, Hid (X = plX S t 0) := ⟨_, rfl⟩
  obtain ⟨Y0, HY0⟩ : ∃ X, Hid (X = plY S t 0) := ⟨_, rfl⟩
  have k1 := isV_yes h1
  have d1 : decide (fAt Vt.no t.v1 S.V 0 < 0) = false := decide_eq_false (by omega)
  obtain ⟨ok1, Hok1⟩ : ∃ ok, Hid (ok = plOk S t 1) := ⟨_, rfl⟩
  obtain ⟨X1, HX1⟩ : ∃ X, Hid (X = plX S t 1) := ⟨_, rfl⟩
  obtain ⟨Y1, HY1⟩ : ∃ X, Hid (X = plY S t 1) := ⟨_, rfl⟩
  have k2 := isV_yes h2
  have d2 : decide (fAt Vt.no t.v2 S.V 0 < 0) = false := decide_eq_false (by omega)
  obtain ⟨ok2, Hok2⟩ : ∃ ok, Hid (ok = plOk S t 2) := ⟨_, rfl⟩
  obtain ⟨X2, HX2⟩ : ∃ X, Hid (X = plX S t 2) := ⟨_, rfl⟩
  obtain ⟨Y2, HY2⟩ : ∃ X, Hid (X = plY S t 2) := ⟨_, rfl⟩
  go_enter Tryz.func58, Tryz.ntmps58
  go_wp2_with (go_at_call 18; fail)
  refine (mrVertAt p S t.v0 W L0.out hV rfl).mono ?_
  rintro e w1 ⟨rfl, b1⟩
  have L1 : Hid _ := L0.out.below b1
  have R1 := R0.below b1 (by omega)
  have z1 := b1.size
  have c10 := R1.cell 0 _ rfl
  have c11 := R1.cell 1 _ rfl
  have c12 := R1.cell 2 _ rfl
  have c13 := R1.cell 3 _ rfl
  have c14 := R1.cell 4 _ rfl
  have c15 := R1.cell 5 _ rfl
  have c16 := R1.cell 6 _ rfl
  have c17 := R1.cell 7 _ rfl
  have c18 := R1.cell 8 _ rfl
  go_wp2_with (go_at_call 18; fail)
  refine (mrVertAt p S t.v1 w1 L1.out hV rfl).mono ?_
  rintro e w2 ⟨rfl, b2⟩
  have L2 : Hid _ := L1.out.below b2
  have R2 := R1.below b2 (by omega)
  have z2 := b2.size
  have c20 := R2.cell 0 _ rfl
  have c21 := R2.cell 1 _ rfl
  have c22 := R2.cell 2 _ rfl
  have c23 := R2.cell 3 _ rfl
  have c24 := R2.cell 4 _ rfl
  have c25 := R2.cell 5 _ rfl
  have c26 := R2.cell 6 _ rfl
  have c27 := R2.cell 7 _ rfl
  have c28 := R2.cell 8 _ rfl
  go_wp2_with (go_at_call 18; fail)
  refine (mrVertAt p S t.v2 w2 L2.out hV rfl).mono ?_
  rintro e w3 ⟨rfl, b3⟩
  have L3 : Hid _ := L2.out.below b3
  have R3 := R2.below b3 (by omega)
  have z3 := b3.size
  have c30 := R3.cell 0 _ rfl
  have c31 := R3.cell 1 _ rfl
  have c32 := R3.cell 2 _ rfl
  have c33 := R3.cell 3 _ rfl
  have c34 := R3.cell 4 _ rfl
  have c35 := R3.cell 5 _ rfl
  have c36 := R3.cell 6 _ rfl
  have c37 := R3.cell 7 _ rfl
  have c38 := R3.cell 8 _ rfl
  go_wp2_with (go_at_call 23; fail)
  refine (mrPlace p S t 0 w3 (by decide) L3.out hV hn hvs ht h0 (ok := ok0) (X := X0) (Y := Y0) Hok0.out HX0.out HY0.out).mono ?_
  rintro e w4 ⟨rfl, b4⟩
  obtain ⟨u4, hu4⟩ : ∃ u, u = w4.alloc (.cells ([.int .i64 X0, .int .i64 Y0] : List Value).toArray 41) := ⟨_, rfl⟩
  have d4 : Below w4.heap.size w4 u4 := by rw [hu4]; exact (Below.refl _ _).alloc (Nat.le_refl _) _
  have z4 := b4.size
  have y4 : u4.heap.size = w4.heap.size + 1 := by rw [hu4]; simp
  have P0 : Row u4 w4.heap.size [.int .i64 X0, .int .i64 Y0] := by rw [hu4]; exact Row.new w4 _ _
  have hv4 : w4.alloc (.cells #[.int .i64 X0, .int .i64 Y0] 41) = u4 := hu4.symm
  have L4 : Hid _ := (L3.out.below b4).below d4
  have R4 := (R3.below b4 (by omega)).below d4 (by omega)
  have c40 := R4.cell 0 _ rfl
  have c41 := R4.cell 1 _ rfl
  have c42 := R4.cell 2 _ rfl
  have c43 := R4.cell 3 _ rfl
  have c44 := R4.cell 4 _ rfl
  have c45 := R4.cell 5 _ rfl
  have c46 := R4.cell 6 _ rfl
  have c47 := R4.cell 7 _ rfl
  have c48 := R4.cell 8 _ rfl
  have p400 := P0.cell 0 _ rfl
  have p401 := P0.cell 1 _ rfl
  clear hu4
  go_wp2_with (go_at_call 23; fail)
  refine (mrPlace p S t 1 u4 (by decide) L4.out hV hn hvs ht h1 (ok := ok1) (X := X1) (Y := Y1) Hok1.out HX1.out HY1.out).mono ?_
  rintro e w5 ⟨rfl, b5⟩
  obtain ⟨u5, hu5⟩ : ∃ u, u = w5.alloc (.cells ([.int .i64 X1, .int .i64 Y1] : List Value).toArray 41) := ⟨_, rfl⟩
  have d5 : Below w5.heap.size w5 u5 := by rw [hu5]; exact (Below.refl _ _).alloc (Nat.le_refl _) _
  have z5 := b5.size
  have y5 : u5.heap.size = w5.heap.size + 1 := by rw [hu5]; simp
  have P1 : Row u5 w5.heap.size [.int .i64 X1, .int .i64 Y1] := by rw [hu5]; exact Row.new w5 _ _
  have hv5 : w5.alloc (.cells #[.int .i64 X1, .int .i64 Y1] 41) = u5 := hu5.symm
  have L5 : Hid _ := (L4.out.below b5).below d5
  have R5 := (R4.below b5 (by omega)).below d5 (by omega)
  have P0 := (P0.below b5 (by omega)).below d5 (by omega)
  have c50 := R5.cell 0 _ rfl
  have c51 := R5.cell 1 _ rfl
  have c52 := R5.cell 2 _ rfl
  have c53 := R5.cell 3 _ rfl
  have c54 := R5.cell 4 _ rfl
  have c55 := R5.cell 5 _ rfl
  have c56 := R5.cell 6 _ rfl
  have c57 := R5.cell 7 _ rfl
  have c58 := R5.cell 8 _ rfl
  have p500 := P0.cell 0 _ rfl
  have p501 := P0.cell 1 _ rfl
  have p510 := P1.cell 0 _ rfl
  have p511 := P1.cell 1 _ rfl
  clear hu5
  go_wp2_with (go_at_call 23; fail)
  refine (mrPlace p S t 2 u5 (by decide) L5.out hV hn hvs ht h2 (ok := ok2) (X := X2) (Y := Y2) Hok2.out HX2.out HY2.out).mono ?_
  rintro e w6 ⟨rfl, b6⟩
  obtain ⟨u6, hu6⟩ : ∃ u, u = w6.alloc (.cells ([.int .i64 X2, .int .i64 Y2] : List Value).toArray 41) := ⟨_, rfl⟩
  have d6 : Below w6.heap.size w6 u6 := by rw [hu6]; exact (Below.refl _ _).alloc (Nat.le_refl _) _
  have z6 := b6.size
  have y6 : u6.heap.size = w6.heap.size + 1 := by rw [hu6]; simp
  have P2 : Row u6 w6.heap.size [.int .i64 X2, .int .i64 Y2] := by rw [hu6]; exact Row.new w6 _ _
  have hv6 : w6.alloc (.cells #[.int .i64 X2, .int .i64 Y2] 41) = u6 := hu6.symm
  have L6 : Hid _ := (L5.out.below b6).below d6
  have R6 := (R5.below b6 (by omega)).below d6 (by omega)
  have P0 := (P0.below b6 (by omega)).below d6 (by omega)
  have P1 := (P1.below b6 (by omega)).below d6 (by omega)
  have c60 := R6.cell 0 _ rfl
  have c61 := R6.cell 1 _ rfl
  have c62 := R6.cell 2 _ rfl
  have c63 := R6.cell 3 _ rfl
  have c64 := R6.cell 4 _ rfl
  have c65 := R6.cell 5 _ rfl
  have c66 := R6.cell 6 _ rfl
  have c67 := R6.cell 7 _ rfl
  have c68 := R6.cell 8 _ rfl
  have p600 := P0.cell 0 _ rfl
  have p601 := P0.cell 1 _ rfl
  have p610 := P1.cell 0 _ rfl
  have p611 := P1.cell 1 _ rfl
  have p620 := P2.cell 0 _ rfl
  have p621 := P2.cell 1 _ rfl
  clear hu6
  subst hok0
  go_wp2
  exact bodyPost_ret (v := .tuple #[.int .i64 (-1), .int .i64 6]) (by simp [results, Tryz.results58, go_sem]) rfl ⟨rfl, (((((((((BW.trans (b1.mono (by omega))).trans (b2.mono (by omega))).trans (b3.mono (by omega))).trans (b4.mono (by omega))).trans (d4.mono (by omega))).trans (b5.mono (by omega))).trans (d5.mono (by omega))).trans (b6.mono (by omega))).trans (d6.mono (by omega)))⟩
set_option maxRecDepth 100000 in
set_option maxHeartbeats 2000000 in
theorem addF6_1 (p : Nat) (S : Ms) (t : Tr) (w : World) (h : MeLook p S w) (hV : S.V.length ≤ 1000) (hn : In64 S.n) (hvs : ∀ v ∈ S.V, Vt64 v) (ht : Tr64 t) (h0 : isV S t.v0 = true) (h1 : isV S t.v1 = true) (h2 : isV S t.v2 = true) (o0 : plOk S t 0 = true) (o1 : plOk S t 1 = false) :
    Calls Tryz.prog 58 #[ptR p, trV t] w fun e w' => e = .returned (.tuple #[.int .i64 (-1), .int .i64 6]) ∧ Below w.heap.size w w' := by
  obtain ⟨W, hW⟩ : ∃ W, W = w.alloc (.cells (trC t).toArray 51) := ⟨_, rfl⟩
  have BW : Below w.heap.size w W := by rw [hW]; exact (Below.refl _ _).alloc (Nat.le_refl _) _
  have zW : W.heap.size = w.heap.size + 1 := by rw [hW]; simp
  have R0 : Row W w.heap.size (trC t) := by rw [hW]; exact Row.new w (trC t) _
  have hW' : w.alloc (.cells #[.int .i64 t.v0, .int .i64 t.v1, .int .i64 t.v2, .int .i64 t.x0, .int .i64 t.y0, .int .i64 t.x1, .int .i64 t.y1, .int .i64 t.x2, .int .i64 t.y2] 51) = W := hW.symm
  have L0 : Hid _ := h.below BW
  have c0 := R0.cell 0 _ rfl
  have c1 := R0.cell 1 _ rfl
  have c2 := R0.cell 2 _ rfl
  have c3 := R0.cell 3 _ rfl
  have c4 := R0.cell 4 _ rfl
  have c5 := R0.cell 5 _ rfl
  have c6 := R0.cell 6 _ rfl
  have c7 := R0.cell 7 _ rfl
  have c8 := R0.cell 8 _ rfl
  clear h hW
  have k0 := isV_yes h0
  have d0 : decide (fAt Vt.no t.v0 S.V 0 < 0) = false := decide_eq_false (by omega)
  obtain ⟨ok0, hok0, Hok0⟩ : ∃ ok, ok = true ∧ Hid (ok = plOk S t 0) := ⟨_, rfl, o0.symm⟩
  obtain ⟨X0, HX0⟩ : ∃ X, Hid (X = plX S t 0) := ⟨_, rfl⟩
  obtain ⟨Y0, HY0⟩ : ∃ X, Hid (X = plY S t 0) := ⟨_, rfl⟩
  have k1 := isV_yes h1
  have d1 : decide (fAt Vt.no t.v1 S.V 0 < 0) = false := decide_eq_false (by omega)
  obtain ⟨ok1, hok1, Hok1⟩ : ∃ ok, ok = false ∧ Hid (ok = plOk S t 1) := ⟨_, rfl, o1.symm⟩
  obtain ⟨X1, HX1⟩ : ∃ X, Hid (X = plX S t 1) := ⟨_, rfl⟩
  obtain ⟨Y1, HY1⟩ : ∃ X, Hid (X = plY S t 1) := ⟨_, rfl⟩
  have k2 := isV_yes h2
  have d2 : decide (fAt Vt.no t.v2 S.V 0 < 0) = false := decide_eq_false (by omega)
  obtain ⟨ok2, Hok2⟩ : ∃ ok, Hid (ok = plOk S t 2) := ⟨_, rfl⟩
  obtain ⟨X2, HX2⟩ : ∃ X, Hid (X = plX S t 2) := ⟨_, rfl⟩
  obtain ⟨Y2, HY2⟩ : ∃ X, Hid (X = plY S t 2) := ⟨_, rfl⟩
  go_enter Tryz.func58, Tryz.ntmps58
  go_wp2_with (go_at_call 18; fail)
  refine (mrVertAt p S t.v0 W L0.out hV rfl).mono ?_
  rintro e w1 ⟨rfl, b1⟩
  have L1 : Hid _ := L0.out.below b1
  have R1 := R0.below b1 (by omega)
  have z1 := b1.size
  have c10 := R1.cell 0 _ rfl
  have c11 := R1.cell 1 _ rfl
  have c12 := R1.cell 2 _ rfl
  have c13 := R1.cell 3 _ rfl
  have c14 := R1.cell 4 _ rfl
  have c15 := R1.cell 5 _ rfl
  have c16 := R1.cell 6 _ rfl
  have c17 := R1.cell 7 _ rfl
  have c18 := R1.cell 8 _ rfl
  go_wp2_with (go_at_call 18; fail)
  refine (mrVertAt p S t.v1 w1 L1.out hV rfl).mono ?_
  rintro e w2 ⟨rfl, b2⟩
  have L2 : Hid _ := L1.out.below b2
  have R2 := R1.below b2 (by omega)
  have z2 := b2.size
  have c20 := R2.cell 0 _ rfl
  have c21 := R2.cell 1 _ rfl
  have c22 := R2.cell 2 _ rfl
  have c23 := R2.cell 3 _ rfl
  have c24 := R2.cell 4 _ rfl
  have c25 := R2.cell 5 _ rfl
  have c26 := R2.cell 6 _ rfl
  have c27 := R2.cell 7 _ rfl
  have c28 := R2.cell 8 _ rfl
  go_wp2_with (go_at_call 18; fail)
  refine (mrVertAt p S t.v2 w2 L2.out hV rfl).mono ?_
  rintro e w3 ⟨rfl, b3⟩
  have L3 : Hid _ := L2.out.below b3
  have R3 := R2.below b3 (by omega)
  have z3 := b3.size
  have c30 := R3.cell 0 _ rfl
  have c31 := R3.cell 1 _ rfl
  have c32 := R3.cell 2 _ rfl
  have c33 := R3.cell 3 _ rfl
  have c34 := R3.cell 4 _ rfl
  have c35 := R3.cell 5 _ rfl
  have c36 := R3.cell 6 _ rfl
  have c37 := R3.cell 7 _ rfl
  have c38 := R3.cell 8 _ rfl
  go_wp2_with (go_at_call 23; fail)
  refine (mrPlace p S t 0 w3 (by decide) L3.out hV hn hvs ht h0 (ok := ok0) (X := X0) (Y := Y0) Hok0.out HX0.out HY0.out).mono ?_
  rintro e w4 ⟨rfl, b4⟩
  obtain ⟨u4, hu4⟩ : ∃ u, u = w4.alloc (.cells ([.int .i64 X0, .int .i64 Y0] : List Value).toArray 41) := ⟨_, rfl⟩
  have d4 : Below w4.heap.size w4 u4 := by rw [hu4]; exact (Below.refl _ _).alloc (Nat.le_refl _) _
  have z4 := b4.size
  have y4 : u4.heap.size = w4.heap.size + 1 := by rw [hu4]; simp
  have P0 : Row u4 w4.heap.size [.int .i64 X0, .int .i64 Y0] := by rw [hu4]; exact Row.new w4 _ _
  have hv4 : w4.alloc (.cells #[.int .i64 X0, .int .i64 Y0] 41) = u4 := hu4.symm
  have L4 : Hid _ := (L3.out.below b4).below d4
  have R4 := (R3.below b4 (by omega)).below d4 (by omega)
  have c40 := R4.cell 0 _ rfl
  have c41 := R4.cell 1 _ rfl
  have c42 := R4.cell 2 _ rfl
  have c43 := R4.cell 3 _ rfl
  have c44 := R4.cell 4 _ rfl
  have c45 := R4.cell 5 _ rfl
  have c46 := R4.cell 6 _ rfl
  have c47 := R4.cell 7 _ rfl
  have c48 := R4.cell 8 _ rfl
  have p400 := P0.cell 0 _ rfl
  have p401 := P0.cell 1 _ rfl
  clear hu4
  go_wp2_with (go_at_call 23; fail)
  refine (mrPlace p S t 1 u4 (by decide) L4.out hV hn hvs ht h1 (ok := ok1) (X := X1) (Y := Y1) Hok1.out HX1.out HY1.out).mono ?_
  rintro e w5 ⟨rfl, b5⟩
  obtain ⟨u5, hu5⟩ : ∃ u, u = w5.alloc (.cells ([.int .i64 X1, .int .i64 Y1] : List Value).toArray 41) := ⟨_, rfl⟩
  have d5 : Below w5.heap.size w5 u5 := by rw [hu5]; exact (Below.refl _ _).alloc (Nat.le_refl _) _
  have z5 := b5.size
  have y5 : u5.heap.size = w5.heap.size + 1 := by rw [hu5]; simp
  have P1 : Row u5 w5.heap.size [.int .i64 X1, .int .i64 Y1] := by rw [hu5]; exact Row.new w5 _ _
  have hv5 : w5.alloc (.cells #[.int .i64 X1, .int .i64 Y1] 41) = u5 := hu5.symm
  have L5 : Hid _ := (L4.out.below b5).below d5
  have R5 := (R4.below b5 (by omega)).below d5 (by omega)
  have P0 := (P0.below b5 (by omega)).below d5 (by omega)
  have c50 := R5.cell 0 _ rfl
  have c51 := R5.cell 1 _ rfl
  have c52 := R5.cell 2 _ rfl
  have c53 := R5.cell 3 _ rfl
  have c54 := R5.cell 4 _ rfl
  have c55 := R5.cell 5 _ rfl
  have c56 := R5.cell 6 _ rfl
  have c57 := R5.cell 7 _ rfl
  have c58 := R5.cell 8 _ rfl
  have p500 := P0.cell 0 _ rfl
  have p501 := P0.cell 1 _ rfl
  have p510 := P1.cell 0 _ rfl
  have p511 := P1.cell 1 _ rfl
  clear hu5
  go_wp2_with (go_at_call 23; fail)
  refine (mrPlace p S t 2 u5 (by decide) L5.out hV hn hvs ht h2 (ok := ok2) (X := X2) (Y := Y2) Hok2.out HX2.out HY2.out).mono ?_
  rintro e w6 ⟨rfl, b6⟩
  obtain ⟨u6, hu6⟩ : ∃ u, u = w6.alloc (.cells ([.int .i64 X2, .int .i64 Y2] : List Value).toArray 41) := ⟨_, rfl⟩
  have d6 : Below w6.heap.size w6 u6 := by rw [hu6]; exact (Below.refl _ _).alloc (Nat.le_refl _) _
  have z6 := b6.size
  have y6 : u6.heap.size = w6.heap.size + 1 := by rw [hu6]; simp
  have P2 : Row u6 w6.heap.size [.int .i64 X2, .int .i64 Y2] := by rw [hu6]; exact Row.new w6 _ _
  have hv6 : w6.alloc (.cells #[.int .i64 X2, .int .i64 Y2] 41) = u6 := hu6.symm
  have L6 : Hid _ := (L5.out.below b6).below d6
  have R6 := (R5.below b6 (by omega)).below d6 (by omega)
  have P0 := (P0.below b6 (by omega)).below d6 (by omega)
  have P1 := (P1.below b6 (by omega)).below d6 (by omega)
  have c60 := R6.cell 0 _ rfl
  have c61 := R6.cell 1 _ rfl
  have c62 := R6.cell 2 _ rfl
  have c63 := R6.cell 3 _ rfl
  have c64 := R6.cell 4 _ rfl
  have c65 := R6.cell 5 _ rfl
  have c66 := R6.cell 6 _ rfl
  have c67 := R6.cell 7 _ rfl
  have c68 := R6.cell 8 _ rfl
  have p600 := P0.cell 0 _ rfl
  have p601 := P0.cell 1 _ rfl
  have p610 := P1.cell 0 _ rfl
  have p611 := P1.cell 1 _ rfl
  have p620 := P2.cell 0 _ rfl
  have p621 := P2.cell 1 _ rfl
  clear hu6
  subst hok0
  subst hok1
  go_wp2
  exact bodyPost_ret (v := .tuple #[.int .i64 (-1), .int .i64 6]) (by simp [results, Tryz.results58, go_sem]) rfl ⟨rfl, (((((((((BW.trans (b1.mono (by omega))).trans (b2.mono (by omega))).trans (b3.mono (by omega))).trans (b4.mono (by omega))).trans (d4.mono (by omega))).trans (b5.mono (by omega))).trans (d5.mono (by omega))).trans (b6.mono (by omega))).trans (d6.mono (by omega)))⟩
set_option maxRecDepth 100000 in
set_option maxHeartbeats 2000000 in
theorem addF6_2 (p : Nat) (S : Ms) (t : Tr) (w : World) (h : MeLook p S w) (hV : S.V.length ≤ 1000) (hn : In64 S.n) (hvs : ∀ v ∈ S.V, Vt64 v) (ht : Tr64 t) (h0 : isV S t.v0 = true) (h1 : isV S t.v1 = true) (h2 : isV S t.v2 = true) (o0 : plOk S t 0 = true) (o1 : plOk S t 1 = true) (o2 : plOk S t 2 = false) :
    Calls Tryz.prog 58 #[ptR p, trV t] w fun e w' => e = .returned (.tuple #[.int .i64 (-1), .int .i64 6]) ∧ Below w.heap.size w w' := by
  obtain ⟨W, hW⟩ : ∃ W, W = w.alloc (.cells (trC t).toArray 51) := ⟨_, rfl⟩
  have BW : Below w.heap.size w W := by rw [hW]; exact (Below.refl _ _).alloc (Nat.le_refl _) _
  have zW : W.heap.size = w.heap.size + 1 := by rw [hW]; simp
  have R0 : Row W w.heap.size (trC t) := by rw [hW]; exact Row.new w (trC t) _
  have hW' : w.alloc (.cells #[.int .i64 t.v0, .int .i64 t.v1, .int .i64 t.v2, .int .i64 t.x0, .int .i64 t.y0, .int .i64 t.x1, .int .i64 t.y1, .int .i64 t.x2, .int .i64 t.y2] 51) = W := hW.symm
  have L0 : Hid _ := h.below BW
  have c0 := R0.cell 0 _ rfl
  have c1 := R0.cell 1 _ rfl
  have c2 := R0.cell 2 _ rfl
  have c3 := R0.cell 3 _ rfl
  have c4 := R0.cell 4 _ rfl
  have c5 := R0.cell 5 _ rfl
  have c6 := R0.cell 6 _ rfl
  have c7 := R0.cell 7 _ rfl
  have c8 := R0.cell 8 _ rfl
  clear h hW
  have k0 := isV_yes h0
  have d0 : decide (fAt Vt.no t.v0 S.V 0 < 0) = false := decide_eq_false (by omega)
  obtain ⟨ok0, hok0, Hok0⟩ : ∃ ok, ok = true ∧ Hid (ok = plOk S t 0) := ⟨_, rfl, o0.symm⟩
  obtain ⟨X0, HX0⟩ : ∃ X, Hid (X = plX S t 0) := ⟨_, rfl⟩
  obtain ⟨Y0, HY0⟩ : ∃ X, Hid (X = plY S t 0) := ⟨_, rfl⟩
  have k1 := isV_yes h1
  have d1 : decide (fAt Vt.no t.v1 S.V 0 < 0) = false := decide_eq_false (by omega)
  obtain ⟨ok1, hok1, Hok1⟩ : ∃ ok, ok = true ∧ Hid (ok = plOk S t 1) := ⟨_, rfl, o1.symm⟩
  obtain ⟨X1, HX1⟩ : ∃ X, Hid (X = plX S t 1) := ⟨_, rfl⟩
  obtain ⟨Y1, HY1⟩ : ∃ X, Hid (X = plY S t 1) := ⟨_, rfl⟩
  have k2 := isV_yes h2
  have d2 : decide (fAt Vt.no t.v2 S.V 0 < 0) = false := decide_eq_false (by omega)
  obtain ⟨ok2, hok2, Hok2⟩ : ∃ ok, ok = false ∧ Hid (ok = plOk S t 2) := ⟨_, rfl, o2.symm⟩
  obtain ⟨X2, HX2⟩ : ∃ X, Hid (X = plX S t 2) := ⟨_, rfl⟩
  obtain ⟨Y2, HY2⟩ : ∃ X, Hid (X = plY S t 2) := ⟨_, rfl⟩
  go_enter Tryz.func58, Tryz.ntmps58
  go_wp2_with (go_at_call 18; fail)
  refine (mrVertAt p S t.v0 W L0.out hV rfl).mono ?_
  rintro e w1 ⟨rfl, b1⟩
  have L1 : Hid _ := L0.out.below b1
  have R1 := R0.below b1 (by omega)
  have z1 := b1.size
  have c10 := R1.cell 0 _ rfl
  have c11 := R1.cell 1 _ rfl
  have c12 := R1.cell 2 _ rfl
  have c13 := R1.cell 3 _ rfl
  have c14 := R1.cell 4 _ rfl
  have c15 := R1.cell 5 _ rfl
  have c16 := R1.cell 6 _ rfl
  have c17 := R1.cell 7 _ rfl
  have c18 := R1.cell 8 _ rfl
  go_wp2_with (go_at_call 18; fail)
  refine (mrVertAt p S t.v1 w1 L1.out hV rfl).mono ?_
  rintro e w2 ⟨rfl, b2⟩
  have L2 : Hid _ := L1.out.below b2
  have R2 := R1.below b2 (by omega)
  have z2 := b2.size
  have c20 := R2.cell 0 _ rfl
  have c21 := R2.cell 1 _ rfl
  have c22 := R2.cell 2 _ rfl
  have c23 := R2.cell 3 _ rfl
  have c24 := R2.cell 4 _ rfl
  have c25 := R2.cell 5 _ rfl
  have c26 := R2.cell 6 _ rfl
  have c27 := R2.cell 7 _ rfl
  have c28 := R2.cell 8 _ rfl
  go_wp2_with (go_at_call 18; fail)
  refine (mrVertAt p S t.v2 w2 L2.out hV rfl).mono ?_
  rintro e w3 ⟨rfl, b3⟩
  have L3 : Hid _ := L2.out.below b3
  have R3 := R2.below b3 (by omega)
  have z3 := b3.size
  have c30 := R3.cell 0 _ rfl
  have c31 := R3.cell 1 _ rfl
  have c32 := R3.cell 2 _ rfl
  have c33 := R3.cell 3 _ rfl
  have c34 := R3.cell 4 _ rfl
  have c35 := R3.cell 5 _ rfl
  have c36 := R3.cell 6 _ rfl
  have c37 := R3.cell 7 _ rfl
  have c38 := R3.cell 8 _ rfl
  go_wp2_with (go_at_call 23; fail)
  refine (mrPlace p S t 0 w3 (by decide) L3.out hV hn hvs ht h0 (ok := ok0) (X := X0) (Y := Y0) Hok0.out HX0.out HY0.out).mono ?_
  rintro e w4 ⟨rfl, b4⟩
  obtain ⟨u4, hu4⟩ : ∃ u, u = w4.alloc (.cells ([.int .i64 X0, .int .i64 Y0] : List Value).toArray 41) := ⟨_, rfl⟩
  have d4 : Below w4.heap.size w4 u4 := by rw [hu4]; exact (Below.refl _ _).alloc (Nat.le_refl _) _
  have z4 := b4.size
  have y4 : u4.heap.size = w4.heap.size + 1 := by rw [hu4]; simp
  have P0 : Row u4 w4.heap.size [.int .i64 X0, .int .i64 Y0] := by rw [hu4]; exact Row.new w4 _ _
  have hv4 : w4.alloc (.cells #[.int .i64 X0, .int .i64 Y0] 41) = u4 := hu4.symm
  have L4 : Hid _ := (L3.out.below b4).below d4
  have R4 := (R3.below b4 (by omega)).below d4 (by omega)
  have c40 := R4.cell 0 _ rfl
  have c41 := R4.cell 1 _ rfl
  have c42 := R4.cell 2 _ rfl
  have c43 := R4.cell 3 _ rfl
  have c44 := R4.cell 4 _ rfl
  have c45 := R4.cell 5 _ rfl
  have c46 := R4.cell 6 _ rfl
  have c47 := R4.cell 7 _ rfl
  have c48 := R4.cell 8 _ rfl
  have p400 := P0.cell 0 _ rfl
  have p401 := P0.cell 1 _ rfl
  clear hu4
  go_wp2_with (go_at_call 23; fail)
  refine (mrPlace p S t 1 u4 (by decide) L4.out hV hn hvs ht h1 (ok := ok1) (X := X1) (Y := Y1) Hok1.out HX1.out HY1.out).mono ?_
  rintro e w5 ⟨rfl, b5⟩
  obtain ⟨u5, hu5⟩ : ∃ u, u = w5.alloc (.cells ([.int .i64 X1, .int .i64 Y1] : List Value).toArray 41) := ⟨_, rfl⟩
  have d5 : Below w5.heap.size w5 u5 := by rw [hu5]; exact (Below.refl _ _).alloc (Nat.le_refl _) _
  have z5 := b5.size
  have y5 : u5.heap.size = w5.heap.size + 1 := by rw [hu5]; simp
  have P1 : Row u5 w5.heap.size [.int .i64 X1, .int .i64 Y1] := by rw [hu5]; exact Row.new w5 _ _
  have hv5 : w5.alloc (.cells #[.int .i64 X1, .int .i64 Y1] 41) = u5 := hu5.symm
  have L5 : Hid _ := (L4.out.below b5).below d5
  have R5 := (R4.below b5 (by omega)).below d5 (by omega)
  have P0 := (P0.below b5 (by omega)).below d5 (by omega)
  have c50 := R5.cell 0 _ rfl
  have c51 := R5.cell 1 _ rfl
  have c52 := R5.cell 2 _ rfl
  have c53 := R5.cell 3 _ rfl
  have c54 := R5.cell 4 _ rfl
  have c55 := R5.cell 5 _ rfl
  have c56 := R5.cell 6 _ rfl
  have c57 := R5.cell 7 _ rfl
  have c58 := R5.cell 8 _ rfl
  have p500 := P0.cell 0 _ rfl
  have p501 := P0.cell 1 _ rfl
  have p510 := P1.cell 0 _ rfl
  have p511 := P1.cell 1 _ rfl
  clear hu5
  go_wp2_with (go_at_call 23; fail)
  refine (mrPlace p S t 2 u5 (by decide) L5.out hV hn hvs ht h2 (ok := ok2) (X := X2) (Y := Y2) Hok2.out HX2.out HY2.out).mono ?_
  rintro e w6 ⟨rfl, b6⟩
  obtain ⟨u6, hu6⟩ : ∃ u, u = w6.alloc (.cells ([.int .i64 X2, .int .i64 Y2] : List Value).toArray 41) := ⟨_, rfl⟩
  have d6 : Below w6.heap.size w6 u6 := by rw [hu6]; exact (Below.refl _ _).alloc (Nat.le_refl _) _
  have z6 := b6.size
  have y6 : u6.heap.size = w6.heap.size + 1 := by rw [hu6]; simp
  have P2 : Row u6 w6.heap.size [.int .i64 X2, .int .i64 Y2] := by rw [hu6]; exact Row.new w6 _ _
  have hv6 : w6.alloc (.cells #[.int .i64 X2, .int .i64 Y2] 41) = u6 := hu6.symm
  have L6 : Hid _ := (L5.out.below b6).below d6
  have R6 := (R5.below b6 (by omega)).below d6 (by omega)
  have P0 := (P0.below b6 (by omega)).below d6 (by omega)
  have P1 := (P1.below b6 (by omega)).below d6 (by omega)
  have c60 := R6.cell 0 _ rfl
  have c61 := R6.cell 1 _ rfl
  have c62 := R6.cell 2 _ rfl
  have c63 := R6.cell 3 _ rfl
  have c64 := R6.cell 4 _ rfl
  have c65 := R6.cell 5 _ rfl
  have c66 := R6.cell 6 _ rfl
  have c67 := R6.cell 7 _ rfl
  have c68 := R6.cell 8 _ rfl
  have p600 := P0.cell 0 _ rfl
  have p601 := P0.cell 1 _ rfl
  have p610 := P1.cell 0 _ rfl
  have p611 := P1.cell 1 _ rfl
  have p620 := P2.cell 0 _ rfl
  have p621 := P2.cell 1 _ rfl
  clear hu6
  subst hok0
  subst hok1
  subst hok2
  go_wp2
  exact bodyPost_ret (v := .tuple #[.int .i64 (-1), .int .i64 6]) (by simp [results, Tryz.results58, go_sem]) rfl ⟨rfl, (((((((((BW.trans (b1.mono (by omega))).trans (b2.mono (by omega))).trans (b3.mono (by omega))).trans (b4.mono (by omega))).trans (d4.mono (by omega))).trans (b5.mono (by omega))).trans (d5.mono (by omega))).trans (b6.mono (by omega))).trans (d6.mono (by omega)))⟩
set_option maxRecDepth 100000 in
set_option maxHeartbeats 2000000 in
theorem addF6_3 (p : Nat) (S : Ms) (t : Tr) (w : World) (h : MeLook p S w) (hV : S.V.length ≤ 1000) (hn : In64 S.n) (hvs : ∀ v ∈ S.V, Vt64 v) (ht : Tr64 t) (h0 : isV S t.v0 = true) (h1 : isV S t.v1 = true) (h2 : isV S t.v2 = true) (o0 : plOk S t 0 = true) (o1 : plOk S t 1 = true) (o2 : plOk S t 2 = true) (hg : (areaT S t).sign ≠ 1) :
    Calls Tryz.prog 58 #[ptR p, trV t] w fun e w' => e = .returned (.tuple #[.int .i64 (-1), .int .i64 6]) ∧ Below w.heap.size w w' := by
  obtain ⟨W, hW⟩ : ∃ W, W = w.alloc (.cells (trC t).toArray 51) := ⟨_, rfl⟩
  have BW : Below w.heap.size w W := by rw [hW]; exact (Below.refl _ _).alloc (Nat.le_refl _) _
  have zW : W.heap.size = w.heap.size + 1 := by rw [hW]; simp
  have R0 : Row W w.heap.size (trC t) := by rw [hW]; exact Row.new w (trC t) _
  have hW' : w.alloc (.cells #[.int .i64 t.v0, .int .i64 t.v1, .int .i64 t.v2, .int .i64 t.x0, .int .i64 t.y0, .int .i64 t.x1, .int .i64 t.y1, .int .i64 t.x2, .int .i64 t.y2] 51) = W := hW.symm
  have L0 : Hid _ := h.below BW
  have c0 := R0.cell 0 _ rfl
  have c1 := R0.cell 1 _ rfl
  have c2 := R0.cell 2 _ rfl
  have c3 := R0.cell 3 _ rfl
  have c4 := R0.cell 4 _ rfl
  have c5 := R0.cell 5 _ rfl
  have c6 := R0.cell 6 _ rfl
  have c7 := R0.cell 7 _ rfl
  have c8 := R0.cell 8 _ rfl
  clear h hW
  have k0 := isV_yes h0
  have d0 : decide (fAt Vt.no t.v0 S.V 0 < 0) = false := decide_eq_false (by omega)
  obtain ⟨ok0, hok0, Hok0⟩ : ∃ ok, ok = true ∧ Hid (ok = plOk S t 0) := ⟨_, rfl, o0.symm⟩
  obtain ⟨X0, HX0⟩ : ∃ X, Hid (X = plX S t 0) := ⟨_, rfl⟩
  obtain ⟨Y0, HY0⟩ : ∃ X, Hid (X = plY S t 0) := ⟨_, rfl⟩
  have k1 := isV_yes h1
  have d1 : decide (fAt Vt.no t.v1 S.V 0 < 0) = false := decide_eq_false (by omega)
  obtain ⟨ok1, hok1, Hok1⟩ : ∃ ok, ok = true ∧ Hid (ok = plOk S t 1) := ⟨_, rfl, o1.symm⟩
  obtain ⟨X1, HX1⟩ : ∃ X, Hid (X = plX S t 1) := ⟨_, rfl⟩
  obtain ⟨Y1, HY1⟩ : ∃ X, Hid (X = plY S t 1) := ⟨_, rfl⟩
  have k2 := isV_yes h2
  have d2 : decide (fAt Vt.no t.v2 S.V 0 < 0) = false := decide_eq_false (by omega)
  obtain ⟨ok2, hok2, Hok2⟩ : ∃ ok, ok = true ∧ Hid (ok = plOk S t 2) := ⟨_, rfl, o2.symm⟩
  obtain ⟨X2, HX2⟩ : ∃ X, Hid (X = plX S t 2) := ⟨_, rfl⟩
  obtain ⟨Y2, HY2⟩ : ∃ X, Hid (X = plY S t 2) := ⟨_, rfl⟩
  go_enter Tryz.func58, Tryz.ntmps58
  go_wp2_with (go_at_call 18; fail)
  refine (mrVertAt p S t.v0 W L0.out hV rfl).mono ?_
  rintro e w1 ⟨rfl, b1⟩
  have L1 : Hid _ := L0.out.below b1
  have R1 := R0.below b1 (by omega)
  have z1 := b1.size
  have c10 := R1.cell 0 _ rfl
  have c11 := R1.cell 1 _ rfl
  have c12 := R1.cell 2 _ rfl
  have c13 := R1.cell 3 _ rfl
  have c14 := R1.cell 4 _ rfl
  have c15 := R1.cell 5 _ rfl
  have c16 := R1.cell 6 _ rfl
  have c17 := R1.cell 7 _ rfl
  have c18 := R1.cell 8 _ rfl
  go_wp2_with (go_at_call 18; fail)
  refine (mrVertAt p S t.v1 w1 L1.out hV rfl).mono ?_
  rintro e w2 ⟨rfl, b2⟩
  have L2 : Hid _ := L1.out.below b2
  have R2 := R1.below b2 (by omega)
  have z2 := b2.size
  have c20 := R2.cell 0 _ rfl
  have c21 := R2.cell 1 _ rfl
  have c22 := R2.cell 2 _ rfl
  have c23 := R2.cell 3 _ rfl
  have c24 := R2.cell 4 _ rfl
  have c25 := R2.cell 5 _ rfl
  have c26 := R2.cell 6 _ rfl
  have c27 := R2.cell 7 _ rfl
  have c28 := R2.cell 8 _ rfl
  go_wp2_with (go_at_call 18; fail)
  refine (mrVertAt p S t.v2 w2 L2.out hV rfl).mono ?_
  rintro e w3 ⟨rfl, b3⟩
  have L3 : Hid _ := L2.out.below b3
  have R3 := R2.below b3 (by omega)
  have z3 := b3.size
  have c30 := R3.cell 0 _ rfl
  have c31 := R3.cell 1 _ rfl
  have c32 := R3.cell 2 _ rfl
  have c33 := R3.cell 3 _ rfl
  have c34 := R3.cell 4 _ rfl
  have c35 := R3.cell 5 _ rfl
  have c36 := R3.cell 6 _ rfl
  have c37 := R3.cell 7 _ rfl
  have c38 := R3.cell 8 _ rfl
  go_wp2_with (go_at_call 23; fail)
  refine (mrPlace p S t 0 w3 (by decide) L3.out hV hn hvs ht h0 (ok := ok0) (X := X0) (Y := Y0) Hok0.out HX0.out HY0.out).mono ?_
  rintro e w4 ⟨rfl, b4⟩
  obtain ⟨u4, hu4⟩ : ∃ u, u = w4.alloc (.cells ([.int .i64 X0, .int .i64 Y0] : List Value).toArray 41) := ⟨_, rfl⟩
  have d4 : Below w4.heap.size w4 u4 := by rw [hu4]; exact (Below.refl _ _).alloc (Nat.le_refl _) _
  have z4 := b4.size
  have y4 : u4.heap.size = w4.heap.size + 1 := by rw [hu4]; simp
  have P0 : Row u4 w4.heap.size [.int .i64 X0, .int .i64 Y0] := by rw [hu4]; exact Row.new w4 _ _
  have hv4 : w4.alloc (.cells #[.int .i64 X0, .int .i64 Y0] 41) = u4 := hu4.symm
  have L4 : Hid _ := (L3.out.below b4).below d4
  have R4 := (R3.below b4 (by omega)).below d4 (by omega)
  have c40 := R4.cell 0 _ rfl
  have c41 := R4.cell 1 _ rfl
  have c42 := R4.cell 2 _ rfl
  have c43 := R4.cell 3 _ rfl
  have c44 := R4.cell 4 _ rfl
  have c45 := R4.cell 5 _ rfl
  have c46 := R4.cell 6 _ rfl
  have c47 := R4.cell 7 _ rfl
  have c48 := R4.cell 8 _ rfl
  have p400 := P0.cell 0 _ rfl
  have p401 := P0.cell 1 _ rfl
  clear hu4
  go_wp2_with (go_at_call 23; fail)
  refine (mrPlace p S t 1 u4 (by decide) L4.out hV hn hvs ht h1 (ok := ok1) (X := X1) (Y := Y1) Hok1.out HX1.out HY1.out).mono ?_
  rintro e w5 ⟨rfl, b5⟩
  obtain ⟨u5, hu5⟩ : ∃ u, u = w5.alloc (.cells ([.int .i64 X1, .int .i64 Y1] : List Value).toArray 41) := ⟨_, rfl⟩
  have d5 : Below w5.heap.size w5 u5 := by rw [hu5]; exact (Below.refl _ _).alloc (Nat.le_refl _) _
  have z5 := b5.size
  have y5 : u5.heap.size = w5.heap.size + 1 := by rw [hu5]; simp
  have P1 : Row u5 w5.heap.size [.int .i64 X1, .int .i64 Y1] := by rw [hu5]; exact Row.new w5 _ _
  have hv5 : w5.alloc (.cells #[.int .i64 X1, .int .i64 Y1] 41) = u5 := hu5.symm
  have L5 : Hid _ := (L4.out.below b5).below d5
  have R5 := (R4.below b5 (by omega)).below d5 (by omega)
  have P0 := (P0.below b5 (by omega)).below d5 (by omega)
  have c50 := R5.cell 0 _ rfl
  have c51 := R5.cell 1 _ rfl
  have c52 := R5.cell 2 _ rfl
  have c53 := R5.cell 3 _ rfl
  have c54 := R5.cell 4 _ rfl
  have c55 := R5.cell 5 _ rfl
  have c56 := R5.cell 6 _ rfl
  have c57 := R5.cell 7 _ rfl
  have c58 := R5.cell 8 _ rfl
  have p500 := P0.cell 0 _ rfl
  have p501 := P0.cell 1 _ rfl
  have p510 := P1.cell 0 _ rfl
  have p511 := P1.cell 1 _ rfl
  clear hu5
  go_wp2_with (go_at_call 23; fail)
  refine (mrPlace p S t 2 u5 (by decide) L5.out hV hn hvs ht h2 (ok := ok2) (X := X2) (Y := Y2) Hok2.out HX2.out HY2.out).mono ?_
  rintro e w6 ⟨rfl, b6⟩
  obtain ⟨u6, hu6⟩ : ∃ u, u = w6.alloc (.cells ([.int .i64 X2, .int .i64 Y2] : List Value).toArray 41) := ⟨_, rfl⟩
  have d6 : Below w6.heap.size w6 u6 := by rw [hu6]; exact (Below.refl _ _).alloc (Nat.le_refl _) _
  have z6 := b6.size
  have y6 : u6.heap.size = w6.heap.size + 1 := by rw [hu6]; simp
  have P2 : Row u6 w6.heap.size [.int .i64 X2, .int .i64 Y2] := by rw [hu6]; exact Row.new w6 _ _
  have hv6 : w6.alloc (.cells #[.int .i64 X2, .int .i64 Y2] 41) = u6 := hu6.symm
  have L6 : Hid _ := (L5.out.below b6).below d6
  have R6 := (R5.below b6 (by omega)).below d6 (by omega)
  have P0 := (P0.below b6 (by omega)).below d6 (by omega)
  have P1 := (P1.below b6 (by omega)).below d6 (by omega)
  have c60 := R6.cell 0 _ rfl
  have c61 := R6.cell 1 _ rfl
  have c62 := R6.cell 2 _ rfl
  have c63 := R6.cell 3 _ rfl
  have c64 := R6.cell 4 _ rfl
  have c65 := R6.cell 5 _ rfl
  have c66 := R6.cell 6 _ rfl
  have c67 := R6.cell 7 _ rfl
  have c68 := R6.cell 8 _ rfl
  have p600 := P0.cell 0 _ rfl
  have p601 := P0.cell 1 _ rfl
  have p610 := P1.cell 0 _ rfl
  have p611 := P1.cell 1 _ rfl
  have p620 := P2.cell 0 _ rfl
  have p621 := P2.cell 1 _ rfl
  clear hu6
  subst hok0
  subst hok1
  subst hok2
  obtain ⟨g, HG, hg'⟩ : ∃ g, Hid (g = (areaP X0 Y0 X1 Y1 X2 Y2).sign) ∧ ¬ g = 1 := ⟨_, rfl, by rw [HX0.out, HY0.out, HX1.out, HY1.out, HX2.out, HY2.out]; exact hg⟩
  clear hg
  go_wp2_with (go_at_call 97; fail)
  refine (rpOrient X0 Y0 X1 Y1 X2 Y2 u6 (by rw [HX0.out, HY0.out]; exact plOk_can o0) (by rw [HX1.out, HY1.out]; exact plOk_can o1) (by rw [HX2.out, HY2.out]; exact plOk_can o2) (g := g) HG.out).mono ?_
  rintro e w7 ⟨rfl, b7⟩
  go_wp2
  exact bodyPost_ret (v := .tuple #[.int .i64 (-1), .int .i64 6]) (by simp [results, Tryz.results58, go_sem]) rfl ⟨rfl, ((((((((((BW.trans (b1.mono (by omega))).trans (b2.mono (by omega))).trans (b3.mono (by omega))).trans (b4.mono (by omega))).trans (d4.mono (by omega))).trans (b5.mono (by omega))).trans (d5.mono (by omega))).trans (b6.mono (by omega))).trans (d6.mono (by omega))).trans (b7.mono (by omega)))⟩
end Go.Proofs.YtjdeehffbgpenaaGreat
