/-
  Joined texts, part 11:
  What package circum's fraction and halfway answer.
  The circle of three points: its center by the weights of the corners and by a determinant, and how great it is. It imports nothing of the program.
  Which of two triangles is taken, where four points lie on a circle: the order of points, what does away with what, and that it is an order among the points to the left of an edge. It imports nothing of the program.
  Points of 64 bits. It imports nothing of the program.
  What zelligeref07's near, sign, Orient and flat answer.
-/
import Derived.Test.YtcaihoomcdbfnaaGreatP10
namespace Go.Proofs.YtcaihoomcdbfnaaGreat
open Go.RowKit
set_option linter.unusedVariables false

theorem xWhole (x : Int) {q0 q1 q2 q3 : Int} (hq : lq.Wd x q0 q1 q2 q3) (R : Hid (W256 x)) (w : World) : Calls Tryz.prog 69 #[.agg #[.int .u64 q0, .int .u64 q1, .int .u64 q2, .int .u64 q3]] w (GotW w x) := by
  obtain ⟨rfl, rfl, rfl, rfl⟩ := hq
  exact wOfQuad x R.out.1 R.out.2 w
theorem w256_few {x : Int} (h : W256 x) : x.natAbs < 4294967296 ^ 8 := by
  have e : 4294967296 ^ 8 = 115792089237316195423570985008687907853269984665640564039457584007913129639936 := by decide
  unfold W256 at h
  rw [e]
  omega
theorem bs_443 (w : World) (x00 x01 x02 x03 x10 x11 x12 x13 x20 x21 x22 : Value) (t0 t1 t2 : TypeId) : ∃ W, W = (((w.alloc (.cells #[x00, x01, x02, x03] t0)).alloc (.cells #[x10, x11, x12, x13] t1)).alloc (.cells #[x20, x21, x22] t2)) ∧ Below w.heap.size w W ∧ B4 W (w.heap.size) x00 x01 x02 x03 ∧ B4 W (w.heap.size + 1) x10 x11 x12 x13 ∧ B3 W (w.heap.size + 1 + 1) x20 x21 x22 ∧ w.heap.size + 1 + 1 < W.heap.size := by
  have e0 : Below w.heap.size w (w.alloc (.cells #[x00, x01, x02, x03] t0)) := (Below.refl _ _).alloc (Nat.le_refl _) _
  have h0 := b4_new w x00 x01 x02 x03 t0
  have e1 : Below (w.alloc (.cells #[x00, x01, x02, x03] t0)).heap.size (w.alloc (.cells #[x00, x01, x02, x03] t0)) ((w.alloc (.cells #[x00, x01, x02, x03] t0)).alloc (.cells #[x10, x11, x12, x13] t1)) := (Below.refl _ _).alloc (Nat.le_refl _) _
  have h1 := b4_new (w.alloc (.cells #[x00, x01, x02, x03] t0)) x10 x11 x12 x13 t1
  rw [World.size_alloc] at h1
  have e2 : Below ((w.alloc (.cells #[x00, x01, x02, x03] t0)).alloc (.cells #[x10, x11, x12, x13] t1)).heap.size ((w.alloc (.cells #[x00, x01, x02, x03] t0)).alloc (.cells #[x10, x11, x12, x13] t1)) (((w.alloc (.cells #[x00, x01, x02, x03] t0)).alloc (.cells #[x10, x11, x12, x13] t1)).alloc (.cells #[x20, x21, x22] t2)) := (Below.refl _ _).alloc (Nat.le_refl _) _
  have h2 := b3_new ((w.alloc (.cells #[x00, x01, x02, x03] t0)).alloc (.cells #[x10, x11, x12, x13] t1)) x20 x21 x22 t2
  rw [World.size_alloc, World.size_alloc] at h2
  exact ⟨_, rfl, also (also (e0) e1) e2, ((h0.on e1).on e2), (h1.on e2), h2, by simp⟩
set_option maxRecDepth 100000 in
set_option maxHeartbeats 8000000 in
theorem cFrac (X Y : Int) {x0 x1 x2 x3 : Int} (hx : lq.Wd X x0 x1 x2 x3) {y0 y1 y2 y3 : Int} (hy : lq.Wd Y y0 y1 y2 y3) (RX : Hid (W256 X)) (RY : Hid (W256 Y)) (h0 : Hid (Y ≠ 0)) {N : Int} {D : Nat} (hN : N = lowN (X * Y.sign) Y.natAbs) (hD : D = lowD (X * Y.sign) Y.natAbs) (w : World) :
    Calls Tryz.prog 32 #[.agg #[.int .u64 x0, .int .u64 x1, .int .u64 x2, .int .u64 x3], .agg #[.int .u64 y0, .int .u64 y1, .int .u64 y2, .int .u64 y3]] w (GotQ w N D) := by
  have Hx : Hid _ := hx
  have Hy : Hid _ := hy
  have HN : Hid _ := hN
  have HD : Hid _ := hD
  clear hx hy hN hD
  have SX : Hid _ := w256_few RX
  have SY : Hid _ := w256_few RY
  obtain ⟨W, hW, bW, x_n, x_d, x_r, sW⟩ := bs_443 w (.int .u64 x0) (.int .u64 x1) (.int .u64 x2) (.int .u64 x3) (.int .u64 y0) (.int .u64 y1) (.int .u64 y2) (.int .u64 y3) (.bool false) (.slice none 0 0) (.slice none 0 0) 77 77 29
  have zbW := bW.size
  have BB := bW
  go_enter Tryz.func32, Tryz.ntmps32
  go_wp2
  rw [← hW]
  clear hW
  obtain ⟨QQ, hQQ⟩ : ∃ QQ : Exit → Act → World → Prop, QQ = fun e act wr => e = .normal ∧ ∃ (pz : Nat) (n1 : Bool) (a1 : Option Addr) (l1 c1 : Nat) (n2 : Bool) (a2 : Option Addr) (l2 c2 : Nat) (n3 : Bool) (a3 : Option Addr) (l3 c3 : Nat) (d3 : Option Addr) (m3 k3 : Nat), act = ⟨#[.agg #[.int .u64 x0, .int .u64 x1, .int .u64 x2, .int .u64 x3], .agg #[.int .u64 y0, .int .u64 y1, .int .u64 y2, .int .u64 y3], .pointer (some ⟨w.heap.size, 0, none⟩), .pointer (some ⟨w.heap.size + 1, 0, none⟩), .pointer (some ⟨w.heap.size + 1 + 1, 0, none⟩), .pointer (some ⟨pz, 0, none⟩), .int .i64 0, .tuple #[.agg #[.bool n3, .slice a3 l3 c3, .slice d3 m3 k3], .int .i64 0], .agg #[.int .u64 x0, .int .u64 x1, .int .u64 x2, .int .u64 x3], .agg #[.bool n1, .slice a1 l1 c1], .agg #[.int .u64 y0, .int .u64 y1, .int .u64 y2, .int .u64 y3], .agg #[.bool n2, .slice a2 l2 c2], .tuple #[.agg #[.bool n3, .slice a3 l3 c3, .slice d3 m3 k3], .int .i64 0], .agg #[.bool n3, .slice a3 l3 c3, .slice d3 m3 k3], .int .i64 0, undef], []⟩ ∧ WN wr n1 a1 l1 c1 X ∧ WN wr n2 a2 l2 c2 Y ∧ QN wr n3 a3 l3 c3 d3 m3 k3 N D ∧ B4 wr (w.heap.size) (.int .u64 x0) (.int .u64 x1) (.int .u64 x2) (.int .u64 x3) ∧ B4 wr (w.heap.size + 1) (.int .u64 y0) (.int .u64 y1) (.int .u64 y2) (.int .u64 y3) ∧ B3 wr (w.heap.size + 1 + 1) (.bool false) (.slice none 0 0) (.slice none 0 0) ∧ B3 wr pz (.bool n3) (.slice a3 l3 c3) (.slice d3 m3 k3) ∧ Below w.heap.size w wr ∧ W.heap.size ≤ wr.heap.size ∧ (W.heap.size ≤ pz ∧ pz < wr.heap.size) ∧ (Far W.heap.size a3 l3) ∧ (Far W.heap.size d3 m3) := ⟨_, rfl⟩
  have HQQ : Hid _ := hQQ
  clear hQQ
  refine wp_mono (Q := QQ) ?_ ?_
  · refine wp_region_held_drew (S := (fun w' => w'.cell? ⟨w.heap.size, 0, none⟩ = some (.int .u64 x0) ∧ w'.cell? ⟨w.heap.size, 1, none⟩ = some (.int .u64 x1) ∧ w'.cell? ⟨w.heap.size, 2, none⟩ = some (.int .u64 x2) ∧ w'.cell? ⟨w.heap.size, 3, none⟩ = some (.int .u64 x3) ∧ w'.cell? ⟨w.heap.size + 1, 0, none⟩ = some (.int .u64 y0) ∧ w'.cell? ⟨w.heap.size + 1, 1, none⟩ = some (.int .u64 y1) ∧ w'.cell? ⟨w.heap.size + 1, 2, none⟩ = some (.int .u64 y2) ∧ w'.cell? ⟨w.heap.size + 1, 3, none⟩ = some (.int .u64 y3) ∧ Below w.heap.size w w')) (by kernel_rfl) ?_ (fun hHeld => ?_)
    · exact ⟨x_n.c0, x_n.c1, x_n.c2, x_n.c3, x_d.c0, x_d.c1, x_d.c2, x_d.c3, BB.drew⟩
    refine take_yes (i := 0) (v := ?vm0x1) rfl (by kernel_rfl) (by kernel_rfl) (by kernel_rfl) (fun _ _ _ h => by rw [HQQ.out] at h; exact Exit.noConfusion h.1) (by rfl) (by assumption) ?hym0x1 ?restm0x1
    case hym0x1 => (intro w hSw; (try dsimp only at hSw); first | (go_simp; done) | (go_simp; with_reducible rfl))
    simp only [Act.put, List.setIfInBounds_toArray, List.set_cons_zero, List.set_cons_succ]
    refine take_yes (i := 2) (v := ?vm2x2) rfl (by kernel_rfl) (by kernel_rfl) (by kernel_rfl) (fun _ _ _ h => by rw [HQQ.out] at h; exact Exit.noConfusion h.1) (by rfl) (by assumption) ?hym2x2 ?restm2x2
    case hym2x2 => (intro w hSw; (try dsimp only at hSw); first | (go_simp; done) | (go_simp; with_reducible rfl))
    simp only [Act.put, List.setIfInBounds_toArray, List.set_cons_zero, List.set_cons_succ]
    have b0 : Below W.heap.size W W.drew := (Below.refl _ _).drew
    have BU := b0
    generalize W.drew = X0 at b0 BU hHeld ⊢
    replace x_n := x_n.on b0
    replace x_d := x_d.on b0
    replace x_r := x_r.on b0
    replace BB := also BB b0
    refine wpAnyH_ready (rs := [1, 8]) (by kernel_rfl) (by simp) (AllReadyH.cons (i := 1) rfl (fun Kc hK => ?_) (AllReadyH.cons (i := 8) rfl (fun Kc hK => ?_) AllReadyH.nil))
    · skip
      go_simp
      (go_at_call 69; refine (xWhole X Hx.out RX _).mono ?_; rintro e X1 ⟨n1, a1, l1, c1, rfl, h1, f1, e1⟩)
      refine hK.out _ _ ⟨cell_on e1 hHeld.1, cell_on e1 hHeld.2.1, cell_on e1 hHeld.2.2.1, cell_on e1 hHeld.2.2.2.1, cell_on e1 hHeld.2.2.2.2.1, cell_on e1 hHeld.2.2.2.2.2.1, cell_on e1 hHeld.2.2.2.2.2.2.1, cell_on e1 hHeld.2.2.2.2.2.2.2.1, also hHeld.2.2.2.2.2.2.2.2 e1⟩ (fun hHeld => ?_)
      clear hK Kc
      replace x_n := x_n.on e1
      replace x_d := x_d.on e1
      replace x_r := x_r.on e1
      replace BB := also BB e1
      replace BU := also BU e1
      refine wpAnyH_ready (rs := [3, 8]) (by kernel_rfl) (by simp) (AllReadyH.cons (i := 3) rfl (fun Kc hK => ?_) (AllReadyH.cons (i := 8) rfl (fun Kc hK => ?_) AllReadyH.nil))
      · skip
        go_simp
        (go_at_call 69; refine (xWhole Y Hy.out RY _).mono ?_; rintro e X2 ⟨n2, a2, l2, c2, rfl, h2, f2, e2⟩)
        refine hK.out _ _ ⟨cell_on e2 hHeld.1, cell_on e2 hHeld.2.1, cell_on e2 hHeld.2.2.1, cell_on e2 hHeld.2.2.2.1, cell_on e2 hHeld.2.2.2.2.1, cell_on e2 hHeld.2.2.2.2.2.1, cell_on e2 hHeld.2.2.2.2.2.2.1, cell_on e2 hHeld.2.2.2.2.2.2.2.1, also hHeld.2.2.2.2.2.2.2.2 e2⟩ (fun hHeld => ?_)
        clear hK Kc
        replace h1 := h1.below e2
        replace x_n := x_n.on e2
        replace x_d := x_d.on e2
        replace x_r := x_r.on e2
        replace BB := also BB e2
        replace BU := also BU e2
        refine wpAnyH_ready (rs := [4, 8]) (by kernel_rfl) (by simp) (AllReadyH.cons (i := 4) rfl (fun Kc hK => ?_) (AllReadyH.cons (i := 8) rfl (fun Kc hK => ?_) AllReadyH.nil))
        · skip
          go_simp
          (go_at_call 68; refine (qMake n1 n2 a1 a2 l1 l2 c1 c2 X Y _ (h1.wi 8 (by decide) SX.out) (h2.wi 8 (by decide) SY.out) h0.out N D HN.out HD.out).mono ?_; rintro e X3 ⟨n3, a3, l3, c3, d3, m3, k3, rfl, h3, f3, g3, e3⟩)
          refine hK.out _ _ ⟨cell_on e3 hHeld.1, cell_on e3 hHeld.2.1, cell_on e3 hHeld.2.2.1, cell_on e3 hHeld.2.2.2.1, cell_on e3 hHeld.2.2.2.2.1, cell_on e3 hHeld.2.2.2.2.2.1, cell_on e3 hHeld.2.2.2.2.2.2.1, cell_on e3 hHeld.2.2.2.2.2.2.2.1, also hHeld.2.2.2.2.2.2.2.2 e3⟩ (fun hHeld => ?_)
          clear hK Kc
          have o3 : Far W.heap.size a3 l3 := f3.mono BU.size
          have u3 : Far W.heap.size d3 m3 := g3.mono BU.size
          replace h1 := h1.below e3
          replace h2 := h2.below e3
          replace x_n := x_n.on e3
          replace x_d := x_d.on e3
          replace x_r := x_r.on e3
          replace BB := also BB e3
          replace BU := also BU e3
          refine take_yes (i := 5) (v := ?vm5x3) rfl (by kernel_rfl) (by kernel_rfl) (by kernel_rfl) (fun _ _ _ h => by rw [HQQ.out] at h; exact Exit.noConfusion h.1) (by rfl) (by assumption) ?hym5x3 ?restm5x3
          case hym5x3 => (intro w hSw; (try dsimp only at hSw); first | (go_simp; done) | (go_simp; with_reducible rfl))
          simp only [Act.put, List.setIfInBounds_toArray, List.set_cons_zero, List.set_cons_succ]
          refine take_yes (i := 6) (v := ?vm6x4) rfl (by kernel_rfl) (by kernel_rfl) (by kernel_rfl) (fun _ _ _ h => by rw [HQQ.out] at h; exact Exit.noConfusion h.1) (by rfl) (by assumption) ?hym6x4 ?restm6x4
          case hym6x4 => (intro w hSw; (try dsimp only at hSw); first | (go_simp; done) | (go_simp; with_reducible rfl))
          simp only [Act.put, List.setIfInBounds_toArray, List.set_cons_zero, List.set_cons_succ]
          refine take_yes (i := 7) (v := ?vm7x5) rfl (by kernel_rfl) (by kernel_rfl) (by kernel_rfl) (fun _ _ _ h => by rw [HQQ.out] at h; exact Exit.noConfusion h.1) (by rfl) (by assumption) ?hym7x5 ?restm7x5
          case hym7x5 => (intro w hSw; (try dsimp only at hSw); first | (go_simp; done) | (go_simp; with_reducible rfl))
          simp only [Act.put, List.setIfInBounds_toArray, List.set_cons_zero, List.set_cons_succ]
          refine take_call (i := 8) rfl (by kernel_rfl) (fun Kc hK => ?_)
          go_simp
          refine hK.out _ _ ⟨cell_on ((Below.refl _ _).alloc (Nat.le_refl _) _) hHeld.1, cell_on ((Below.refl _ _).alloc (Nat.le_refl _) _) hHeld.2.1, cell_on ((Below.refl _ _).alloc (Nat.le_refl _) _) hHeld.2.2.1, cell_on ((Below.refl _ _).alloc (Nat.le_refl _) _) hHeld.2.2.2.1, cell_on ((Below.refl _ _).alloc (Nat.le_refl _) _) hHeld.2.2.2.2.1, cell_on ((Below.refl _ _).alloc (Nat.le_refl _) _) hHeld.2.2.2.2.2.1, cell_on ((Below.refl _ _).alloc (Nat.le_refl _) _) hHeld.2.2.2.2.2.2.1, cell_on ((Below.refl _ _).alloc (Nat.le_refl _) _) hHeld.2.2.2.2.2.2.2.1, also hHeld.2.2.2.2.2.2.2.2 ((Below.refl _ _).alloc (Nat.le_refl _) _)⟩ (fun hHeld => ?_)
          clear hK Kc
          have y_pz := b3_new X3 (.bool false) (.slice none 0 0) (.slice none 0 0) 29
          have e4 : Below X3.heap.size X3 (X3.alloc (.cells #[.bool false, .slice none 0 0, .slice none 0 0] 29)) := (Below.refl _ _).alloc (Nat.le_refl _) _
          have lpz : X3.heap.size < (X3.alloc (.cells #[.bool false, .slice none 0 0, .slice none 0 0] 29)).heap.size := by simp
          have gpz : W.heap.size ≤ X3.heap.size := BU.size
          have n_h1_0_pz : NA X3.heap.size a1 l1 := h1.nd.sl.na (Nat.le_refl _)
          have n_h2_0_pz : NA X3.heap.size a2 l2 := h2.nd.sl.na (Nat.le_refl _)
          have n_h3_0_pz : NA X3.heap.size a3 l3 := h3.wn.nd.sl.na (Nat.le_refl _)
          have n_h3_1_pz : NA X3.heap.size d3 m3 := h3.nd.sl.na (Nat.le_refl _)
          generalize X3.alloc (.cells #[.bool false, .slice none 0 0, .slice none 0 0] 29) = X4 at y_pz e4 lpz hHeld ⊢
          replace h1 := h1.below e4
          replace h2 := h2.below e4
          replace h3 := h3.below e4
          replace x_n := x_n.on e4
          replace x_d := x_d.on e4
          replace x_r := x_r.on e4
          replace BB := also BB e4
          replace BU := also BU e4
          generalize X3.heap.size = pz at y_pz lpz gpz n_h1_0_pz n_h2_0_pz n_h3_0_pz n_h3_1_pz ⊢
          have ⟨c_pz_0, c_pz_1, c_pz_2, c_pz_3, c_pz_4, c_pz_5⟩ : B3 X4 pz (.bool false) (.slice none 0 0) (.slice none 0 0) := y_pz
          refine take_call (i := 9) rfl (by kernel_rfl) (fun Kc hK => ?_)
          go_simp
          refine hK.out _ _ ⟨cell_put3 hHeld.1 (by omega) _ _ _, cell_put3 hHeld.2.1 (by omega) _ _ _, cell_put3 hHeld.2.2.1 (by omega) _ _ _, cell_put3 hHeld.2.2.2.1 (by omega) _ _ _, cell_put3 hHeld.2.2.2.2.1 (by omega) _ _ _, cell_put3 hHeld.2.2.2.2.2.1 (by omega) _ _ _, cell_put3 hHeld.2.2.2.2.2.2.1 (by omega) _ _ _, cell_put3 hHeld.2.2.2.2.2.2.2.1 (by omega) _ _ _, below_put3 hHeld.2.2.2.2.2.2.2.2 (by omega) _ _ _⟩ (fun hHeld => ?_)
          clear hK Kc
          refine take_yes (i := 10) (v := ?vm10x6) rfl (by kernel_rfl) (by kernel_rfl) (by kernel_rfl) (fun _ _ _ h => by rw [HQQ.out] at h; exact Exit.noConfusion h.1) (by rfl) (by assumption) ?hym10x6 ?restm10x6
          case hym10x6 => (intro w hSw; (try dsimp only at hSw); first | (go_simp; done) | (go_simp; with_reducible rfl))
          simp only [Act.put, List.setIfInBounds_toArray, List.set_cons_zero, List.set_cons_succ]
          refine wpAnyH_done (by kernel_rfl) ?_ _
          rw [HQQ.out]
          exact ⟨rfl, pz, n1, a1, l1, c1, n2, a2, l2, c2, n3, a3, l3, c3, d3, m3, k3, rfl, (((h1.put n_h1_0_pz 0 _).put n_h1_0_pz 1 _).put n_h1_0_pz 2 _), (((h2.put n_h2_0_pz 0 _).put n_h2_0_pz 1 _).put n_h2_0_pz 2 _), (((h3.put n_h3_0_pz n_h3_1_pz 0 _).put n_h3_0_pz n_h3_1_pz 1 _).put n_h3_0_pz n_h3_1_pz 2 _), (((x_n.put (by omega)).put (by omega)).put (by omega)), (((x_d.put (by omega)).put (by omega)).put (by omega)), (((x_r.put (by omega)).put (by omega)).put (by omega)), y_pz.set, (below_put3 BB (by omega) _ _ _), by have := BU.size; simp only [World.size_setCell]; omega, ⟨gpz, by simp only [World.size_setCell]; omega⟩, o3, u3⟩
        · skip
          go_simp
          refine hK.out _ _ ⟨cell_on ((Below.refl _ _).alloc (Nat.le_refl _) _) hHeld.1, cell_on ((Below.refl _ _).alloc (Nat.le_refl _) _) hHeld.2.1, cell_on ((Below.refl _ _).alloc (Nat.le_refl _) _) hHeld.2.2.1, cell_on ((Below.refl _ _).alloc (Nat.le_refl _) _) hHeld.2.2.2.1, cell_on ((Below.refl _ _).alloc (Nat.le_refl _) _) hHeld.2.2.2.2.1, cell_on ((Below.refl _ _).alloc (Nat.le_refl _) _) hHeld.2.2.2.2.2.1, cell_on ((Below.refl _ _).alloc (Nat.le_refl _) _) hHeld.2.2.2.2.2.2.1, cell_on ((Below.refl _ _).alloc (Nat.le_refl _) _) hHeld.2.2.2.2.2.2.2.1, also hHeld.2.2.2.2.2.2.2.2 ((Below.refl _ _).alloc (Nat.le_refl _) _)⟩ (fun hHeld => ?_)
          clear hK Kc
          have y_pz := b3_new X2 (.bool false) (.slice none 0 0) (.slice none 0 0) 29
          have e5 : Below X2.heap.size X2 (X2.alloc (.cells #[.bool false, .slice none 0 0, .slice none 0 0] 29)) := (Below.refl _ _).alloc (Nat.le_refl _) _
          have lpz : X2.heap.size < (X2.alloc (.cells #[.bool false, .slice none 0 0, .slice none 0 0] 29)).heap.size := by simp
          have gpz : W.heap.size ≤ X2.heap.size := BU.size
          have n_h1_0_pz : NA X2.heap.size a1 l1 := h1.nd.sl.na (Nat.le_refl _)
          have n_h2_0_pz : NA X2.heap.size a2 l2 := h2.nd.sl.na (Nat.le_refl _)
          generalize X2.alloc (.cells #[.bool false, .slice none 0 0, .slice none 0 0] 29) = X5 at y_pz e5 lpz hHeld ⊢
          replace h1 := h1.below e5
          replace h2 := h2.below e5
          replace x_n := x_n.on e5
          replace x_d := x_d.on e5
          replace x_r := x_r.on e5
          replace BB := also BB e5
          replace BU := also BU e5
          generalize X2.heap.size = pz at y_pz lpz gpz n_h1_0_pz n_h2_0_pz ⊢
          refine take_call (i := 4) rfl (by kernel_rfl) (fun Kc hK => ?_)
          go_simp
          (go_at_call 68; refine (qMake n1 n2 a1 a2 l1 l2 c1 c2 X Y _ (h1.wi 8 (by decide) SX.out) (h2.wi 8 (by decide) SY.out) h0.out N D HN.out HD.out).mono ?_; rintro e X6 ⟨n3, a3, l3, c3, d3, m3, k3, rfl, h3, f3, g3, e6⟩)
          refine hK.out _ _ ⟨cell_on e6 hHeld.1, cell_on e6 hHeld.2.1, cell_on e6 hHeld.2.2.1, cell_on e6 hHeld.2.2.2.1, cell_on e6 hHeld.2.2.2.2.1, cell_on e6 hHeld.2.2.2.2.2.1, cell_on e6 hHeld.2.2.2.2.2.2.1, cell_on e6 hHeld.2.2.2.2.2.2.2.1, also hHeld.2.2.2.2.2.2.2.2 e6⟩ (fun hHeld => ?_)
          clear hK Kc
          have n_h3_0_pz : NA pz a3 l3 := f3 pz lpz
          have n_h3_1_pz : NA pz d3 m3 := g3 pz lpz
          have o3 : Far W.heap.size a3 l3 := f3.mono BU.size
          have u3 : Far W.heap.size d3 m3 := g3.mono BU.size
          replace h1 := h1.below e6
          replace h2 := h2.below e6
          replace x_n := x_n.on e6
          replace x_d := x_d.on e6
          replace x_r := x_r.on e6
          replace BB := also BB e6
          replace BU := also BU e6
          replace y_pz := y_pz.on e6
          replace lpz := Nat.lt_of_lt_of_le lpz e6.size
          refine take_yes (i := 5) (v := ?vm5x7) rfl (by kernel_rfl) (by kernel_rfl) (by kernel_rfl) (fun _ _ _ h => by rw [HQQ.out] at h; exact Exit.noConfusion h.1) (by rfl) (by assumption) ?hym5x7 ?restm5x7
          case hym5x7 => (intro w hSw; (try dsimp only at hSw); first | (go_simp; done) | (go_simp; with_reducible rfl))
          simp only [Act.put, List.setIfInBounds_toArray, List.set_cons_zero, List.set_cons_succ]
          refine take_yes (i := 6) (v := ?vm6x8) rfl (by kernel_rfl) (by kernel_rfl) (by kernel_rfl) (fun _ _ _ h => by rw [HQQ.out] at h; exact Exit.noConfusion h.1) (by rfl) (by assumption) ?hym6x8 ?restm6x8
          case hym6x8 => (intro w hSw; (try dsimp only at hSw); first | (go_simp; done) | (go_simp; with_reducible rfl))
          simp only [Act.put, List.setIfInBounds_toArray, List.set_cons_zero, List.set_cons_succ]
          refine take_yes (i := 7) (v := ?vm7x9) rfl (by kernel_rfl) (by kernel_rfl) (by kernel_rfl) (fun _ _ _ h => by rw [HQQ.out] at h; exact Exit.noConfusion h.1) (by rfl) (by assumption) ?hym7x9 ?restm7x9
          case hym7x9 => (intro w hSw; (try dsimp only at hSw); first | (go_simp; done) | (go_simp; with_reducible rfl))
          simp only [Act.put, List.setIfInBounds_toArray, List.set_cons_zero, List.set_cons_succ]
          have ⟨c_pz_0, c_pz_1, c_pz_2, c_pz_3, c_pz_4, c_pz_5⟩ : B3 X6 pz (.bool false) (.slice none 0 0) (.slice none 0 0) := y_pz
          refine take_call (i := 9) rfl (by kernel_rfl) (fun Kc hK => ?_)
          go_simp
          refine hK.out _ _ ⟨cell_put3 hHeld.1 (by omega) _ _ _, cell_put3 hHeld.2.1 (by omega) _ _ _, cell_put3 hHeld.2.2.1 (by omega) _ _ _, cell_put3 hHeld.2.2.2.1 (by omega) _ _ _, cell_put3 hHeld.2.2.2.2.1 (by omega) _ _ _, cell_put3 hHeld.2.2.2.2.2.1 (by omega) _ _ _, cell_put3 hHeld.2.2.2.2.2.2.1 (by omega) _ _ _, cell_put3 hHeld.2.2.2.2.2.2.2.1 (by omega) _ _ _, below_put3 hHeld.2.2.2.2.2.2.2.2 (by omega) _ _ _⟩ (fun hHeld => ?_)
          clear hK Kc
          refine take_yes (i := 10) (v := ?vm10x10) rfl (by kernel_rfl) (by kernel_rfl) (by kernel_rfl) (fun _ _ _ h => by rw [HQQ.out] at h; exact Exit.noConfusion h.1) (by rfl) (by assumption) ?hym10x10 ?restm10x10
          case hym10x10 => (intro w hSw; (try dsimp only at hSw); first | (go_simp; done) | (go_simp; with_reducible rfl))
          simp only [Act.put, List.setIfInBounds_toArray, List.set_cons_zero, List.set_cons_succ]
          refine wpAnyH_done (by kernel_rfl) ?_ _
          rw [HQQ.out]
          exact ⟨rfl, pz, n1, a1, l1, c1, n2, a2, l2, c2, n3, a3, l3, c3, d3, m3, k3, rfl, (((h1.put n_h1_0_pz 0 _).put n_h1_0_pz 1 _).put n_h1_0_pz 2 _), (((h2.put n_h2_0_pz 0 _).put n_h2_0_pz 1 _).put n_h2_0_pz 2 _), (((h3.put n_h3_0_pz n_h3_1_pz 0 _).put n_h3_0_pz n_h3_1_pz 1 _).put n_h3_0_pz n_h3_1_pz 2 _), (((x_n.put (by omega)).put (by omega)).put (by omega)), (((x_d.put (by omega)).put (by omega)).put (by omega)), (((x_r.put (by omega)).put (by omega)).put (by omega)), y_pz.set, (below_put3 BB (by omega) _ _ _), by have := BU.size; simp only [World.size_setCell]; omega, ⟨gpz, by simp only [World.size_setCell]; omega⟩, o3, u3⟩
      · skip
        go_simp
        refine hK.out _ _ ⟨cell_on ((Below.refl _ _).alloc (Nat.le_refl _) _) hHeld.1, cell_on ((Below.refl _ _).alloc (Nat.le_refl _) _) hHeld.2.1, cell_on ((Below.refl _ _).alloc (Nat.le_refl _) _) hHeld.2.2.1, cell_on ((Below.refl _ _).alloc (Nat.le_refl _) _) hHeld.2.2.2.1, cell_on ((Below.refl _ _).alloc (Nat.le_refl _) _) hHeld.2.2.2.2.1, cell_on ((Below.refl _ _).alloc (Nat.le_refl _) _) hHeld.2.2.2.2.2.1, cell_on ((Below.refl _ _).alloc (Nat.le_refl _) _) hHeld.2.2.2.2.2.2.1, cell_on ((Below.refl _ _).alloc (Nat.le_refl _) _) hHeld.2.2.2.2.2.2.2.1, also hHeld.2.2.2.2.2.2.2.2 ((Below.refl _ _).alloc (Nat.le_refl _) _)⟩ (fun hHeld => ?_)
        clear hK Kc
        have y_pz := b3_new X1 (.bool false) (.slice none 0 0) (.slice none 0 0) 29
        have e7 : Below X1.heap.size X1 (X1.alloc (.cells #[.bool false, .slice none 0 0, .slice none 0 0] 29)) := (Below.refl _ _).alloc (Nat.le_refl _) _
        have lpz : X1.heap.size < (X1.alloc (.cells #[.bool false, .slice none 0 0, .slice none 0 0] 29)).heap.size := by simp
        have gpz : W.heap.size ≤ X1.heap.size := BU.size
        have n_h1_0_pz : NA X1.heap.size a1 l1 := h1.nd.sl.na (Nat.le_refl _)
        generalize X1.alloc (.cells #[.bool false, .slice none 0 0, .slice none 0 0] 29) = X7 at y_pz e7 lpz hHeld ⊢
        replace h1 := h1.below e7
        replace x_n := x_n.on e7
        replace x_d := x_d.on e7
        replace x_r := x_r.on e7
        replace BB := also BB e7
        replace BU := also BU e7
        generalize X1.heap.size = pz at y_pz lpz gpz n_h1_0_pz ⊢
        refine take_call (i := 3) rfl (by kernel_rfl) (fun Kc hK => ?_)
        go_simp
        (go_at_call 69; refine (xWhole Y Hy.out RY _).mono ?_; rintro e X8 ⟨n2, a2, l2, c2, rfl, h2, f2, e8⟩)
        refine hK.out _ _ ⟨cell_on e8 hHeld.1, cell_on e8 hHeld.2.1, cell_on e8 hHeld.2.2.1, cell_on e8 hHeld.2.2.2.1, cell_on e8 hHeld.2.2.2.2.1, cell_on e8 hHeld.2.2.2.2.2.1, cell_on e8 hHeld.2.2.2.2.2.2.1, cell_on e8 hHeld.2.2.2.2.2.2.2.1, also hHeld.2.2.2.2.2.2.2.2 e8⟩ (fun hHeld => ?_)
        clear hK Kc
        have n_h2_0_pz : NA pz a2 l2 := f2 pz lpz
        replace h1 := h1.below e8
        replace x_n := x_n.on e8
        replace x_d := x_d.on e8
        replace x_r := x_r.on e8
        replace BB := also BB e8
        replace BU := also BU e8
        replace y_pz := y_pz.on e8
        replace lpz := Nat.lt_of_lt_of_le lpz e8.size
        refine take_call (i := 4) rfl (by kernel_rfl) (fun Kc hK => ?_)
        go_simp
        (go_at_call 68; refine (qMake n1 n2 a1 a2 l1 l2 c1 c2 X Y _ (h1.wi 8 (by decide) SX.out) (h2.wi 8 (by decide) SY.out) h0.out N D HN.out HD.out).mono ?_; rintro e X9 ⟨n3, a3, l3, c3, d3, m3, k3, rfl, h3, f3, g3, e9⟩)
        refine hK.out _ _ ⟨cell_on e9 hHeld.1, cell_on e9 hHeld.2.1, cell_on e9 hHeld.2.2.1, cell_on e9 hHeld.2.2.2.1, cell_on e9 hHeld.2.2.2.2.1, cell_on e9 hHeld.2.2.2.2.2.1, cell_on e9 hHeld.2.2.2.2.2.2.1, cell_on e9 hHeld.2.2.2.2.2.2.2.1, also hHeld.2.2.2.2.2.2.2.2 e9⟩ (fun hHeld => ?_)
        clear hK Kc
        have n_h3_0_pz : NA pz a3 l3 := f3 pz lpz
        have n_h3_1_pz : NA pz d3 m3 := g3 pz lpz
        have o3 : Far W.heap.size a3 l3 := f3.mono BU.size
        have u3 : Far W.heap.size d3 m3 := g3.mono BU.size
        replace h1 := h1.below e9
        replace h2 := h2.below e9
        replace x_n := x_n.on e9
        replace x_d := x_d.on e9
        replace x_r := x_r.on e9
        replace BB := also BB e9
        replace BU := also BU e9
        replace y_pz := y_pz.on e9
        replace lpz := Nat.lt_of_lt_of_le lpz e9.size
        refine take_yes (i := 5) (v := ?vm5x11) rfl (by kernel_rfl) (by kernel_rfl) (by kernel_rfl) (fun _ _ _ h => by rw [HQQ.out] at h; exact Exit.noConfusion h.1) (by rfl) (by assumption) ?hym5x11 ?restm5x11
        case hym5x11 => (intro w hSw; (try dsimp only at hSw); first | (go_simp; done) | (go_simp; with_reducible rfl))
        simp only [Act.put, List.setIfInBounds_toArray, List.set_cons_zero, List.set_cons_succ]
        refine take_yes (i := 6) (v := ?vm6x12) rfl (by kernel_rfl) (by kernel_rfl) (by kernel_rfl) (fun _ _ _ h => by rw [HQQ.out] at h; exact Exit.noConfusion h.1) (by rfl) (by assumption) ?hym6x12 ?restm6x12
        case hym6x12 => (intro w hSw; (try dsimp only at hSw); first | (go_simp; done) | (go_simp; with_reducible rfl))
        simp only [Act.put, List.setIfInBounds_toArray, List.set_cons_zero, List.set_cons_succ]
        refine take_yes (i := 7) (v := ?vm7x13) rfl (by kernel_rfl) (by kernel_rfl) (by kernel_rfl) (fun _ _ _ h => by rw [HQQ.out] at h; exact Exit.noConfusion h.1) (by rfl) (by assumption) ?hym7x13 ?restm7x13
        case hym7x13 => (intro w hSw; (try dsimp only at hSw); first | (go_simp; done) | (go_simp; with_reducible rfl))
        simp only [Act.put, List.setIfInBounds_toArray, List.set_cons_zero, List.set_cons_succ]
        have ⟨c_pz_0, c_pz_1, c_pz_2, c_pz_3, c_pz_4, c_pz_5⟩ : B3 X9 pz (.bool false) (.slice none 0 0) (.slice none 0 0) := y_pz
        refine take_call (i := 9) rfl (by kernel_rfl) (fun Kc hK => ?_)
        go_simp
        refine hK.out _ _ ⟨cell_put3 hHeld.1 (by omega) _ _ _, cell_put3 hHeld.2.1 (by omega) _ _ _, cell_put3 hHeld.2.2.1 (by omega) _ _ _, cell_put3 hHeld.2.2.2.1 (by omega) _ _ _, cell_put3 hHeld.2.2.2.2.1 (by omega) _ _ _, cell_put3 hHeld.2.2.2.2.2.1 (by omega) _ _ _, cell_put3 hHeld.2.2.2.2.2.2.1 (by omega) _ _ _, cell_put3 hHeld.2.2.2.2.2.2.2.1 (by omega) _ _ _, below_put3 hHeld.2.2.2.2.2.2.2.2 (by omega) _ _ _⟩ (fun hHeld => ?_)
        clear hK Kc
        refine take_yes (i := 10) (v := ?vm10x14) rfl (by kernel_rfl) (by kernel_rfl) (by kernel_rfl) (fun _ _ _ h => by rw [HQQ.out] at h; exact Exit.noConfusion h.1) (by rfl) (by assumption) ?hym10x14 ?restm10x14
        case hym10x14 => (intro w hSw; (try dsimp only at hSw); first | (go_simp; done) | (go_simp; with_reducible rfl))
        simp only [Act.put, List.setIfInBounds_toArray, List.set_cons_zero, List.set_cons_succ]
        refine wpAnyH_done (by kernel_rfl) ?_ _
        rw [HQQ.out]
        exact ⟨rfl, pz, n1, a1, l1, c1, n2, a2, l2, c2, n3, a3, l3, c3, d3, m3, k3, rfl, (((h1.put n_h1_0_pz 0 _).put n_h1_0_pz 1 _).put n_h1_0_pz 2 _), (((h2.put n_h2_0_pz 0 _).put n_h2_0_pz 1 _).put n_h2_0_pz 2 _), (((h3.put n_h3_0_pz n_h3_1_pz 0 _).put n_h3_0_pz n_h3_1_pz 1 _).put n_h3_0_pz n_h3_1_pz 2 _), (((x_n.put (by omega)).put (by omega)).put (by omega)), (((x_d.put (by omega)).put (by omega)).put (by omega)), (((x_r.put (by omega)).put (by omega)).put (by omega)), y_pz.set, (below_put3 BB (by omega) _ _ _), by have := BU.size; simp only [World.size_setCell]; omega, ⟨gpz, by simp only [World.size_setCell]; omega⟩, o3, u3⟩
    · skip
      go_simp
      refine hK.out _ _ ⟨cell_on ((Below.refl _ _).alloc (Nat.le_refl _) _) hHeld.1, cell_on ((Below.refl _ _).alloc (Nat.le_refl _) _) hHeld.2.1, cell_on ((Below.refl _ _).alloc (Nat.le_refl _) _) hHeld.2.2.1, cell_on ((Below.refl _ _).alloc (Nat.le_refl _) _) hHeld.2.2.2.1, cell_on ((Below.refl _ _).alloc (Nat.le_refl _) _) hHeld.2.2.2.2.1, cell_on ((Below.refl _ _).alloc (Nat.le_refl _) _) hHeld.2.2.2.2.2.1, cell_on ((Below.refl _ _).alloc (Nat.le_refl _) _) hHeld.2.2.2.2.2.2.1, cell_on ((Below.refl _ _).alloc (Nat.le_refl _) _) hHeld.2.2.2.2.2.2.2.1, also hHeld.2.2.2.2.2.2.2.2 ((Below.refl _ _).alloc (Nat.le_refl _) _)⟩ (fun hHeld => ?_)
      clear hK Kc
      have y_pz := b3_new X0 (.bool false) (.slice none 0 0) (.slice none 0 0) 29
      have e10 : Below X0.heap.size X0 (X0.alloc (.cells #[.bool false, .slice none 0 0, .slice none 0 0] 29)) := (Below.refl _ _).alloc (Nat.le_refl _) _
      have lpz : X0.heap.size < (X0.alloc (.cells #[.bool false, .slice none 0 0, .slice none 0 0] 29)).heap.size := by simp
      have gpz : W.heap.size ≤ X0.heap.size := BU.size
      generalize X0.alloc (.cells #[.bool false, .slice none 0 0, .slice none 0 0] 29) = X10 at y_pz e10 lpz hHeld ⊢
      replace x_n := x_n.on e10
      replace x_d := x_d.on e10
      replace x_r := x_r.on e10
      replace BB := also BB e10
      replace BU := also BU e10
      generalize X0.heap.size = pz at y_pz lpz gpz ⊢
      refine take_call (i := 1) rfl (by kernel_rfl) (fun Kc hK => ?_)
      go_simp
      (go_at_call 69; refine (xWhole X Hx.out RX _).mono ?_; rintro e X11 ⟨n1, a1, l1, c1, rfl, h1, f1, e11⟩)
      refine hK.out _ _ ⟨cell_on e11 hHeld.1, cell_on e11 hHeld.2.1, cell_on e11 hHeld.2.2.1, cell_on e11 hHeld.2.2.2.1, cell_on e11 hHeld.2.2.2.2.1, cell_on e11 hHeld.2.2.2.2.2.1, cell_on e11 hHeld.2.2.2.2.2.2.1, cell_on e11 hHeld.2.2.2.2.2.2.2.1, also hHeld.2.2.2.2.2.2.2.2 e11⟩ (fun hHeld => ?_)
      clear hK Kc
      have n_h1_0_pz : NA pz a1 l1 := f1 pz lpz
      replace x_n := x_n.on e11
      replace x_d := x_d.on e11
      replace x_r := x_r.on e11
      replace BB := also BB e11
      replace BU := also BU e11
      replace y_pz := y_pz.on e11
      replace lpz := Nat.lt_of_lt_of_le lpz e11.size
      refine take_call (i := 3) rfl (by kernel_rfl) (fun Kc hK => ?_)
      go_simp
      (go_at_call 69; refine (xWhole Y Hy.out RY _).mono ?_; rintro e X12 ⟨n2, a2, l2, c2, rfl, h2, f2, e12⟩)
      refine hK.out _ _ ⟨cell_on e12 hHeld.1, cell_on e12 hHeld.2.1, cell_on e12 hHeld.2.2.1, cell_on e12 hHeld.2.2.2.1, cell_on e12 hHeld.2.2.2.2.1, cell_on e12 hHeld.2.2.2.2.2.1, cell_on e12 hHeld.2.2.2.2.2.2.1, cell_on e12 hHeld.2.2.2.2.2.2.2.1, also hHeld.2.2.2.2.2.2.2.2 e12⟩ (fun hHeld => ?_)
      clear hK Kc
      have n_h2_0_pz : NA pz a2 l2 := f2 pz lpz
      replace h1 := h1.below e12
      replace x_n := x_n.on e12
      replace x_d := x_d.on e12
      replace x_r := x_r.on e12
      replace BB := also BB e12
      replace BU := also BU e12
      replace y_pz := y_pz.on e12
      replace lpz := Nat.lt_of_lt_of_le lpz e12.size
      refine take_call (i := 4) rfl (by kernel_rfl) (fun Kc hK => ?_)
      go_simp
      (go_at_call 68; refine (qMake n1 n2 a1 a2 l1 l2 c1 c2 X Y _ (h1.wi 8 (by decide) SX.out) (h2.wi 8 (by decide) SY.out) h0.out N D HN.out HD.out).mono ?_; rintro e X13 ⟨n3, a3, l3, c3, d3, m3, k3, rfl, h3, f3, g3, e13⟩)
      refine hK.out _ _ ⟨cell_on e13 hHeld.1, cell_on e13 hHeld.2.1, cell_on e13 hHeld.2.2.1, cell_on e13 hHeld.2.2.2.1, cell_on e13 hHeld.2.2.2.2.1, cell_on e13 hHeld.2.2.2.2.2.1, cell_on e13 hHeld.2.2.2.2.2.2.1, cell_on e13 hHeld.2.2.2.2.2.2.2.1, also hHeld.2.2.2.2.2.2.2.2 e13⟩ (fun hHeld => ?_)
      clear hK Kc
      have n_h3_0_pz : NA pz a3 l3 := f3 pz lpz
      have n_h3_1_pz : NA pz d3 m3 := g3 pz lpz
      have o3 : Far W.heap.size a3 l3 := f3.mono BU.size
      have u3 : Far W.heap.size d3 m3 := g3.mono BU.size
      replace h1 := h1.below e13
      replace h2 := h2.below e13
      replace x_n := x_n.on e13
      replace x_d := x_d.on e13
      replace x_r := x_r.on e13
      replace BB := also BB e13
      replace BU := also BU e13
      replace y_pz := y_pz.on e13
      replace lpz := Nat.lt_of_lt_of_le lpz e13.size
      refine take_yes (i := 5) (v := ?vm5x15) rfl (by kernel_rfl) (by kernel_rfl) (by kernel_rfl) (fun _ _ _ h => by rw [HQQ.out] at h; exact Exit.noConfusion h.1) (by rfl) (by assumption) ?hym5x15 ?restm5x15
      case hym5x15 => (intro w hSw; (try dsimp only at hSw); first | (go_simp; done) | (go_simp; with_reducible rfl))
      simp only [Act.put, List.setIfInBounds_toArray, List.set_cons_zero, List.set_cons_succ]
      refine take_yes (i := 6) (v := ?vm6x16) rfl (by kernel_rfl) (by kernel_rfl) (by kernel_rfl) (fun _ _ _ h => by rw [HQQ.out] at h; exact Exit.noConfusion h.1) (by rfl) (by assumption) ?hym6x16 ?restm6x16
      case hym6x16 => (intro w hSw; (try dsimp only at hSw); first | (go_simp; done) | (go_simp; with_reducible rfl))
      simp only [Act.put, List.setIfInBounds_toArray, List.set_cons_zero, List.set_cons_succ]
      refine take_yes (i := 7) (v := ?vm7x17) rfl (by kernel_rfl) (by kernel_rfl) (by kernel_rfl) (fun _ _ _ h => by rw [HQQ.out] at h; exact Exit.noConfusion h.1) (by rfl) (by assumption) ?hym7x17 ?restm7x17
      case hym7x17 => (intro w hSw; (try dsimp only at hSw); first | (go_simp; done) | (go_simp; with_reducible rfl))
      simp only [Act.put, List.setIfInBounds_toArray, List.set_cons_zero, List.set_cons_succ]
      have ⟨c_pz_0, c_pz_1, c_pz_2, c_pz_3, c_pz_4, c_pz_5⟩ : B3 X13 pz (.bool false) (.slice none 0 0) (.slice none 0 0) := y_pz
      refine take_call (i := 9) rfl (by kernel_rfl) (fun Kc hK => ?_)
      go_simp
      refine hK.out _ _ ⟨cell_put3 hHeld.1 (by omega) _ _ _, cell_put3 hHeld.2.1 (by omega) _ _ _, cell_put3 hHeld.2.2.1 (by omega) _ _ _, cell_put3 hHeld.2.2.2.1 (by omega) _ _ _, cell_put3 hHeld.2.2.2.2.1 (by omega) _ _ _, cell_put3 hHeld.2.2.2.2.2.1 (by omega) _ _ _, cell_put3 hHeld.2.2.2.2.2.2.1 (by omega) _ _ _, cell_put3 hHeld.2.2.2.2.2.2.2.1 (by omega) _ _ _, below_put3 hHeld.2.2.2.2.2.2.2.2 (by omega) _ _ _⟩ (fun hHeld => ?_)
      clear hK Kc
      refine take_yes (i := 10) (v := ?vm10x18) rfl (by kernel_rfl) (by kernel_rfl) (by kernel_rfl) (fun _ _ _ h => by rw [HQQ.out] at h; exact Exit.noConfusion h.1) (by rfl) (by assumption) ?hym10x18 ?restm10x18
      case hym10x18 => (intro w hSw; (try dsimp only at hSw); first | (go_simp; done) | (go_simp; with_reducible rfl))
      simp only [Act.put, List.setIfInBounds_toArray, List.set_cons_zero, List.set_cons_succ]
      refine wpAnyH_done (by kernel_rfl) ?_ _
      rw [HQQ.out]
      exact ⟨rfl, pz, n1, a1, l1, c1, n2, a2, l2, c2, n3, a3, l3, c3, d3, m3, k3, rfl, (((h1.put n_h1_0_pz 0 _).put n_h1_0_pz 1 _).put n_h1_0_pz 2 _), (((h2.put n_h2_0_pz 0 _).put n_h2_0_pz 1 _).put n_h2_0_pz 2 _), (((h3.put n_h3_0_pz n_h3_1_pz 0 _).put n_h3_0_pz n_h3_1_pz 1 _).put n_h3_0_pz n_h3_1_pz 2 _), (((x_n.put (by omega)).put (by omega)).put (by omega)), (((x_d.put (by omega)).put (by omega)).put (by omega)), (((x_r.put (by omega)).put (by omega)).put (by omega)), y_pz.set, (below_put3 BB (by omega) _ _ _), by have := BU.size; simp only [World.size_setCell]; omega, ⟨gpz, by simp only [World.size_setCell]; omega⟩, o3, u3⟩
  rw [HQQ.out]
  rintro e act Y1 ⟨rfl, pz, n1, a1, l1, c1, n2, a2, l2, c2, n3, a3, l3, c3, d3, m3, k3, rfl, h1, h2, h3, x_n, x_d, x_r, x_z, BB, z_Y1, z_Y1_pz, o3, u3⟩
  clear HQQ QQ
  try dsimp only
  have ⟨x_z_0, x_z_1, x_z_2, x_z_3, x_z_4, x_z_5⟩ := x_z
  have ⟨x_r_0, x_r_1, x_r_2, x_r_3, x_r_4, x_r_5⟩ := x_r
  go_wp2
  exact bodyPost_ret (v := .agg #[.bool n3, .slice a3 l3 c3, .slice d3 m3 k3]) (by simp [results, Tryz.results32, go_sem, *]) rfl (endQ _ (by omega) BB h3 (o3.mono (by omega)) (u3.mono (by omega)) _ _ _)
end Go.Proofs.YtcaihoomcdbfnaaGreat

namespace Go.Proofs.YtcaihoomcdbfnaaGreat
open Go.RowKit
set_option linter.unusedVariables false

/-- How much a corner counts: of its side across, squared, and the two others. -/
def wgt (p q r : Int) : Int := p * (q + r - p)
/-- The mean of three numbers by the weights of the sides p, q, r: its upper part, and its lower part. -/
def meanN (x y z p q r : Int) : Int := x * wgt p q r + y * wgt q r p + z * wgt r p q
def meanD (p q r : Int) : Int := wgt p q r + wgt q r p + wgt r p q
/-- The center less a, times twice the area twice: of u v = b - a and x y = c - a. -/
def offX (u v x y : Int) : Int := y * (u * u + v * v) - v * (x * x + y * y)
def offY (u v x y : Int) : Int := u * (x * x + y * y) - x * (u * u + v * v)
theorem wgt_sum (u v x y : Int) : meanD ((x - u) * (x - u) + (y - v) * (y - v)) (x * x + y * y) (u * u + v * v) = 4 * ((u * y - v * x) * (u * y - v * x)) := by unfold meanD wgt; grind
theorem wgt_x (u v x y : Int) : u * wgt (x * x + y * y) (u * u + v * v) ((x - u) * (x - u) + (y - v) * (y - v)) + x * wgt (u * u + v * v) ((x - u) * (x - u) + (y - v) * (y - v)) (x * x + y * y) = 2 * (u * y - v * x) * offX u v x y := by unfold wgt offX; grind
theorem wgt_y (u v x y : Int) : v * wgt (x * x + y * y) (u * u + v * v) ((x - u) * (x - u) + (y - v) * (y - v)) + y * wgt (u * u + v * v) ((x - u) * (x - u) + (y - v) * (y - v)) (x * x + y * y) = 2 * (u * y - v * x) * offY u v x y := by unfold wgt offY; grind
/-- How far the center is from a, b and c, squared, is the three sides' product over twice the area twice, squared. -/
theorem far_a (u v x y : Int) : offX u v x y * offX u v x y + offY u v x y * offY u v x y = (u * u + v * v) * (x * x + y * y) * ((x - u) * (x - u) + (y - v) * (y - v)) := by unfold offX offY; grind
/-- The center's numbers over twice the area twice. -/
def cenX (a1 a2 b1 b2 c1 c2 : Int) : Int := 2 * areaP a1 a2 b1 b2 c1 c2 * a1 + offX (b1 - a1) (b2 - a2) (c1 - a1) (c2 - a2)
def cenY (a1 a2 b1 b2 c1 c2 : Int) : Int := 2 * areaP a1 a2 b1 b2 c1 c2 * a2 + offY (b1 - a1) (b2 - a2) (c1 - a1) (c2 - a2)
def rad2 (a1 a2 b1 b2 c1 c2 : Int) : Int := distP a1 a2 b1 b2 * distP c1 c2 a1 a2 * distP b1 b2 c1 c2
theorem sides (a1 a2 b1 b2 c1 c2 : Int) : distP b1 b2 c1 c2 = ((c1 - a1) - (b1 - a1)) * ((c1 - a1) - (b1 - a1)) + ((c2 - a2) - (b2 - a2)) * ((c2 - a2) - (b2 - a2)) ∧ distP c1 c2 a1 a2 = (c1 - a1) * (c1 - a1) + (c2 - a2) * (c2 - a2) ∧ distP a1 a2 b1 b2 = (b1 - a1) * (b1 - a1) + (b2 - a2) * (b2 - a2) ∧ areaP a1 a2 b1 b2 c1 c2 = (b1 - a1) * (c2 - a2) - (b2 - a2) * (c1 - a1) := by
  unfold distP areaP
  exact ⟨by grind, by grind, rfl, rfl⟩
theorem mean_d (a1 a2 b1 b2 c1 c2 : Int) : meanD (distP b1 b2 c1 c2) (distP c1 c2 a1 a2) (distP a1 a2 b1 b2) = 2 * areaP a1 a2 b1 b2 c1 c2 * (2 * areaP a1 a2 b1 b2 c1 c2) := by
  obtain ⟨e1, e2, e3, e4⟩ := sides a1 a2 b1 b2 c1 c2
  rw [e1, e2, e3, e4, wgt_sum]
  generalize (b1 - a1) * (c2 - a2) - (b2 - a2) * (c1 - a1) = A
  grind
theorem mean_pos {a1 a2 b1 b2 c1 c2 : Int} (h : areaP a1 a2 b1 b2 c1 c2 ≠ 0) : 0 < meanD (distP b1 b2 c1 c2) (distP c1 c2 a1 a2) (distP a1 a2 b1 b2) := by
  rw [mean_d]
  rcases Int.lt_trichotomy (areaP a1 a2 b1 b2 c1 c2) 0 with k | k | k
  · exact Int.mul_pos_of_neg_of_neg (by omega) (by omega)
  · exact absurd k h
  · exact Int.mul_pos (by omega) (by omega)
theorem mean_split (a x y p q r : Int) (z : Int) : meanN a (a + x) (a + y) p q r = a * meanD p q r + (x * wgt q r p + y * wgt r p q) := by unfold meanN meanD; grind
theorem mean_x (a1 a2 b1 b2 c1 c2 : Int) : meanN a1 b1 c1 (distP b1 b2 c1 c2) (distP c1 c2 a1 a2) (distP a1 a2 b1 b2) = 2 * areaP a1 a2 b1 b2 c1 c2 * cenX a1 a2 b1 b2 c1 c2 := by
  have hb : b1 = a1 + (b1 - a1) := by omega
  have hc : c1 = a1 + (c1 - a1) := by omega
  have h := mean_split a1 (b1 - a1) (c1 - a1) (distP b1 b2 c1 c2) (distP c1 c2 a1 a2) (distP a1 a2 b1 b2) 0
  rw [← hb, ← hc] at h
  rw [h, mean_d]
  unfold cenX
  obtain ⟨e1, e2, e3, e4⟩ := sides a1 a2 b1 b2 c1 c2
  rw [e1, e2, e3, e4, wgt_x]
  generalize offX (b1 - a1) (b2 - a2) (c1 - a1) (c2 - a2) = X
  generalize (b1 - a1) * (c2 - a2) - (b2 - a2) * (c1 - a1) = A
  grind
theorem mean_y (a1 a2 b1 b2 c1 c2 : Int) : meanN a2 b2 c2 (distP b1 b2 c1 c2) (distP c1 c2 a1 a2) (distP a1 a2 b1 b2) = 2 * areaP a1 a2 b1 b2 c1 c2 * cenY a1 a2 b1 b2 c1 c2 := by
  have hb : b2 = a2 + (b2 - a2) := by omega
  have hc : c2 = a2 + (c2 - a2) := by omega
  have h := mean_split a2 (b2 - a2) (c2 - a2) (distP b1 b2 c1 c2) (distP c1 c2 a1 a2) (distP a1 a2 b1 b2) 0
  rw [← hb, ← hc] at h
  rw [h, mean_d]
  unfold cenY
  obtain ⟨e1, e2, e3, e4⟩ := sides a1 a2 b1 b2 c1 c2
  rw [e1, e2, e3, e4, wgt_y]
  generalize offY (b1 - a1) (b2 - a2) (c1 - a1) (c2 - a2) = X
  generalize (b1 - a1) * (c2 - a2) - (b2 - a2) * (c1 - a1) = A
  grind
end Go.Proofs.YtcaihoomcdbfnaaGreat

namespace Go.Proofs.YtcaihoomcdbfnaaGreat
open Go.RowKit
set_option linter.unusedVariables false

abbrev Pt := Int × Int
/-- p stands ahead of q. -/
def ltQ (p q : Pt) : Bool := decide (p.1 < q.1 ∨ (p.1 = q.1 ∧ p.2 < q.2))
theorem lt_iff {p q : Pt} : ltQ p q = true ↔ (p.1 < q.1 ∨ (p.1 = q.1 ∧ p.2 < q.2)) := by unfold ltQ; exact decide_eq_true_iff
theorem lt_trans {p q r : Pt} (h : ltQ p q = true) (k : ltQ q r = true) : ltQ p r = true := by
  rw [lt_iff] at *
  omega
end Go.Proofs.YtcaihoomcdbfnaaGreat

namespace Go.Proofs.YtcaihoomcdbfnaaGreat
open Go.RowKit
set_option linter.unusedVariables false

/-- A point of 64 bits. -/
def R2 (p : Pt) : Prop := R64 p.1 ∧ R64 p.2
theorem r2x {x y : Int} (h : R2 (x, y)) : -9223372036854775808 ≤ x ∧ x ≤ 9223372036854775807 := h.1
theorem r2y {x y : Int} (h : R2 (x, y)) : -9223372036854775808 ≤ y ∧ y ≤ 9223372036854775807 := h.2
end Go.Proofs.YtcaihoomcdbfnaaGreat

namespace Go.Proofs.YtcaihoomcdbfnaaGreat
open Go.RowKit
set_option linter.unusedVariables false

def nearP (a1 a2 b1 b2 : Int) : Bool := decide (-8192 < b1 - a1 ∧ b1 - a1 < 8192 ∧ -8192 < b2 - a2 ∧ b2 - a2 < 8192)
theorem near_abs {a1 a2 b1 b2 : Int} (h : nearP a1 a2 b1 b2 = true) : (b1 - a1).natAbs ≤ 8191 ∧ (b2 - a2).natAbs ≤ 8191 := by
  have := of_decide_eq_true h
  omega
theorem rpSign (n : Int) (w : World) {g : Int} (hg : g = n.sign) : Calls Tryz.prog 59 #[.int .i64 n] w fun e w' => e = .returned (.int .i64 g) ∧ Below w.heap.size w w' := by
  rcases Int.lt_trichotomy n 0 with h | h | h
  · obtain rfl : g = -1 := by rw [hg, Int.sign_eq_neg_one_of_neg h]
    clear hg
    go_enter Tryz.func59, Tryz.ntmps59
    go_wp2
    go_ret
    exact ⟨rfl, Below.refl _ _⟩
  · subst h
    obtain rfl : g = 0 := hg
    go_enter Tryz.func59, Tryz.ntmps59
    go_wp2
    go_ret
    exact ⟨rfl, Below.refl _ _⟩
  · obtain rfl : g = 1 := by rw [hg, Int.sign_eq_one_of_pos h]
    clear hg
    have h' : ¬ n < 0 := by omega
    go_enter Tryz.func59, Tryz.ntmps59
    go_wp2
    go_ret
    exact ⟨rfl, Below.refl _ _⟩
set_option maxRecDepth 100000 in
set_option maxHeartbeats 4000000 in
theorem rpNear (a1 a2 b1 b2 : Int) (w : World) (ha : canC a1 a2 = true) (hb : canC b1 b2 = true) {r : Bool} (hr : r = nearP a1 a2 b1 b2) :
    Calls Tryz.prog 58 #[.agg #[.int .i64 a1, .int .i64 a2], .agg #[.int .i64 b1, .int .i64 b2]] w fun e w' => e = .returned (.bool r) ∧ Below w.heap.size w w' := by
  obtain ⟨x, hx⟩ : ∃ x, x = b1 - a1 := ⟨_, rfl⟩
  have c_x := can_sub (canC_true.1 hb).1 (canC_true.1 ha).1
  rw [← hx] at c_x
  have w_x : wrap64 (b1 - a1) = x := by rw [← hx]; exact c_x.1
  have v_x : IntKind.i64.wrap (b1 - a1) = x := (wrap_i64 _).trans w_x
  have R_x : Hid _ := c_x.2
  have E_x : Hid _ := hx
  clear c_x hx
  obtain ⟨y, hy⟩ : ∃ y, y = b2 - a2 := ⟨_, rfl⟩
  have c_y := can_sub (canC_true.1 hb).2 (canC_true.1 ha).2
  rw [← hy] at c_y
  have w_y : wrap64 (b2 - a2) = y := by rw [← hy]; exact c_y.1
  have v_y : IntKind.i64.wrap (b2 - a2) = y := (wrap_i64 _).trans w_y
  have R_y : Hid _ := c_y.2
  have E_y : Hid _ := hy
  clear c_y hy
  have HR : Hid (r = decide (-8192 < x ∧ x < 8192 ∧ -8192 < y ∧ y < 8192)) := by unfold Hid; rw [hr, E_x.out, E_y.out]; rfl
  clear hr ha hb
  rcases Decidable.em (-8192 < x) with k0 | k0
  rotate_left
  · skip
    obtain rfl : r = false := by rw [HR.out]; simp; omega
    have k' : decide (-8192 < x) = false := decide_eq_false k0
    obtain ⟨W, hW, bW, x_a, x_b, sW⟩ := bs_22 w (.int .i64 a1) (.int .i64 a2) (.int .i64 b1) (.int .i64 b2) 23 23
    have zbW := bW.size
    have BB := bW
    go_enter Tryz.func58, Tryz.ntmps58
    go_wp2
    rw [← hW]
    clear hW
    have dd1 : Below W.heap.size W W.drew := (Below.refl _ _).drew
    have zdd1 := dd1.size
    replace BB := also BB dd1
    replace x_a := x_a.on dd1
    replace x_b := x_b.on dd1
    refine wp_region_held_drew (S := (fun w' => w'.cell? ⟨w.heap.size, 0, none⟩ = some (.int .i64 a1) ∧ w'.cell? ⟨w.heap.size, 1, none⟩ = some (.int .i64 a2) ∧ w'.cell? ⟨w.heap.size + 1, 0, none⟩ = some (.int .i64 b1) ∧ w'.cell? ⟨w.heap.size + 1, 1, none⟩ = some (.int .i64 b2) ∧ Below w.heap.size w w')) (by kernel_rfl) ?_ (fun hHeld => ?_)
    · exact ⟨x_a.c0, x_a.c1, x_b.c0, x_b.c1, BB⟩
    refine take_yes (i := 0) (v := ?vsa0) rfl (by kernel_rfl) (by kernel_rfl) (by kernel_rfl) (fun _ _ _ h => h) (by rfl) (by assumption) ?hysa0 ?restsa0
    case hysa0 => (intro w hSw; (try dsimp only at hSw); first | (go_simp; done) | (go_simp; with_reducible rfl))
    simp only [Act.put, List.setIfInBounds_toArray, List.set_cons_zero, List.set_cons_succ]
    refine take_yes (i := 1) (v := ?vsa1) rfl (by kernel_rfl) (by kernel_rfl) (by kernel_rfl) (fun _ _ _ h => h) (by rfl) (by assumption) ?hysa1 ?restsa1
    case hysa1 => (intro w hSw; (try dsimp only at hSw); first | (go_simp; done) | (go_simp; with_reducible rfl))
    simp only [Act.put, List.setIfInBounds_toArray, List.set_cons_zero, List.set_cons_succ]
    refine take_yes (i := 2) (v := ?vsa2) rfl (by kernel_rfl) (by kernel_rfl) (by kernel_rfl) (fun _ _ _ h => h) (by rfl) (by assumption) ?hysa2 ?restsa2
    case hysa2 => (intro w hSw; (try dsimp only at hSw); first | (go_simp; done) | (go_simp; with_reducible rfl))
    simp only [Act.put, List.setIfInBounds_toArray, List.set_cons_zero, List.set_cons_succ]
    refine take_yes (i := 3) (v := ?vsa3) rfl (by kernel_rfl) (by kernel_rfl) (by kernel_rfl) (fun _ _ _ h => h) (by rfl) (by assumption) ?hysa3 ?restsa3
    case hysa3 => (intro w hSw; (try dsimp only at hSw); first | (go_simp; done) | (go_simp; with_reducible rfl))
    simp only [Act.put, List.setIfInBounds_toArray, List.set_cons_zero, List.set_cons_succ]
    refine take_yes (i := 4) (v := ?vsa4) rfl (by kernel_rfl) (by kernel_rfl) (by kernel_rfl) (fun _ _ _ h => h) (by rfl) (by assumption) ?hysa4 ?restsa4
    case hysa4 => (intro w hSw; (try dsimp only at hSw); first | (go_simp; done) | (go_simp; with_reducible rfl))
    simp only [Act.put, List.setIfInBounds_toArray, List.set_cons_zero, List.set_cons_succ]
    refine take_yes (i := 5) (v := ?vsa5) rfl (by kernel_rfl) (by kernel_rfl) (by kernel_rfl) (fun _ _ _ h => h) (by rfl) (by assumption) ?hysa5 ?restsa5
    case hysa5 => (intro w hSw; (try dsimp only at hSw); first | (go_simp; done) | (go_simp; with_reducible rfl))
    simp only [Act.put, List.setIfInBounds_toArray, List.set_cons_zero, List.set_cons_succ]
    refine take_yes (i := 6) (v := ?vsa6) rfl (by kernel_rfl) (by kernel_rfl) (by kernel_rfl) (fun _ _ _ h => h) (by rfl) (by assumption) ?hysa6 ?restsa6
    case hysa6 => (intro w hSw; (try dsimp only at hSw); first | (go_simp; done) | (go_simp; with_reducible rfl))
    simp only [Act.put, List.setIfInBounds_toArray, List.set_cons_zero, List.set_cons_succ]
    refine take_yes (i := 7) (v := ?vsa7) rfl (by kernel_rfl) (by kernel_rfl) (by kernel_rfl) (fun _ _ _ h => h) (by rfl) (by assumption) ?hysa7 ?restsa7
    case hysa7 => (intro w hSw; (try dsimp only at hSw); first | (go_simp; done) | (go_simp; with_reducible rfl))
    simp only [Act.put, List.setIfInBounds_toArray, List.set_cons_zero, List.set_cons_succ]
    refine take_yes (i := 8) (v := ?vsa8) rfl (by kernel_rfl) (by kernel_rfl) (by kernel_rfl) (fun _ _ _ h => h) (by rfl) (by assumption) ?hysa8 ?restsa8
    case hysa8 => (intro w hSw; (try dsimp only at hSw); first | (go_simp; done) | (go_simp; with_reducible rfl))
    simp only [Act.put, List.setIfInBounds_toArray, List.set_cons_zero, List.set_cons_succ]
    refine take_yes (i := 9) (v := ?vsa9) rfl (by kernel_rfl) (by kernel_rfl) (by kernel_rfl) (fun _ _ _ h => h) (by rfl) (by assumption) ?hysa9 ?restsa9
    case hysa9 => (intro w hSw; (try dsimp only at hSw); first | (go_simp; done) | (go_simp; with_reducible rfl))
    simp only [Act.put, List.setIfInBounds_toArray, List.set_cons_zero, List.set_cons_succ]
    refine take_yes (i := 10) (v := ?vsa10) rfl (by kernel_rfl) (by kernel_rfl) (by kernel_rfl) (fun _ _ _ h => h) (by rfl) (by assumption) ?hysa10 ?restsa10
    case hysa10 => (intro w hSw; (try dsimp only at hSw); first | (go_simp; done) | (go_simp; with_reducible rfl))
    simp only [Act.put, List.setIfInBounds_toArray, List.set_cons_zero, List.set_cons_succ]
    refine take_yes (i := 11) (v := ?vsa11) rfl (by kernel_rfl) (by kernel_rfl) (by kernel_rfl) (fun _ _ _ h => h) (by rfl) (by assumption) ?hysa11 ?restsa11
    case hysa11 => (intro w hSw; (try dsimp only at hSw); first | (go_simp; done) | (go_simp; with_reducible rfl))
    simp only [Act.put, List.setIfInBounds_toArray, List.set_cons_zero, List.set_cons_succ]
    refine wpAnyH_done (by kernel_rfl) ?_ _
    go_wp2
    go_ret
    exact ⟨rfl, BB⟩
  rcases Decidable.em (x < 8192) with k1 | k1
  rotate_left
  · skip
    obtain rfl : r = false := by rw [HR.out]; simp; omega
    have k' : decide (x < 8192) = false := decide_eq_false k1
    obtain ⟨W, hW, bW, x_a, x_b, sW⟩ := bs_22 w (.int .i64 a1) (.int .i64 a2) (.int .i64 b1) (.int .i64 b2) 23 23
    have zbW := bW.size
    have BB := bW
    go_enter Tryz.func58, Tryz.ntmps58
    go_wp2
    rw [← hW]
    clear hW
    have dd1 : Below W.heap.size W W.drew := (Below.refl _ _).drew
    have zdd1 := dd1.size
    replace BB := also BB dd1
    replace x_a := x_a.on dd1
    replace x_b := x_b.on dd1
    refine wp_region_held_drew (S := (fun w' => w'.cell? ⟨w.heap.size, 0, none⟩ = some (.int .i64 a1) ∧ w'.cell? ⟨w.heap.size, 1, none⟩ = some (.int .i64 a2) ∧ w'.cell? ⟨w.heap.size + 1, 0, none⟩ = some (.int .i64 b1) ∧ w'.cell? ⟨w.heap.size + 1, 1, none⟩ = some (.int .i64 b2) ∧ Below w.heap.size w w')) (by kernel_rfl) ?_ (fun hHeld => ?_)
    · exact ⟨x_a.c0, x_a.c1, x_b.c0, x_b.c1, BB⟩
    refine take_yes (i := 0) (v := ?vsb0) rfl (by kernel_rfl) (by kernel_rfl) (by kernel_rfl) (fun _ _ _ h => h) (by rfl) (by assumption) ?hysb0 ?restsb0
    case hysb0 => (intro w hSw; (try dsimp only at hSw); first | (go_simp; done) | (go_simp; with_reducible rfl))
    simp only [Act.put, List.setIfInBounds_toArray, List.set_cons_zero, List.set_cons_succ]
    refine take_yes (i := 1) (v := ?vsb1) rfl (by kernel_rfl) (by kernel_rfl) (by kernel_rfl) (fun _ _ _ h => h) (by rfl) (by assumption) ?hysb1 ?restsb1
    case hysb1 => (intro w hSw; (try dsimp only at hSw); first | (go_simp; done) | (go_simp; with_reducible rfl))
    simp only [Act.put, List.setIfInBounds_toArray, List.set_cons_zero, List.set_cons_succ]
    refine take_yes (i := 2) (v := ?vsb2) rfl (by kernel_rfl) (by kernel_rfl) (by kernel_rfl) (fun _ _ _ h => h) (by rfl) (by assumption) ?hysb2 ?restsb2
    case hysb2 => (intro w hSw; (try dsimp only at hSw); first | (go_simp; done) | (go_simp; with_reducible rfl))
    simp only [Act.put, List.setIfInBounds_toArray, List.set_cons_zero, List.set_cons_succ]
    refine take_yes (i := 3) (v := ?vsb3) rfl (by kernel_rfl) (by kernel_rfl) (by kernel_rfl) (fun _ _ _ h => h) (by rfl) (by assumption) ?hysb3 ?restsb3
    case hysb3 => (intro w hSw; (try dsimp only at hSw); first | (go_simp; done) | (go_simp; with_reducible rfl))
    simp only [Act.put, List.setIfInBounds_toArray, List.set_cons_zero, List.set_cons_succ]
    refine take_yes (i := 4) (v := ?vsb4) rfl (by kernel_rfl) (by kernel_rfl) (by kernel_rfl) (fun _ _ _ h => h) (by rfl) (by assumption) ?hysb4 ?restsb4
    case hysb4 => (intro w hSw; (try dsimp only at hSw); first | (go_simp; done) | (go_simp; with_reducible rfl))
    simp only [Act.put, List.setIfInBounds_toArray, List.set_cons_zero, List.set_cons_succ]
    refine take_yes (i := 5) (v := ?vsb5) rfl (by kernel_rfl) (by kernel_rfl) (by kernel_rfl) (fun _ _ _ h => h) (by rfl) (by assumption) ?hysb5 ?restsb5
    case hysb5 => (intro w hSw; (try dsimp only at hSw); first | (go_simp; done) | (go_simp; with_reducible rfl))
    simp only [Act.put, List.setIfInBounds_toArray, List.set_cons_zero, List.set_cons_succ]
    refine take_yes (i := 6) (v := ?vsb6) rfl (by kernel_rfl) (by kernel_rfl) (by kernel_rfl) (fun _ _ _ h => h) (by rfl) (by assumption) ?hysb6 ?restsb6
    case hysb6 => (intro w hSw; (try dsimp only at hSw); first | (go_simp; done) | (go_simp; with_reducible rfl))
    simp only [Act.put, List.setIfInBounds_toArray, List.set_cons_zero, List.set_cons_succ]
    refine take_yes (i := 7) (v := ?vsb7) rfl (by kernel_rfl) (by kernel_rfl) (by kernel_rfl) (fun _ _ _ h => h) (by rfl) (by assumption) ?hysb7 ?restsb7
    case hysb7 => (intro w hSw; (try dsimp only at hSw); first | (go_simp; done) | (go_simp; with_reducible rfl))
    simp only [Act.put, List.setIfInBounds_toArray, List.set_cons_zero, List.set_cons_succ]
    refine take_yes (i := 8) (v := ?vsb8) rfl (by kernel_rfl) (by kernel_rfl) (by kernel_rfl) (fun _ _ _ h => h) (by rfl) (by assumption) ?hysb8 ?restsb8
    case hysb8 => (intro w hSw; (try dsimp only at hSw); first | (go_simp; done) | (go_simp; with_reducible rfl))
    simp only [Act.put, List.setIfInBounds_toArray, List.set_cons_zero, List.set_cons_succ]
    refine take_yes (i := 9) (v := ?vsb9) rfl (by kernel_rfl) (by kernel_rfl) (by kernel_rfl) (fun _ _ _ h => h) (by rfl) (by assumption) ?hysb9 ?restsb9
    case hysb9 => (intro w hSw; (try dsimp only at hSw); first | (go_simp; done) | (go_simp; with_reducible rfl))
    simp only [Act.put, List.setIfInBounds_toArray, List.set_cons_zero, List.set_cons_succ]
    refine take_yes (i := 10) (v := ?vsb10) rfl (by kernel_rfl) (by kernel_rfl) (by kernel_rfl) (fun _ _ _ h => h) (by rfl) (by assumption) ?hysb10 ?restsb10
    case hysb10 => (intro w hSw; (try dsimp only at hSw); first | (go_simp; done) | (go_simp; with_reducible rfl))
    simp only [Act.put, List.setIfInBounds_toArray, List.set_cons_zero, List.set_cons_succ]
    refine take_yes (i := 11) (v := ?vsb11) rfl (by kernel_rfl) (by kernel_rfl) (by kernel_rfl) (fun _ _ _ h => h) (by rfl) (by assumption) ?hysb11 ?restsb11
    case hysb11 => (intro w hSw; (try dsimp only at hSw); first | (go_simp; done) | (go_simp; with_reducible rfl))
    simp only [Act.put, List.setIfInBounds_toArray, List.set_cons_zero, List.set_cons_succ]
    refine wpAnyH_done (by kernel_rfl) ?_ _
    go_wp2
    go_ret
    exact ⟨rfl, BB⟩
  rcases Decidable.em (-8192 < y) with k2 | k2
  rotate_left
  · skip
    obtain rfl : r = false := by rw [HR.out]; simp; omega
    have k' : decide (-8192 < y) = false := decide_eq_false k2
    obtain ⟨W, hW, bW, x_a, x_b, sW⟩ := bs_22 w (.int .i64 a1) (.int .i64 a2) (.int .i64 b1) (.int .i64 b2) 23 23
    have zbW := bW.size
    have BB := bW
    go_enter Tryz.func58, Tryz.ntmps58
    go_wp2
    rw [← hW]
    clear hW
    have dd1 : Below W.heap.size W W.drew := (Below.refl _ _).drew
    have zdd1 := dd1.size
    replace BB := also BB dd1
    replace x_a := x_a.on dd1
    replace x_b := x_b.on dd1
    refine wp_region_held_drew (S := (fun w' => w'.cell? ⟨w.heap.size, 0, none⟩ = some (.int .i64 a1) ∧ w'.cell? ⟨w.heap.size, 1, none⟩ = some (.int .i64 a2) ∧ w'.cell? ⟨w.heap.size + 1, 0, none⟩ = some (.int .i64 b1) ∧ w'.cell? ⟨w.heap.size + 1, 1, none⟩ = some (.int .i64 b2) ∧ Below w.heap.size w w')) (by kernel_rfl) ?_ (fun hHeld => ?_)
    · exact ⟨x_a.c0, x_a.c1, x_b.c0, x_b.c1, BB⟩
    refine take_yes (i := 0) (v := ?vsc0) rfl (by kernel_rfl) (by kernel_rfl) (by kernel_rfl) (fun _ _ _ h => h) (by rfl) (by assumption) ?hysc0 ?restsc0
    case hysc0 => (intro w hSw; (try dsimp only at hSw); first | (go_simp; done) | (go_simp; with_reducible rfl))
    simp only [Act.put, List.setIfInBounds_toArray, List.set_cons_zero, List.set_cons_succ]
    refine take_yes (i := 1) (v := ?vsc1) rfl (by kernel_rfl) (by kernel_rfl) (by kernel_rfl) (fun _ _ _ h => h) (by rfl) (by assumption) ?hysc1 ?restsc1
    case hysc1 => (intro w hSw; (try dsimp only at hSw); first | (go_simp; done) | (go_simp; with_reducible rfl))
    simp only [Act.put, List.setIfInBounds_toArray, List.set_cons_zero, List.set_cons_succ]
    refine take_yes (i := 2) (v := ?vsc2) rfl (by kernel_rfl) (by kernel_rfl) (by kernel_rfl) (fun _ _ _ h => h) (by rfl) (by assumption) ?hysc2 ?restsc2
    case hysc2 => (intro w hSw; (try dsimp only at hSw); first | (go_simp; done) | (go_simp; with_reducible rfl))
    simp only [Act.put, List.setIfInBounds_toArray, List.set_cons_zero, List.set_cons_succ]
    refine take_yes (i := 3) (v := ?vsc3) rfl (by kernel_rfl) (by kernel_rfl) (by kernel_rfl) (fun _ _ _ h => h) (by rfl) (by assumption) ?hysc3 ?restsc3
    case hysc3 => (intro w hSw; (try dsimp only at hSw); first | (go_simp; done) | (go_simp; with_reducible rfl))
    simp only [Act.put, List.setIfInBounds_toArray, List.set_cons_zero, List.set_cons_succ]
    refine take_yes (i := 4) (v := ?vsc4) rfl (by kernel_rfl) (by kernel_rfl) (by kernel_rfl) (fun _ _ _ h => h) (by rfl) (by assumption) ?hysc4 ?restsc4
    case hysc4 => (intro w hSw; (try dsimp only at hSw); first | (go_simp; done) | (go_simp; with_reducible rfl))
    simp only [Act.put, List.setIfInBounds_toArray, List.set_cons_zero, List.set_cons_succ]
    refine take_yes (i := 5) (v := ?vsc5) rfl (by kernel_rfl) (by kernel_rfl) (by kernel_rfl) (fun _ _ _ h => h) (by rfl) (by assumption) ?hysc5 ?restsc5
    case hysc5 => (intro w hSw; (try dsimp only at hSw); first | (go_simp; done) | (go_simp; with_reducible rfl))
    simp only [Act.put, List.setIfInBounds_toArray, List.set_cons_zero, List.set_cons_succ]
    refine take_yes (i := 6) (v := ?vsc6) rfl (by kernel_rfl) (by kernel_rfl) (by kernel_rfl) (fun _ _ _ h => h) (by rfl) (by assumption) ?hysc6 ?restsc6
    case hysc6 => (intro w hSw; (try dsimp only at hSw); first | (go_simp; done) | (go_simp; with_reducible rfl))
    simp only [Act.put, List.setIfInBounds_toArray, List.set_cons_zero, List.set_cons_succ]
    refine take_yes (i := 7) (v := ?vsc7) rfl (by kernel_rfl) (by kernel_rfl) (by kernel_rfl) (fun _ _ _ h => h) (by rfl) (by assumption) ?hysc7 ?restsc7
    case hysc7 => (intro w hSw; (try dsimp only at hSw); first | (go_simp; done) | (go_simp; with_reducible rfl))
    simp only [Act.put, List.setIfInBounds_toArray, List.set_cons_zero, List.set_cons_succ]
    refine take_yes (i := 8) (v := ?vsc8) rfl (by kernel_rfl) (by kernel_rfl) (by kernel_rfl) (fun _ _ _ h => h) (by rfl) (by assumption) ?hysc8 ?restsc8
    case hysc8 => (intro w hSw; (try dsimp only at hSw); first | (go_simp; done) | (go_simp; with_reducible rfl))
    simp only [Act.put, List.setIfInBounds_toArray, List.set_cons_zero, List.set_cons_succ]
    refine take_yes (i := 9) (v := ?vsc9) rfl (by kernel_rfl) (by kernel_rfl) (by kernel_rfl) (fun _ _ _ h => h) (by rfl) (by assumption) ?hysc9 ?restsc9
    case hysc9 => (intro w hSw; (try dsimp only at hSw); first | (go_simp; done) | (go_simp; with_reducible rfl))
    simp only [Act.put, List.setIfInBounds_toArray, List.set_cons_zero, List.set_cons_succ]
    refine take_yes (i := 10) (v := ?vsc10) rfl (by kernel_rfl) (by kernel_rfl) (by kernel_rfl) (fun _ _ _ h => h) (by rfl) (by assumption) ?hysc10 ?restsc10
    case hysc10 => (intro w hSw; (try dsimp only at hSw); first | (go_simp; done) | (go_simp; with_reducible rfl))
    simp only [Act.put, List.setIfInBounds_toArray, List.set_cons_zero, List.set_cons_succ]
    refine take_yes (i := 11) (v := ?vsc11) rfl (by kernel_rfl) (by kernel_rfl) (by kernel_rfl) (fun _ _ _ h => h) (by rfl) (by assumption) ?hysc11 ?restsc11
    case hysc11 => (intro w hSw; (try dsimp only at hSw); first | (go_simp; done) | (go_simp; with_reducible rfl))
    simp only [Act.put, List.setIfInBounds_toArray, List.set_cons_zero, List.set_cons_succ]
    refine wpAnyH_done (by kernel_rfl) ?_ _
    go_wp2
    go_ret
    exact ⟨rfl, BB⟩
  rcases Decidable.em (y < 8192) with k3 | k3
  rotate_left
  · skip
    obtain rfl : r = false := by rw [HR.out]; simp; omega
    have k' : decide (y < 8192) = false := decide_eq_false k3
    obtain ⟨W, hW, bW, x_a, x_b, sW⟩ := bs_22 w (.int .i64 a1) (.int .i64 a2) (.int .i64 b1) (.int .i64 b2) 23 23
    have zbW := bW.size
    have BB := bW
    go_enter Tryz.func58, Tryz.ntmps58
    go_wp2
    rw [← hW]
    clear hW
    have dd1 : Below W.heap.size W W.drew := (Below.refl _ _).drew
    have zdd1 := dd1.size
    replace BB := also BB dd1
    replace x_a := x_a.on dd1
    replace x_b := x_b.on dd1
    refine wp_region_held_drew (S := (fun w' => w'.cell? ⟨w.heap.size, 0, none⟩ = some (.int .i64 a1) ∧ w'.cell? ⟨w.heap.size, 1, none⟩ = some (.int .i64 a2) ∧ w'.cell? ⟨w.heap.size + 1, 0, none⟩ = some (.int .i64 b1) ∧ w'.cell? ⟨w.heap.size + 1, 1, none⟩ = some (.int .i64 b2) ∧ Below w.heap.size w w')) (by kernel_rfl) ?_ (fun hHeld => ?_)
    · exact ⟨x_a.c0, x_a.c1, x_b.c0, x_b.c1, BB⟩
    refine take_yes (i := 0) (v := ?vsd0) rfl (by kernel_rfl) (by kernel_rfl) (by kernel_rfl) (fun _ _ _ h => h) (by rfl) (by assumption) ?hysd0 ?restsd0
    case hysd0 => (intro w hSw; (try dsimp only at hSw); first | (go_simp; done) | (go_simp; with_reducible rfl))
    simp only [Act.put, List.setIfInBounds_toArray, List.set_cons_zero, List.set_cons_succ]
    refine take_yes (i := 1) (v := ?vsd1) rfl (by kernel_rfl) (by kernel_rfl) (by kernel_rfl) (fun _ _ _ h => h) (by rfl) (by assumption) ?hysd1 ?restsd1
    case hysd1 => (intro w hSw; (try dsimp only at hSw); first | (go_simp; done) | (go_simp; with_reducible rfl))
    simp only [Act.put, List.setIfInBounds_toArray, List.set_cons_zero, List.set_cons_succ]
    refine take_yes (i := 2) (v := ?vsd2) rfl (by kernel_rfl) (by kernel_rfl) (by kernel_rfl) (fun _ _ _ h => h) (by rfl) (by assumption) ?hysd2 ?restsd2
    case hysd2 => (intro w hSw; (try dsimp only at hSw); first | (go_simp; done) | (go_simp; with_reducible rfl))
    simp only [Act.put, List.setIfInBounds_toArray, List.set_cons_zero, List.set_cons_succ]
    refine take_yes (i := 3) (v := ?vsd3) rfl (by kernel_rfl) (by kernel_rfl) (by kernel_rfl) (fun _ _ _ h => h) (by rfl) (by assumption) ?hysd3 ?restsd3
    case hysd3 => (intro w hSw; (try dsimp only at hSw); first | (go_simp; done) | (go_simp; with_reducible rfl))
    simp only [Act.put, List.setIfInBounds_toArray, List.set_cons_zero, List.set_cons_succ]
    refine take_yes (i := 4) (v := ?vsd4) rfl (by kernel_rfl) (by kernel_rfl) (by kernel_rfl) (fun _ _ _ h => h) (by rfl) (by assumption) ?hysd4 ?restsd4
    case hysd4 => (intro w hSw; (try dsimp only at hSw); first | (go_simp; done) | (go_simp; with_reducible rfl))
    simp only [Act.put, List.setIfInBounds_toArray, List.set_cons_zero, List.set_cons_succ]
    refine take_yes (i := 5) (v := ?vsd5) rfl (by kernel_rfl) (by kernel_rfl) (by kernel_rfl) (fun _ _ _ h => h) (by rfl) (by assumption) ?hysd5 ?restsd5
    case hysd5 => (intro w hSw; (try dsimp only at hSw); first | (go_simp; done) | (go_simp; with_reducible rfl))
    simp only [Act.put, List.setIfInBounds_toArray, List.set_cons_zero, List.set_cons_succ]
    refine take_yes (i := 6) (v := ?vsd6) rfl (by kernel_rfl) (by kernel_rfl) (by kernel_rfl) (fun _ _ _ h => h) (by rfl) (by assumption) ?hysd6 ?restsd6
    case hysd6 => (intro w hSw; (try dsimp only at hSw); first | (go_simp; done) | (go_simp; with_reducible rfl))
    simp only [Act.put, List.setIfInBounds_toArray, List.set_cons_zero, List.set_cons_succ]
    refine take_yes (i := 7) (v := ?vsd7) rfl (by kernel_rfl) (by kernel_rfl) (by kernel_rfl) (fun _ _ _ h => h) (by rfl) (by assumption) ?hysd7 ?restsd7
    case hysd7 => (intro w hSw; (try dsimp only at hSw); first | (go_simp; done) | (go_simp; with_reducible rfl))
    simp only [Act.put, List.setIfInBounds_toArray, List.set_cons_zero, List.set_cons_succ]
    refine take_yes (i := 8) (v := ?vsd8) rfl (by kernel_rfl) (by kernel_rfl) (by kernel_rfl) (fun _ _ _ h => h) (by rfl) (by assumption) ?hysd8 ?restsd8
    case hysd8 => (intro w hSw; (try dsimp only at hSw); first | (go_simp; done) | (go_simp; with_reducible rfl))
    simp only [Act.put, List.setIfInBounds_toArray, List.set_cons_zero, List.set_cons_succ]
    refine take_yes (i := 9) (v := ?vsd9) rfl (by kernel_rfl) (by kernel_rfl) (by kernel_rfl) (fun _ _ _ h => h) (by rfl) (by assumption) ?hysd9 ?restsd9
    case hysd9 => (intro w hSw; (try dsimp only at hSw); first | (go_simp; done) | (go_simp; with_reducible rfl))
    simp only [Act.put, List.setIfInBounds_toArray, List.set_cons_zero, List.set_cons_succ]
    refine take_yes (i := 10) (v := ?vsd10) rfl (by kernel_rfl) (by kernel_rfl) (by kernel_rfl) (fun _ _ _ h => h) (by rfl) (by assumption) ?hysd10 ?restsd10
    case hysd10 => (intro w hSw; (try dsimp only at hSw); first | (go_simp; done) | (go_simp; with_reducible rfl))
    simp only [Act.put, List.setIfInBounds_toArray, List.set_cons_zero, List.set_cons_succ]
    refine take_yes (i := 11) (v := ?vsd11) rfl (by kernel_rfl) (by kernel_rfl) (by kernel_rfl) (fun _ _ _ h => h) (by rfl) (by assumption) ?hysd11 ?restsd11
    case hysd11 => (intro w hSw; (try dsimp only at hSw); first | (go_simp; done) | (go_simp; with_reducible rfl))
    simp only [Act.put, List.setIfInBounds_toArray, List.set_cons_zero, List.set_cons_succ]
    refine wpAnyH_done (by kernel_rfl) ?_ _
    go_wp2
    go_ret
    exact ⟨rfl, BB⟩
  obtain rfl : r = true := by rw [HR.out]; simp; omega
  obtain ⟨W, hW, bW, x_a, x_b, sW⟩ := bs_22 w (.int .i64 a1) (.int .i64 a2) (.int .i64 b1) (.int .i64 b2) 23 23
  have zbW := bW.size
  have BB := bW
  go_enter Tryz.func58, Tryz.ntmps58
  go_wp2
  rw [← hW]
  clear hW
  have dd1 : Below W.heap.size W W.drew := (Below.refl _ _).drew
  have zdd1 := dd1.size
  replace BB := also BB dd1
  replace x_a := x_a.on dd1
  replace x_b := x_b.on dd1
  refine wp_region_held_drew (S := (fun w' => w'.cell? ⟨w.heap.size, 0, none⟩ = some (.int .i64 a1) ∧ w'.cell? ⟨w.heap.size, 1, none⟩ = some (.int .i64 a2) ∧ w'.cell? ⟨w.heap.size + 1, 0, none⟩ = some (.int .i64 b1) ∧ w'.cell? ⟨w.heap.size + 1, 1, none⟩ = some (.int .i64 b2) ∧ Below w.heap.size w w')) (by kernel_rfl) ?_ (fun hHeld => ?_)
  · exact ⟨x_a.c0, x_a.c1, x_b.c0, x_b.c1, BB⟩
  refine take_yes (i := 0) (v := ?vse0) rfl (by kernel_rfl) (by kernel_rfl) (by kernel_rfl) (fun _ _ _ h => h) (by rfl) (by assumption) ?hyse0 ?restse0
  case hyse0 => (intro w hSw; (try dsimp only at hSw); first | (go_simp; done) | (go_simp; with_reducible rfl))
  simp only [Act.put, List.setIfInBounds_toArray, List.set_cons_zero, List.set_cons_succ]
  refine take_yes (i := 1) (v := ?vse1) rfl (by kernel_rfl) (by kernel_rfl) (by kernel_rfl) (fun _ _ _ h => h) (by rfl) (by assumption) ?hyse1 ?restse1
  case hyse1 => (intro w hSw; (try dsimp only at hSw); first | (go_simp; done) | (go_simp; with_reducible rfl))
  simp only [Act.put, List.setIfInBounds_toArray, List.set_cons_zero, List.set_cons_succ]
  refine take_yes (i := 2) (v := ?vse2) rfl (by kernel_rfl) (by kernel_rfl) (by kernel_rfl) (fun _ _ _ h => h) (by rfl) (by assumption) ?hyse2 ?restse2
  case hyse2 => (intro w hSw; (try dsimp only at hSw); first | (go_simp; done) | (go_simp; with_reducible rfl))
  simp only [Act.put, List.setIfInBounds_toArray, List.set_cons_zero, List.set_cons_succ]
  refine take_yes (i := 3) (v := ?vse3) rfl (by kernel_rfl) (by kernel_rfl) (by kernel_rfl) (fun _ _ _ h => h) (by rfl) (by assumption) ?hyse3 ?restse3
  case hyse3 => (intro w hSw; (try dsimp only at hSw); first | (go_simp; done) | (go_simp; with_reducible rfl))
  simp only [Act.put, List.setIfInBounds_toArray, List.set_cons_zero, List.set_cons_succ]
  refine take_yes (i := 4) (v := ?vse4) rfl (by kernel_rfl) (by kernel_rfl) (by kernel_rfl) (fun _ _ _ h => h) (by rfl) (by assumption) ?hyse4 ?restse4
  case hyse4 => (intro w hSw; (try dsimp only at hSw); first | (go_simp; done) | (go_simp; with_reducible rfl))
  simp only [Act.put, List.setIfInBounds_toArray, List.set_cons_zero, List.set_cons_succ]
  refine take_yes (i := 5) (v := ?vse5) rfl (by kernel_rfl) (by kernel_rfl) (by kernel_rfl) (fun _ _ _ h => h) (by rfl) (by assumption) ?hyse5 ?restse5
  case hyse5 => (intro w hSw; (try dsimp only at hSw); first | (go_simp; done) | (go_simp; with_reducible rfl))
  simp only [Act.put, List.setIfInBounds_toArray, List.set_cons_zero, List.set_cons_succ]
  refine take_yes (i := 6) (v := ?vse6) rfl (by kernel_rfl) (by kernel_rfl) (by kernel_rfl) (fun _ _ _ h => h) (by rfl) (by assumption) ?hyse6 ?restse6
  case hyse6 => (intro w hSw; (try dsimp only at hSw); first | (go_simp; done) | (go_simp; with_reducible rfl))
  simp only [Act.put, List.setIfInBounds_toArray, List.set_cons_zero, List.set_cons_succ]
  refine take_yes (i := 7) (v := ?vse7) rfl (by kernel_rfl) (by kernel_rfl) (by kernel_rfl) (fun _ _ _ h => h) (by rfl) (by assumption) ?hyse7 ?restse7
  case hyse7 => (intro w hSw; (try dsimp only at hSw); first | (go_simp; done) | (go_simp; with_reducible rfl))
  simp only [Act.put, List.setIfInBounds_toArray, List.set_cons_zero, List.set_cons_succ]
  refine take_yes (i := 8) (v := ?vse8) rfl (by kernel_rfl) (by kernel_rfl) (by kernel_rfl) (fun _ _ _ h => h) (by rfl) (by assumption) ?hyse8 ?restse8
  case hyse8 => (intro w hSw; (try dsimp only at hSw); first | (go_simp; done) | (go_simp; with_reducible rfl))
  simp only [Act.put, List.setIfInBounds_toArray, List.set_cons_zero, List.set_cons_succ]
  refine take_yes (i := 9) (v := ?vse9) rfl (by kernel_rfl) (by kernel_rfl) (by kernel_rfl) (fun _ _ _ h => h) (by rfl) (by assumption) ?hyse9 ?restse9
  case hyse9 => (intro w hSw; (try dsimp only at hSw); first | (go_simp; done) | (go_simp; with_reducible rfl))
  simp only [Act.put, List.setIfInBounds_toArray, List.set_cons_zero, List.set_cons_succ]
  refine take_yes (i := 10) (v := ?vse10) rfl (by kernel_rfl) (by kernel_rfl) (by kernel_rfl) (fun _ _ _ h => h) (by rfl) (by assumption) ?hyse10 ?restse10
  case hyse10 => (intro w hSw; (try dsimp only at hSw); first | (go_simp; done) | (go_simp; with_reducible rfl))
  simp only [Act.put, List.setIfInBounds_toArray, List.set_cons_zero, List.set_cons_succ]
  refine take_yes (i := 11) (v := ?vse11) rfl (by kernel_rfl) (by kernel_rfl) (by kernel_rfl) (fun _ _ _ h => h) (by rfl) (by assumption) ?hyse11 ?restse11
  case hyse11 => (intro w hSw; (try dsimp only at hSw); first | (go_simp; done) | (go_simp; with_reducible rfl))
  simp only [Act.put, List.setIfInBounds_toArray, List.set_cons_zero, List.set_cons_succ]
  refine wpAnyH_done (by kernel_rfl) ?_ _
  go_wp2
  go_ret
  exact ⟨rfl, BB⟩
set_option maxRecDepth 100000 in
set_option maxHeartbeats 4000000 in
theorem rpOrient (a1 a2 b1 b2 c1 c2 : Int) (w : World) (ha : canC a1 a2 = true) (hb : canC b1 b2 = true) (hc : canC c1 c2 = true) {g : Int} (hg : g = (areaP a1 a2 b1 b2 c1 c2).sign) :
    Calls Tryz.prog 26 #[.agg #[.int .i64 a1, .int .i64 a2], .agg #[.int .i64 b1, .int .i64 b2], .agg #[.int .i64 c1, .int .i64 c2]] w fun e w' => e = .returned (.int .i64 g) ∧ Below w.heap.size w w' := by
  cases n1 : nearP a1 a2 b1 b2
  · skip
    have HG : Hid _ := hg
    clear hg
    obtain ⟨W, hW, bW, x_a, x_b, x_c, sW⟩ := bs_222 w (.int .i64 a1) (.int .i64 a2) (.int .i64 b1) (.int .i64 b2) (.int .i64 c1) (.int .i64 c2) 23 23 23
    have zbW := bW.size
    have BB := bW
    go_enter Tryz.func26, Tryz.ntmps26
    go_wp2_with (go_at_call 58; fail)
    rw [← hW]
    clear hW
    refine (rpNear a1 a2 b1 b2 W ha hb n1.symm).mono ?_
    rintro e w1 ⟨rfl, bw1⟩
    have zbw1 := bw1.size
    replace BB := also BB bw1
    replace x_a := x_a.on bw1
    replace x_b := x_b.on bw1
    replace x_c := x_c.on bw1
    have ⟨x_a_0, x_a_1, x_a_2, x_a_3⟩ := x_a
    have ⟨x_b_0, x_b_1, x_b_2, x_b_3⟩ := x_b
    have ⟨x_c_0, x_c_1, x_c_2, x_c_3⟩ := x_c
    go_wp2_with (go_at_call 60; fail)
    refine (rpArea a1 a2 b1 b2 c1 c2 w1 ha hb hc rfl).mono ?_
    rintro e w3 ⟨s11, d11, l11, c11, rfl, r11, f11, bw3⟩
    clear x_a_0 x_a_1 x_a_2 x_a_3 x_b_0 x_b_1 x_b_2 x_b_3 x_c_0 x_c_1 x_c_2 x_c_3
    have zbw3 := bw3.size
    replace BB := also BB bw3
    replace x_a := x_a.on bw3
    replace x_b := x_b.on bw3
    replace x_c := x_c.on bw3
    have hfS := fieldS s11 d11 l11 c11 w3
    go_wp2
    go_ret
    exact ⟨by rw [HG.out, ← r11.sg]; rfl, BB⟩
  · skip
    cases n2 : nearP a1 a2 c1 c2
    · skip
      have HG : Hid _ := hg
      clear hg
      obtain ⟨W, hW, bW, x_a, x_b, x_c, sW⟩ := bs_222 w (.int .i64 a1) (.int .i64 a2) (.int .i64 b1) (.int .i64 b2) (.int .i64 c1) (.int .i64 c2) 23 23 23
      have zbW := bW.size
      have BB := bW
      go_enter Tryz.func26, Tryz.ntmps26
      go_wp2_with (go_at_call 58; fail)
      rw [← hW]
      clear hW
      refine (rpNear a1 a2 b1 b2 W ha hb n1.symm).mono ?_
      rintro e w1 ⟨rfl, bw1⟩
      have zbw1 := bw1.size
      replace BB := also BB bw1
      replace x_a := x_a.on bw1
      replace x_b := x_b.on bw1
      replace x_c := x_c.on bw1
      have ⟨x_a_0, x_a_1, x_a_2, x_a_3⟩ := x_a
      have ⟨x_b_0, x_b_1, x_b_2, x_b_3⟩ := x_b
      have ⟨x_c_0, x_c_1, x_c_2, x_c_3⟩ := x_c
      go_wp2_with (go_at_call 58; fail)
      refine (rpNear a1 a2 c1 c2 w1 ha hc n2.symm).mono ?_
      rintro e w2 ⟨rfl, bw2⟩
      clear x_a_0 x_a_1 x_a_2 x_a_3 x_b_0 x_b_1 x_b_2 x_b_3 x_c_0 x_c_1 x_c_2 x_c_3
      have zbw2 := bw2.size
      replace BB := also BB bw2
      replace x_a := x_a.on bw2
      replace x_b := x_b.on bw2
      replace x_c := x_c.on bw2
      have ⟨x_a_0, x_a_1, x_a_2, x_a_3⟩ := x_a
      have ⟨x_b_0, x_b_1, x_b_2, x_b_3⟩ := x_b
      have ⟨x_c_0, x_c_1, x_c_2, x_c_3⟩ := x_c
      go_wp2_with (go_at_call 60; fail)
      refine (rpArea a1 a2 b1 b2 c1 c2 w2 ha hb hc rfl).mono ?_
      rintro e w3 ⟨s11, d11, l11, c11, rfl, r11, f11, bw3⟩
      clear x_a_0 x_a_1 x_a_2 x_a_3 x_b_0 x_b_1 x_b_2 x_b_3 x_c_0 x_c_1 x_c_2 x_c_3
      have zbw3 := bw3.size
      replace BB := also BB bw3
      replace x_a := x_a.on bw3
      replace x_b := x_b.on bw3
      replace x_c := x_c.on bw3
      have hfS := fieldS s11 d11 l11 c11 w3
      go_wp2
      go_ret
      exact ⟨by rw [HG.out, ← r11.sg]; rfl, BB⟩
    · skip
      obtain ⟨qx, qu⟩ := near_abs n1
      obtain ⟨qv, qy⟩ := near_abs n2
      obtain ⟨x, hx⟩ : ∃ z : Int, z = b1 - a1 := ⟨_, rfl⟩
      rw [← hx] at qx
      have wx : wrap64 (b1 - a1) = x := by rw [← hx]; exact wrap_in (by omega) (by omega)
      obtain ⟨y, hy⟩ : ∃ z : Int, z = c2 - a2 := ⟨_, rfl⟩
      rw [← hy] at qy
      have wy : wrap64 (c2 - a2) = y := by rw [← hy]; exact wrap_in (by omega) (by omega)
      obtain ⟨u, hu⟩ : ∃ z : Int, z = b2 - a2 := ⟨_, rfl⟩
      rw [← hu] at qu
      have wu : wrap64 (b2 - a2) = u := by rw [← hu]; exact wrap_in (by omega) (by omega)
      obtain ⟨v, hv⟩ : ∃ z : Int, z = c1 - a1 := ⟨_, rfl⟩
      rw [← hv] at qv
      have wv : wrap64 (c1 - a1) = v := by rw [← hv]; exact wrap_in (by omega) (by omega)
      obtain ⟨p, hp⟩ : ∃ z : Int, z = x * y := ⟨_, rfl⟩
      have qp : p.natAbs ≤ 67092481 := by rw [hp]; exact prod_abs qx qy
      have wp : wrap64 (x * y) = p := by rw [← hp]; exact wrap_in (by omega) (by omega)
      obtain ⟨q, hq⟩ : ∃ z : Int, z = u * v := ⟨_, rfl⟩
      have qq : q.natAbs ≤ 67092481 := by rw [hq]; exact prod_abs qu qv
      have wq : wrap64 (u * v) = q := by rw [← hq]; exact wrap_in (by omega) (by omega)
      obtain ⟨z, hz⟩ : ∃ z : Int, z = p - q := ⟨_, rfl⟩
      have qz : z.natAbs ≤ 134184962 := by rw [hz]; omega
      have wz : wrap64 (p - q) = z := by rw [← hz]; exact wrap_in (by omega) (by omega)
      have HG : Hid (g = z.sign) := by unfold Hid; rw [hg, hz, hp, hq, hx, hy, hu, hv]; rfl
      clear hg hz hp hq hx hy hu hv qx qy qu qv qp qq qz
      obtain ⟨W, hW, bW, x_a, x_b, x_c, sW⟩ := bs_222 w (.int .i64 a1) (.int .i64 a2) (.int .i64 b1) (.int .i64 b2) (.int .i64 c1) (.int .i64 c2) 23 23 23
      have zbW := bW.size
      have BB := bW
      go_enter Tryz.func26, Tryz.ntmps26
      go_wp2_with (go_at_call 58; fail)
      rw [← hW]
      clear hW
      refine (rpNear a1 a2 b1 b2 W ha hb n1.symm).mono ?_
      rintro e w1 ⟨rfl, bw1⟩
      have zbw1 := bw1.size
      replace BB := also BB bw1
      replace x_a := x_a.on bw1
      replace x_b := x_b.on bw1
      replace x_c := x_c.on bw1
      have ⟨x_a_0, x_a_1, x_a_2, x_a_3⟩ := x_a
      have ⟨x_b_0, x_b_1, x_b_2, x_b_3⟩ := x_b
      have ⟨x_c_0, x_c_1, x_c_2, x_c_3⟩ := x_c
      go_wp2_with (go_at_call 58; fail)
      refine (rpNear a1 a2 c1 c2 w1 ha hc n2.symm).mono ?_
      rintro e w2 ⟨rfl, bw2⟩
      clear x_a_0 x_a_1 x_a_2 x_a_3 x_b_0 x_b_1 x_b_2 x_b_3 x_c_0 x_c_1 x_c_2 x_c_3
      have zbw2 := bw2.size
      replace BB := also BB bw2
      replace x_a := x_a.on bw2
      replace x_b := x_b.on bw2
      replace x_c := x_c.on bw2
      have ⟨x_a_0, x_a_1, x_a_2, x_a_3⟩ := x_a
      have ⟨x_b_0, x_b_1, x_b_2, x_b_3⟩ := x_b
      have ⟨x_c_0, x_c_1, x_c_2, x_c_3⟩ := x_c
      go_wp2_with (go_at_call 59; fail)
      refine (rpSign z w2 HG.out).mono ?_
      rintro e w3 ⟨rfl, bw3⟩
      clear x_a_0 x_a_1 x_a_2 x_a_3 x_b_0 x_b_1 x_b_2 x_b_3 x_c_0 x_c_1 x_c_2 x_c_3
      have zbw3 := bw3.size
      replace BB := also BB bw3
      replace x_a := x_a.on bw3
      replace x_b := x_b.on bw3
      replace x_c := x_c.on bw3
      go_wp2
      go_ret
      exact ⟨rfl, BB⟩
end Go.Proofs.YtcaihoomcdbfnaaGreat
