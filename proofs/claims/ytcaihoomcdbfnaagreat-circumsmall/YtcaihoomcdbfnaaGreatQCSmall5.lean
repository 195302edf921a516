/-
  Joined texts of this law, part 5:
  What zelligeref09's Small answers.
  CircumSmall's walk, of what circum's functions answer.
  A law's argument that is an array of three points: taken apart and put together again.
-/
import Derived.Test.YtcaihoomcdbfnaaGreatQCSmall4
import Derived.Deep.RegionHeld3
import Derived.Test.YtcaihoomcdbfnaaGreatChecked
import Derived.Laws.IdiomArrays
import Derived.ProofKit
import Derived.OpenShut
import Derived.Lib.SmallJoins
namespace Go.Proofs.YtcaihoomcdbfnaaGreat
open Go.RowKit
set_option linter.unusedVariables false

set_option maxRecDepth 100000 in
set_option maxHeartbeats 8000000 in
theorem rcSmall (a1 a2 b1 b2 c1 c2 sd : Int) (w : World) (ha : canC a1 a2 = true) (hb : canC b1 b2 = true) (hc : canC c1 c2 = true) (h0 : areaP a1 a2 b1 b2 c1 c2 ≠ 0) (Rs : Hid (R64 sd)) {N1 N2 : Int} {D1 D2 : Nat} (hN1 : N1 = lowN (meanN a1 b1 c1 (distP b1 b2 c1 c2) (distP c1 c2 a1 a2) (distP a1 a2 b1 b2)) (meanD (distP b1 b2 c1 c2) (distP c1 c2 a1 a2) (distP a1 a2 b1 b2)).natAbs) (hD1 : D1 = lowD (meanN a1 b1 c1 (distP b1 b2 c1 c2) (distP c1 c2 a1 a2) (distP a1 a2 b1 b2)) (meanD (distP b1 b2 c1 c2) (distP c1 c2 a1 a2) (distP a1 a2 b1 b2)).natAbs) (hN2 : N2 = lowN (meanN a2 b2 c2 (distP b1 b2 c1 c2) (distP c1 c2 a1 a2) (distP a1 a2 b1 b2)) (meanD (distP b1 b2 c1 c2) (distP c1 c2 a1 a2) (distP a1 a2 b1 b2)).natAbs) (hD2 : D2 = lowD (meanN a2 b2 c2 (distP b1 b2 c1 c2) (distP c1 c2 a1 a2) (distP a1 a2 b1 b2)) (meanD (distP b1 b2 c1 c2) (distP c1 c2 a1 a2) (distP a1 a2 b1 b2)).natAbs) {ux uy : Int} {ex ey : Nat} (hux : ux = N1 * ((1 : Nat) : Int) + -a1 * (D1 : Int)) (hex : ex = D1 * 1) (huy : uy = N2 * ((1 : Nat) : Int) + -a2 * (D2 : Int)) (hey : ey = D2 * 1) {N : Int} {D : Nat} (hN : N = lowN (ux * ux * ((ey * ey : Nat) : Int) + uy * uy * ((ex * ex : Nat) : Int)) (ex * ex * (ey * ey))) (hD : D = lowD (ux * ux * ((ey * ey : Nat) : Int) + uy * uy * ((ex * ex : Nat) : Int)) (ex * ex * (ey * ey))) {r : Bool} (hr : r = decide ((16 * N * ((1 * 1 : Nat) : Int) - sd * sd * ((1 * D : Nat) : Int)).sign < 0)) :
    Calls Tryz.prog 19 #[.agg #[.int .i64 a1, .int .i64 a2], .agg #[.int .i64 b1, .int .i64 b2], .agg #[.int .i64 c1, .int .i64 c2], .int .i64 sd] w fun e w' => e = .returned (.bool r) ∧ Below w.heap.size w w' := by
  have Ra : Hid (R2 (a1, a2)) := ⟨in_64 (canC_true.1 ha).1, in_64 (canC_true.1 ha).2⟩
  have EN1 : Hid _ := hN1
  clear hN1
  have ED1 : Hid _ := hD1
  clear hD1
  have EN2 : Hid _ := hN2
  clear hN2
  have ED2 : Hid _ := hD2
  clear hD2
  have Eux : Hid _ := hux
  clear hux
  have Euy : Hid _ := huy
  clear huy
  have Eex : Hid _ := hex
  clear hex
  have Eey : Hid _ := hey
  clear hey
  have EN : Hid _ := hN
  clear hN
  have ED : Hid _ := hD
  clear hD
  have H0 : Hid _ := h0
  obtain ⟨g, hg⟩ : ∃ g : Int, g = (16 * N * ((1 * 1 : Nat) : Int) - sd * sd * ((1 * D : Nat) : Int)).sign := ⟨_, rfl⟩
  rw [← hg] at hr
  have HG : Hid _ := hg
  have HR : Hid _ := hr
  clear hg hr h0
  obtain ⟨W, hW, bW, x_a, x_b, x_c, sW⟩ := bs_222 w (.int .i64 a1) (.int .i64 a2) (.int .i64 b1) (.int .i64 b2) (.int .i64 c1) (.int .i64 c2) 23 23 23
  have zbW := bW.size
  have BB := bW
  go_enter Tryz.func19, Tryz.ntmps19
  go_wp2
  rw [← hW]
  clear hW
  obtain ⟨QQ, hQQ⟩ : ∃ QQ : Exit → Act → World → Prop, QQ = fun e act wr => e = .normal ∧ ∃ (pz : Nat) (s11 : Int) (d11 : Option Addr) (l11 c11 : Nat) (t11 : Int) (g11 : Option Addr) (h11 k11 : Nat) (s21 : Int) (d21 : Option Addr) (l21 c21 : Nat) (t21 : Int) (g21 : Option Addr) (h21 k21 : Nat) (s22 : Int) (d22 : Option Addr) (l22 c22 : Nat) (t22 : Int) (g22 : Option Addr) (h22 k22 : Nat) (s12 : Int) (d12 : Option Addr) (l12 c12 : Nat) (t12 : Int) (g12 : Option Addr) (h12 k12 : Nat) (s13 : Int) (d13 : Option Addr) (l13 c13 : Nat) (t13 : Int) (g13 : Option Addr) (h13 k13 : Nat), act = ⟨#[.agg #[.int .i64 a1, .int .i64 a2], .agg #[.int .i64 b1, .int .i64 b2], .agg #[.int .i64 c1, .int .i64 c2], .int .i64 sd, .pointer (some ⟨w.heap.size, 0, none⟩), .pointer (some ⟨w.heap.size + 1, 0, none⟩), .pointer (some ⟨w.heap.size + 1 + 1, 0, none⟩), undef, .bool false, .pointer (some ⟨pz, 0, none⟩), .agg #[.int .i64 s11, .slice d11 l11 c11, .int .i64 t11, .slice g11 h11 k11], .agg #[.int .i64 a1, .int .i64 a2], .agg #[.int .i64 b1, .int .i64 b2], .agg #[.int .i64 c1, .int .i64 c2], .agg #[.int .i64 s21, .slice d21 l21 c21, .int .i64 t21, .slice g21 h21 k21, .int .i64 s22, .slice d22 l22 c22, .int .i64 t22, .slice g22 h22 k22], .agg #[.int .i64 a1, .int .i64 a2], .agg #[.int .i64 s12, .slice d12 l12 c12, .int .i64 t12, .slice g12 h12 k12], .agg #[.int .i64 s13, .slice d13 l13 c13, .int .i64 t13, .slice g13 h13 k13], undef, undef, undef, undef, undef, undef, undef, undef], []⟩ ∧ RQ wr 2 s11 d11 l11 c11 t11 g11 h11 k11 16 1 ∧ RQ wr 10 s21 d21 l21 c21 t21 g21 h21 k21 N1 D1 ∧ RQ wr 10 s22 d22 l22 c22 t22 g22 h22 k22 N2 D2 ∧ RQ wr 85 s12 d12 l12 c12 t12 g12 h12 k12 N D ∧ RQ wr 170 s13 d13 l13 c13 t13 g13 h13 k13 (16 * N) (1 * D) ∧ Bx wr (w.heap.size) (.int .i64 a1) (.int .i64 a2) ∧ Bx wr (w.heap.size + 1) (.int .i64 b1) (.int .i64 b2) ∧ Bx wr (w.heap.size + 1 + 1) (.int .i64 c1) (.int .i64 c2) ∧ B4 wr pz (.int .i64 s13) (.slice d13 l13 c13) (.int .i64 t13) (.slice g13 h13 k13) ∧ Below w.heap.size w wr ∧ W.heap.size ≤ wr.heap.size ∧ (W.heap.size ≤ pz ∧ pz < wr.heap.size) := ⟨_, rfl⟩
  have HQQ : Hid _ := hQQ
  clear hQQ
  refine wp_mono (Q := QQ) ?_ ?_
  · refine wp_region_held_drew (S := (fun w' => w'.cell? ⟨w.heap.size, 0, none⟩ = some (.int .i64 a1) ∧ w'.cell? ⟨w.heap.size, 1, none⟩ = some (.int .i64 a2) ∧ w'.cell? ⟨w.heap.size + 1, 0, none⟩ = some (.int .i64 b1) ∧ w'.cell? ⟨w.heap.size + 1, 1, none⟩ = some (.int .i64 b2) ∧ w'.cell? ⟨w.heap.size + 1 + 1, 0, none⟩ = some (.int .i64 c1) ∧ w'.cell? ⟨w.heap.size + 1 + 1, 1, none⟩ = some (.int .i64 c2) ∧ Below w.heap.size w w')) (by kernel_rfl) ?_ (fun hHeld => ?_)
    · exact ⟨x_a.c0, x_a.c1, x_b.c0, x_b.c1, x_c.c0, x_c.c1, BB.drew⟩
    refine take_yes (i := 1) (v := ?vm1x1) rfl (by kernel_rfl) (by kernel_rfl) (by kernel_rfl) (fun _ _ _ h => by rw [HQQ.out] at h; exact Exit.noConfusion h.1) (by rfl) (by assumption) ?hym1x1 ?restm1x1
    case hym1x1 => (intro w hSw; (try dsimp only at hSw); first | (go_simp; done) | (go_simp; with_reducible rfl))
    simp only [Act.put, List.setIfInBounds_toArray, List.set_cons_zero, List.set_cons_succ]
    refine take_yes (i := 2) (v := ?vm2x2) rfl (by kernel_rfl) (by kernel_rfl) (by kernel_rfl) (fun _ _ _ h => by rw [HQQ.out] at h; exact Exit.noConfusion h.1) (by rfl) (by assumption) ?hym2x2 ?restm2x2
    case hym2x2 => (intro w hSw; (try dsimp only at hSw); first | (go_simp; done) | (go_simp; with_reducible rfl))
    simp only [Act.put, List.setIfInBounds_toArray, List.set_cons_zero, List.set_cons_succ]
    refine take_yes (i := 3) (v := ?vm3x3) rfl (by kernel_rfl) (by kernel_rfl) (by kernel_rfl) (fun _ _ _ h => by rw [HQQ.out] at h; exact Exit.noConfusion h.1) (by rfl) (by assumption) ?hym3x3 ?restm3x3
    case hym3x3 => (intro w hSw; (try dsimp only at hSw); first | (go_simp; done) | (go_simp; with_reducible rfl))
    simp only [Act.put, List.setIfInBounds_toArray, List.set_cons_zero, List.set_cons_succ]
    refine take_yes (i := 5) (v := ?vm5x4) rfl (by kernel_rfl) (by kernel_rfl) (by kernel_rfl) (fun _ _ _ h => by rw [HQQ.out] at h; exact Exit.noConfusion h.1) (by rfl) (by assumption) ?hym5x4 ?restm5x4
    case hym5x4 => (intro w hSw; (try dsimp only at hSw); first | (go_simp; done) | (go_simp; with_reducible rfl))
    simp only [Act.put, List.setIfInBounds_toArray, List.set_cons_zero, List.set_cons_succ]
    have b0 : Below W.heap.size W W.drew := (Below.refl _ _).drew
    have BU := b0
    generalize W.drew = X0 at b0 BU hHeld ⊢
    replace x_a := x_a.on b0
    replace x_b := x_b.on b0
    replace x_c := x_c.on b0
    replace BB := also BB b0
    refine wpAnyH_ready (rs := [0, 8]) (by kernel_rfl) (by simp) (AllReadyH.cons (i := 0) rfl (fun Kc hK => ?_) (AllReadyH.cons (i := 8) rfl (fun Kc hK => ?_) AllReadyH.nil))
    · skip
      go_simp
      (go_at_call 15; refine (rqLong 16 _ (by decide) (by decide)).mono ?_; rintro e X1 ⟨s11, d11, l11, c11, t11, g11, h11, k11, rfl, q11, f11, e1⟩)
      refine hK.out _ _ ⟨cell_on e1 hHeld.1, cell_on e1 hHeld.2.1, cell_on e1 hHeld.2.2.1, cell_on e1 hHeld.2.2.2.1, cell_on e1 hHeld.2.2.2.2.1, cell_on e1 hHeld.2.2.2.2.2.1, also hHeld.2.2.2.2.2.2 e1⟩ (fun hHeld => ?_)
      clear hK Kc
      replace x_a := x_a.on e1
      replace x_b := x_b.on e1
      replace x_c := x_c.on e1
      replace BB := also BB e1
      replace BU := also BU e1
      refine wpAnyH_ready (rs := [4, 8]) (by kernel_rfl) (by simp) (AllReadyH.cons (i := 4) rfl (fun Kc hK => ?_) (AllReadyH.cons (i := 8) rfl (fun Kc hK => ?_) AllReadyH.nil))
      · skip
        go_simp
        (go_at_call 12; refine (rcCenter a1 a2 b1 b2 c1 c2 _ ha hb hc H0.out EN1.out ED1.out EN2.out ED2.out).mono ?_; rintro e X2 ⟨s21, d21, l21, c21, t21, g21, h21, k21, s22, d22, l22, c22, t22, g22, h22, k22, rfl, q21, q22, f21, e2⟩)
        refine hK.out _ _ ⟨cell_on e2 hHeld.1, cell_on e2 hHeld.2.1, cell_on e2 hHeld.2.2.1, cell_on e2 hHeld.2.2.2.1, cell_on e2 hHeld.2.2.2.2.1, cell_on e2 hHeld.2.2.2.2.2.1, also hHeld.2.2.2.2.2.2 e2⟩ (fun hHeld => ?_)
        clear hK Kc
        replace q11 := q11.below e2
        replace x_a := x_a.on e2
        replace x_b := x_b.on e2
        replace x_c := x_c.on e2
        replace BB := also BB e2
        replace BU := also BU e2
        refine wpAnyH_ready (rs := [6, 8]) (by kernel_rfl) (by simp) (AllReadyH.cons (i := 6) rfl (fun Kc hK => ?_) (AllReadyH.cons (i := 8) rfl (fun Kc hK => ?_) AllReadyH.nil))
        · skip
          go_simp
          (go_at_call 17; refine (rcFar s21 d21 l21 c21 t21 g21 h21 k21 N1 D1 s22 d22 l22 c22 t22 g22 h22 k22 N2 D2 a1 a2 10 _ q21 q22 Ra (by decide) (by decide) Eux.out Eex.out Euy.out Eey.out EN.out ED.out).mono ?_; rintro e X3 ⟨s12, d12, l12, c12, t12, g12, h12, k12, rfl, q12, f12, e3⟩)
          refine hK.out _ _ ⟨cell_on e3 hHeld.1, cell_on e3 hHeld.2.1, cell_on e3 hHeld.2.2.1, cell_on e3 hHeld.2.2.2.1, cell_on e3 hHeld.2.2.2.2.1, cell_on e3 hHeld.2.2.2.2.2.1, also hHeld.2.2.2.2.2.2 e3⟩ (fun hHeld => ?_)
          clear hK Kc
          replace q11 := q11.below e3
          replace q21 := q21.below e3
          replace q22 := q22.below e3
          replace x_a := x_a.on e3
          replace x_b := x_b.on e3
          replace x_c := x_c.on e3
          replace BB := also BB e3
          replace BU := also BU e3
          refine wpAnyH_ready (rs := [7, 8]) (by kernel_rfl) (by simp) (AllReadyH.cons (i := 7) rfl (fun Kc hK => ?_) (AllReadyH.cons (i := 8) rfl (fun Kc hK => ?_) AllReadyH.nil))
          · skip
            go_simp
            (go_at_call 41; refine (rqMul s11 d11 l11 c11 t11 g11 h11 k11 16 1 s12 d12 l12 c12 t12 g12 h12 k12 N D 85 _ (q11.more (by decide) (by decide)) q12 (by decide) _ _ rfl rfl).mono ?_; rintro e X4 ⟨s13, d13, l13, c13, t13, g13, h13, k13, rfl, q13, f13, e4⟩)
            refine hK.out _ _ ⟨cell_on e4 hHeld.1, cell_on e4 hHeld.2.1, cell_on e4 hHeld.2.2.1, cell_on e4 hHeld.2.2.2.1, cell_on e4 hHeld.2.2.2.2.1, cell_on e4 hHeld.2.2.2.2.2.1, also hHeld.2.2.2.2.2.2 e4⟩ (fun hHeld => ?_)
            clear hK Kc
            replace q11 := q11.below e4
            replace q21 := q21.below e4
            replace q22 := q22.below e4
            replace q12 := q12.below e4
            replace x_a := x_a.on e4
            replace x_b := x_b.on e4
            replace x_c := x_c.on e4
            replace BB := also BB e4
            replace BU := also BU e4
            refine take_call (i := 8) rfl (by kernel_rfl) (fun Kc hK => ?_)
            go_simp
            refine hK.out _ _ ⟨cell_on ((Below.refl _ _).alloc (Nat.le_refl _) _) hHeld.1, cell_on ((Below.refl _ _).alloc (Nat.le_refl _) _) hHeld.2.1, cell_on ((Below.refl _ _).alloc (Nat.le_refl _) _) hHeld.2.2.1, cell_on ((Below.refl _ _).alloc (Nat.le_refl _) _) hHeld.2.2.2.1, cell_on ((Below.refl _ _).alloc (Nat.le_refl _) _) hHeld.2.2.2.2.1, cell_on ((Below.refl _ _).alloc (Nat.le_refl _) _) hHeld.2.2.2.2.2.1, also hHeld.2.2.2.2.2.2 ((Below.refl _ _).alloc (Nat.le_refl _) _)⟩ (fun hHeld => ?_)
            clear hK Kc
            have y_pz := b4_new X4 (.int .i64 0) (.slice none 0 0) (.int .i64 0) (.slice none 0 0) 41
            have e5 : Below X4.heap.size X4 (X4.alloc (.cells #[.int .i64 0, .slice none 0 0, .int .i64 0, .slice none 0 0] 41)) := (Below.refl _ _).alloc (Nat.le_refl _) _
            have lpz : X4.heap.size < (X4.alloc (.cells #[.int .i64 0, .slice none 0 0, .int .i64 0, .slice none 0 0] 41)).heap.size := by simp
            have gpz : W.heap.size ≤ X4.heap.size := BU.size
            have n_q11_0_pz : NA X4.heap.size d11 l11 := q11.rn.hd.sl.na (Nat.le_refl _)
            have n_q11_1_pz : NA X4.heap.size g11 h11 := q11.rd.hd.sl.na (Nat.le_refl _)
            have n_q21_0_pz : NA X4.heap.size d21 l21 := q21.rn.hd.sl.na (Nat.le_refl _)
            have n_q21_1_pz : NA X4.heap.size g21 h21 := q21.rd.hd.sl.na (Nat.le_refl _)
            have n_q22_0_pz : NA X4.heap.size d22 l22 := q22.rn.hd.sl.na (Nat.le_refl _)
            have n_q22_1_pz : NA X4.heap.size g22 h22 := q22.rd.hd.sl.na (Nat.le_refl _)
            have n_q12_0_pz : NA X4.heap.size d12 l12 := q12.rn.hd.sl.na (Nat.le_refl _)
            have n_q12_1_pz : NA X4.heap.size g12 h12 := q12.rd.hd.sl.na (Nat.le_refl _)
            have n_q13_0_pz : NA X4.heap.size d13 l13 := q13.rn.hd.sl.na (Nat.le_refl _)
            have n_q13_1_pz : NA X4.heap.size g13 h13 := q13.rd.hd.sl.na (Nat.le_refl _)
            generalize X4.alloc (.cells #[.int .i64 0, .slice none 0 0, .int .i64 0, .slice none 0 0] 41) = X5 at y_pz e5 lpz hHeld ⊢
            replace q11 := q11.below e5
            replace q21 := q21.below e5
            replace q22 := q22.below e5
            replace q12 := q12.below e5
            replace q13 := q13.below e5
            replace x_a := x_a.on e5
            replace x_b := x_b.on e5
            replace x_c := x_c.on e5
            replace BB := also BB e5
            replace BU := also BU e5
            generalize X4.heap.size = pz at y_pz lpz gpz n_q11_0_pz n_q11_1_pz n_q21_0_pz n_q21_1_pz n_q22_0_pz n_q22_1_pz n_q12_0_pz n_q12_1_pz n_q13_0_pz n_q13_1_pz ⊢
            have ⟨c_pz_0, c_pz_1, c_pz_2, c_pz_3, c_pz_4, c_pz_5, c_pz_6, c_pz_7⟩ : B4 X5 pz (.int .i64 0) (.slice none 0 0) (.int .i64 0) (.slice none 0 0) := y_pz
            refine take_call (i := 9) rfl (by kernel_rfl) (fun Kc hK => ?_)
            go_simp
            refine hK.out _ _ ⟨cell_put4 hHeld.1 (by omega) _ _ _ _, cell_put4 hHeld.2.1 (by omega) _ _ _ _, cell_put4 hHeld.2.2.1 (by omega) _ _ _ _, cell_put4 hHeld.2.2.2.1 (by omega) _ _ _ _, cell_put4 hHeld.2.2.2.2.1 (by omega) _ _ _ _, cell_put4 hHeld.2.2.2.2.2.1 (by omega) _ _ _ _, below_put4 hHeld.2.2.2.2.2.2 (by omega) _ _ _ _⟩ (fun hHeld => ?_)
            clear hK Kc
            refine wpAnyH_done (by kernel_rfl) ?_ _
            rw [HQQ.out]
            exact ⟨rfl, pz, s11, d11, l11, c11, t11, g11, h11, k11, s21, d21, l21, c21, t21, g21, h21, k21, s22, d22, l22, c22, t22, g22, h22, k22, s12, d12, l12, c12, t12, g12, h12, k12, s13, d13, l13, c13, t13, g13, h13, k13, rfl, ((((q11.put n_q11_0_pz n_q11_1_pz 0 _).put n_q11_0_pz n_q11_1_pz 1 _).put n_q11_0_pz n_q11_1_pz 2 _).put n_q11_0_pz n_q11_1_pz 3 _), ((((q21.put n_q21_0_pz n_q21_1_pz 0 _).put n_q21_0_pz n_q21_1_pz 1 _).put n_q21_0_pz n_q21_1_pz 2 _).put n_q21_0_pz n_q21_1_pz 3 _), ((((q22.put n_q22_0_pz n_q22_1_pz 0 _).put n_q22_0_pz n_q22_1_pz 1 _).put n_q22_0_pz n_q22_1_pz 2 _).put n_q22_0_pz n_q22_1_pz 3 _), ((((q12.put n_q12_0_pz n_q12_1_pz 0 _).put n_q12_0_pz n_q12_1_pz 1 _).put n_q12_0_pz n_q12_1_pz 2 _).put n_q12_0_pz n_q12_1_pz 3 _), ((((q13.put n_q13_0_pz n_q13_1_pz 0 _).put n_q13_0_pz n_q13_1_pz 1 _).put n_q13_0_pz n_q13_1_pz 2 _).put n_q13_0_pz n_q13_1_pz 3 _), ((((x_a.put (by omega)).put (by omega)).put (by omega)).put (by omega)), ((((x_b.put (by omega)).put (by omega)).put (by omega)).put (by omega)), ((((x_c.put (by omega)).put (by omega)).put (by omega)).put (by omega)), y_pz.set, (below_put4 BB (by omega) _ _ _ _), by have := BU.size; simp only [World.size_setCell]; omega, ⟨gpz, by simp only [World.size_setCell]; omega⟩⟩
          · skip
            go_simp
            refine hK.out _ _ ⟨cell_on ((Below.refl _ _).alloc (Nat.le_refl _) _) hHeld.1, cell_on ((Below.refl _ _).alloc (Nat.le_refl _) _) hHeld.2.1, cell_on ((Below.refl _ _).alloc (Nat.le_refl _) _) hHeld.2.2.1, cell_on ((Below.refl _ _).alloc (Nat.le_refl _) _) hHeld.2.2.2.1, cell_on ((Below.refl _ _).alloc (Nat.le_refl _) _) hHeld.2.2.2.2.1, cell_on ((Below.refl _ _).alloc (Nat.le_refl _) _) hHeld.2.2.2.2.2.1, also hHeld.2.2.2.2.2.2 ((Below.refl _ _).alloc (Nat.le_refl _) _)⟩ (fun hHeld => ?_)
            clear hK Kc
            have y_pz := b4_new X3 (.int .i64 0) (.slice none 0 0) (.int .i64 0) (.slice none 0 0) 41
            have e6 : Below X3.heap.size X3 (X3.alloc (.cells #[.int .i64 0, .slice none 0 0, .int .i64 0, .slice none 0 0] 41)) := (Below.refl _ _).alloc (Nat.le_refl _) _
            have lpz : X3.heap.size < (X3.alloc (.cells #[.int .i64 0, .slice none 0 0, .int .i64 0, .slice none 0 0] 41)).heap.size := by simp
            have gpz : W.heap.size ≤ X3.heap.size := BU.size
            have n_q11_0_pz : NA X3.heap.size d11 l11 := q11.rn.hd.sl.na (Nat.le_refl _)
            have n_q11_1_pz : NA X3.heap.size g11 h11 := q11.rd.hd.sl.na (Nat.le_refl _)
            have n_q21_0_pz : NA X3.heap.size d21 l21 := q21.rn.hd.sl.na (Nat.le_refl _)
            have n_q21_1_pz : NA X3.heap.size g21 h21 := q21.rd.hd.sl.na (Nat.le_refl _)
            have n_q22_0_pz : NA X3.heap.size d22 l22 := q22.rn.hd.sl.na (Nat.le_refl _)
            have n_q22_1_pz : NA X3.heap.size g22 h22 := q22.rd.hd.sl.na (Nat.le_refl _)
            have n_q12_0_pz : NA X3.heap.size d12 l12 := q12.rn.hd.sl.na (Nat.le_refl _)
            have n_q12_1_pz : NA X3.heap.size g12 h12 := q12.rd.hd.sl.na (Nat.le_refl _)
            generalize X3.alloc (.cells #[.int .i64 0, .slice none 0 0, .int .i64 0, .slice none 0 0] 41) = X6 at y_pz e6 lpz hHeld ⊢
            replace q11 := q11.below e6
            replace q21 := q21.below e6
            replace q22 := q22.below e6
            replace q12 := q12.below e6
            replace x_a := x_a.on e6
            replace x_b := x_b.on e6
            replace x_c := x_c.on e6
            replace BB := also BB e6
            replace BU := also BU e6
            generalize X3.heap.size = pz at y_pz lpz gpz n_q11_0_pz n_q11_1_pz n_q21_0_pz n_q21_1_pz n_q22_0_pz n_q22_1_pz n_q12_0_pz n_q12_1_pz ⊢
            refine take_call (i := 7) rfl (by kernel_rfl) (fun Kc hK => ?_)
            go_simp
            (go_at_call 41; refine (rqMul s11 d11 l11 c11 t11 g11 h11 k11 16 1 s12 d12 l12 c12 t12 g12 h12 k12 N D 85 _ (q11.more (by decide) (by decide)) q12 (by decide) _ _ rfl rfl).mono ?_; rintro e X7 ⟨s13, d13, l13, c13, t13, g13, h13, k13, rfl, q13, f13, e7⟩)
            refine hK.out _ _ ⟨cell_on e7 hHeld.1, cell_on e7 hHeld.2.1, cell_on e7 hHeld.2.2.1, cell_on e7 hHeld.2.2.2.1, cell_on e7 hHeld.2.2.2.2.1, cell_on e7 hHeld.2.2.2.2.2.1, also hHeld.2.2.2.2.2.2 e7⟩ (fun hHeld => ?_)
            clear hK Kc
            have n_q13_0_pz : NA pz d13 l13 := (f13 pz lpz trivial).1
            have n_q13_1_pz : NA pz g13 h13 := (f13 pz lpz trivial).2
            replace q11 := q11.below e7
            replace q21 := q21.below e7
            replace q22 := q22.below e7
            replace q12 := q12.below e7
            replace x_a := x_a.on e7
            replace x_b := x_b.on e7
            replace x_c := x_c.on e7
            replace BB := also BB e7
            replace BU := also BU e7
            replace y_pz := y_pz.on e7
            replace lpz := Nat.lt_of_lt_of_le lpz e7.size
            have ⟨c_pz_0, c_pz_1, c_pz_2, c_pz_3, c_pz_4, c_pz_5, c_pz_6, c_pz_7⟩ : B4 X7 pz (.int .i64 0) (.slice none 0 0) (.int .i64 0) (.slice none 0 0) := y_pz
            refine take_call (i := 9) rfl (by kernel_rfl) (fun Kc hK => ?_)
            go_simp
            refine hK.out _ _ ⟨cell_put4 hHeld.1 (by omega) _ _ _ _, cell_put4 hHeld.2.1 (by omega) _ _ _ _, cell_put4 hHeld.2.2.1 (by omega) _ _ _ _, cell_put4 hHeld.2.2.2.1 (by omega) _ _ _ _, cell_put4 hHeld.2.2.2.2.1 (by omega) _ _ _ _, cell_put4 hHeld.2.2.2.2.2.1 (by omega) _ _ _ _, below_put4 hHeld.2.2.2.2.2.2 (by omega) _ _ _ _⟩ (fun hHeld => ?_)
            clear hK Kc
            refine wpAnyH_done (by kernel_rfl) ?_ _
            rw [HQQ.out]
            exact ⟨rfl, pz, s11, d11, l11, c11, t11, g11, h11, k11, s21, d21, l21, c21, t21, g21, h21, k21, s22, d22, l22, c22, t22, g22, h22, k22, s12, d12, l12, c12, t12, g12, h12, k12, s13, d13, l13, c13, t13, g13, h13, k13, rfl, ((((q11.put n_q11_0_pz n_q11_1_pz 0 _).put n_q11_0_pz n_q11_1_pz 1 _).put n_q11_0_pz n_q11_1_pz 2 _).put n_q11_0_pz n_q11_1_pz 3 _), ((((q21.put n_q21_0_pz n_q21_1_pz 0 _).put n_q21_0_pz n_q21_1_pz 1 _).put n_q21_0_pz n_q21_1_pz 2 _).put n_q21_0_pz n_q21_1_pz 3 _), ((((q22.put n_q22_0_pz n_q22_1_pz 0 _).put n_q22_0_pz n_q22_1_pz 1 _).put n_q22_0_pz n_q22_1_pz 2 _).put n_q22_0_pz n_q22_1_pz 3 _), ((((q12.put n_q12_0_pz n_q12_1_pz 0 _).put n_q12_0_pz n_q12_1_pz 1 _).put n_q12_0_pz n_q12_1_pz 2 _).put n_q12_0_pz n_q12_1_pz 3 _), ((((q13.put n_q13_0_pz n_q13_1_pz 0 _).put n_q13_0_pz n_q13_1_pz 1 _).put n_q13_0_pz n_q13_1_pz 2 _).put n_q13_0_pz n_q13_1_pz 3 _), ((((x_a.put (by omega)).put (by omega)).put (by omega)).put (by omega)), ((((x_b.put (by omega)).put (by omega)).put (by omega)).put (by omega)), ((((x_c.put (by omega)).put (by omega)).put (by omega)).put (by omega)), y_pz.set, (below_put4 BB (by omega) _ _ _ _), by have := BU.size; simp only [World.size_setCell]; omega, ⟨gpz, by simp only [World.size_setCell]; omega⟩⟩
        · skip
          go_simp
          refine hK.out _ _ ⟨cell_on ((Below.refl _ _).alloc (Nat.le_refl _) _) hHeld.1, cell_on ((Below.refl _ _).alloc (Nat.le_refl _) _) hHeld.2.1, cell_on ((Below.refl _ _).alloc (Nat.le_refl _) _) hHeld.2.2.1, cell_on ((Below.refl _ _).alloc (Nat.le_refl _) _) hHeld.2.2.2.1, cell_on ((Below.refl _ _).alloc (Nat.le_refl _) _) hHeld.2.2.2.2.1, cell_on ((Below.refl _ _).alloc (Nat.le_refl _) _) hHeld.2.2.2.2.2.1, also hHeld.2.2.2.2.2.2 ((Below.refl _ _).alloc (Nat.le_refl _) _)⟩ (fun hHeld => ?_)
          clear hK Kc
          have y_pz := b4_new X2 (.int .i64 0) (.slice none 0 0) (.int .i64 0) (.slice none 0 0) 41
          have e8 : Below X2.heap.size X2 (X2.alloc (.cells #[.int .i64 0, .slice none 0 0, .int .i64 0, .slice none 0 0] 41)) := (Below.refl _ _).alloc (Nat.le_refl _) _
          have lpz : X2.heap.size < (X2.alloc (.cells #[.int .i64 0, .slice none 0 0, .int .i64 0, .slice none 0 0] 41)).heap.size := by simp
          have gpz : W.heap.size ≤ X2.heap.size := BU.size
          have n_q11_0_pz : NA X2.heap.size d11 l11 := q11.rn.hd.sl.na (Nat.le_refl _)
          have n_q11_1_pz : NA X2.heap.size g11 h11 := q11.rd.hd.sl.na (Nat.le_refl _)
          have n_q21_0_pz : NA X2.heap.size d21 l21 := q21.rn.hd.sl.na (Nat.le_refl _)
          have n_q21_1_pz : NA X2.heap.size g21 h21 := q21.rd.hd.sl.na (Nat.le_refl _)
          have n_q22_0_pz : NA X2.heap.size d22 l22 := q22.rn.hd.sl.na (Nat.le_refl _)
          have n_q22_1_pz : NA X2.heap.size g22 h22 := q22.rd.hd.sl.na (Nat.le_refl _)
          generalize X2.alloc (.cells #[.int .i64 0, .slice none 0 0, .int .i64 0, .slice none 0 0] 41) = X8 at y_pz e8 lpz hHeld ⊢
          replace q11 := q11.below e8
          replace q21 := q21.below e8
          replace q22 := q22.below e8
          replace x_a := x_a.on e8
          replace x_b := x_b.on e8
          replace x_c := x_c.on e8
          replace BB := also BB e8
          replace BU := also BU e8
          generalize X2.heap.size = pz at y_pz lpz gpz n_q11_0_pz n_q11_1_pz n_q21_0_pz n_q21_1_pz n_q22_0_pz n_q22_1_pz ⊢
          refine take_call (i := 6) rfl (by kernel_rfl) (fun Kc hK => ?_)
          go_simp
          (go_at_call 17; refine (rcFar s21 d21 l21 c21 t21 g21 h21 k21 N1 D1 s22 d22 l22 c22 t22 g22 h22 k22 N2 D2 a1 a2 10 _ q21 q22 Ra (by decide) (by decide) Eux.out Eex.out Euy.out Eey.out EN.out ED.out).mono ?_; rintro e X9 ⟨s12, d12, l12, c12, t12, g12, h12, k12, rfl, q12, f12, e9⟩)
          refine hK.out _ _ ⟨cell_on e9 hHeld.1, cell_on e9 hHeld.2.1, cell_on e9 hHeld.2.2.1, cell_on e9 hHeld.2.2.2.1, cell_on e9 hHeld.2.2.2.2.1, cell_on e9 hHeld.2.2.2.2.2.1, also hHeld.2.2.2.2.2.2 e9⟩ (fun hHeld => ?_)
          clear hK Kc
          have n_q12_0_pz : NA pz d12 l12 := (f12 pz lpz trivial).1
          have n_q12_1_pz : NA pz g12 h12 := (f12 pz lpz trivial).2
          replace q11 := q11.below e9
          replace q21 := q21.below e9
          replace q22 := q22.below e9
          replace x_a := x_a.on e9
          replace x_b := x_b.on e9
          replace x_c := x_c.on e9
          replace BB := also BB e9
          replace BU := also BU e9
          replace y_pz := y_pz.on e9
          replace lpz := Nat.lt_of_lt_of_le lpz e9.size
          refine take_call (i := 7) rfl (by kernel_rfl) (fun Kc hK => ?_)
          go_simp
          (go_at_call 41; refine (rqMul s11 d11 l11 c11 t11 g11 h11 k11 16 1 s12 d12 l12 c12 t12 g12 h12 k12 N D 85 _ (q11.more (by decide) (by decide)) q12 (by decide) _ _ rfl rfl).mono ?_; rintro e X10 ⟨s13, d13, l13, c13, t13, g13, h13, k13, rfl, q13, f13, e10⟩)
          refine hK.out _ _ ⟨cell_on e10 hHeld.1, cell_on e10 hHeld.2.1, cell_on e10 hHeld.2.2.1, cell_on e10 hHeld.2.2.2.1, cell_on e10 hHeld.2.2.2.2.1, cell_on e10 hHeld.2.2.2.2.2.1, also hHeld.2.2.2.2.2.2 e10⟩ (fun hHeld => ?_)
          clear hK Kc
          have n_q13_0_pz : NA pz d13 l13 := (f13 pz lpz trivial).1
          have n_q13_1_pz : NA pz g13 h13 := (f13 pz lpz trivial).2
          replace q11 := q11.below e10
          replace q21 := q21.below e10
          replace q22 := q22.below e10
          replace q12 := q12.below e10
          replace x_a := x_a.on e10
          replace x_b := x_b.on e10
          replace x_c := x_c.on e10
          replace BB := also BB e10
          replace BU := also BU e10
          replace y_pz := y_pz.on e10
          replace lpz := Nat.lt_of_lt_of_le lpz e10.size
          have ⟨c_pz_0, c_pz_1, c_pz_2, c_pz_3, c_pz_4, c_pz_5, c_pz_6, c_pz_7⟩ : B4 X10 pz (.int .i64 0) (.slice none 0 0) (.int .i64 0) (.slice none 0 0) := y_pz
          refine take_call (i := 9) rfl (by kernel_rfl) (fun Kc hK => ?_)
          go_simp
          refine hK.out _ _ ⟨cell_put4 hHeld.1 (by omega) _ _ _ _, cell_put4 hHeld.2.1 (by omega) _ _ _ _, cell_put4 hHeld.2.2.1 (by omega) _ _ _ _, cell_put4 hHeld.2.2.2.1 (by omega) _ _ _ _, cell_put4 hHeld.2.2.2.2.1 (by omega) _ _ _ _, cell_put4 hHeld.2.2.2.2.2.1 (by omega) _ _ _ _, below_put4 hHeld.2.2.2.2.2.2 (by omega) _ _ _ _⟩ (fun hHeld => ?_)
          clear hK Kc
          refine wpAnyH_done (by kernel_rfl) ?_ _
          rw [HQQ.out]
          exact ⟨rfl, pz, s11, d11, l11, c11, t11, g11, h11, k11, s21, d21, l21, c21, t21, g21, h21, k21, s22, d22, l22, c22, t22, g22, h22, k22, s12, d12, l12, c12, t12, g12, h12, k12, s13, d13, l13, c13, t13, g13, h13, k13, rfl, ((((q11.put n_q11_0_pz n_q11_1_pz 0 _).put n_q11_0_pz n_q11_1_pz 1 _).put n_q11_0_pz n_q11_1_pz 2 _).put n_q11_0_pz n_q11_1_pz 3 _), ((((q21.put n_q21_0_pz n_q21_1_pz 0 _).put n_q21_0_pz n_q21_1_pz 1 _).put n_q21_0_pz n_q21_1_pz 2 _).put n_q21_0_pz n_q21_1_pz 3 _), ((((q22.put n_q22_0_pz n_q22_1_pz 0 _).put n_q22_0_pz n_q22_1_pz 1 _).put n_q22_0_pz n_q22_1_pz 2 _).put n_q22_0_pz n_q22_1_pz 3 _), ((((q12.put n_q12_0_pz n_q12_1_pz 0 _).put n_q12_0_pz n_q12_1_pz 1 _).put n_q12_0_pz n_q12_1_pz 2 _).put n_q12_0_pz n_q12_1_pz 3 _), ((((q13.put n_q13_0_pz n_q13_1_pz 0 _).put n_q13_0_pz n_q13_1_pz 1 _).put n_q13_0_pz n_q13_1_pz 2 _).put n_q13_0_pz n_q13_1_pz 3 _), ((((x_a.put (by omega)).put (by omega)).put (by omega)).put (by omega)), ((((x_b.put (by omega)).put (by omega)).put (by omega)).put (by omega)), ((((x_c.put (by omega)).put (by omega)).put (by omega)).put (by omega)), y_pz.set, (below_put4 BB (by omega) _ _ _ _), by have := BU.size; simp only [World.size_setCell]; omega, ⟨gpz, by simp only [World.size_setCell]; omega⟩⟩
      · skip
        go_simp
        refine hK.out _ _ ⟨cell_on ((Below.refl _ _).alloc (Nat.le_refl _) _) hHeld.1, cell_on ((Below.refl _ _).alloc (Nat.le_refl _) _) hHeld.2.1, cell_on ((Below.refl _ _).alloc (Nat.le_refl _) _) hHeld.2.2.1, cell_on ((Below.refl _ _).alloc (Nat.le_refl _) _) hHeld.2.2.2.1, cell_on ((Below.refl _ _).alloc (Nat.le_refl _) _) hHeld.2.2.2.2.1, cell_on ((Below.refl _ _).alloc (Nat.le_refl _) _) hHeld.2.2.2.2.2.1, also hHeld.2.2.2.2.2.2 ((Below.refl _ _).alloc (Nat.le_refl _) _)⟩ (fun hHeld => ?_)
        clear hK Kc
        have y_pz := b4_new X1 (.int .i64 0) (.slice none 0 0) (.int .i64 0) (.slice none 0 0) 41
        have e11 : Below X1.heap.size X1 (X1.alloc (.cells #[.int .i64 0, .slice none 0 0, .int .i64 0, .slice none 0 0] 41)) := (Below.refl _ _).alloc (Nat.le_refl _) _
        have lpz : X1.heap.size < (X1.alloc (.cells #[.int .i64 0, .slice none 0 0, .int .i64 0, .slice none 0 0] 41)).heap.size := by simp
        have gpz : W.heap.size ≤ X1.heap.size := BU.size
        have n_q11_0_pz : NA X1.heap.size d11 l11 := q11.rn.hd.sl.na (Nat.le_refl _)
        have n_q11_1_pz : NA X1.heap.size g11 h11 := q11.rd.hd.sl.na (Nat.le_refl _)
        generalize X1.alloc (.cells #[.int .i64 0, .slice none 0 0, .int .i64 0, .slice none 0 0] 41) = X11 at y_pz e11 lpz hHeld ⊢
        replace q11 := q11.below e11
        replace x_a := x_a.on e11
        replace x_b := x_b.on e11
        replace x_c := x_c.on e11
        replace BB := also BB e11
        replace BU := also BU e11
        generalize X1.heap.size = pz at y_pz lpz gpz n_q11_0_pz n_q11_1_pz ⊢
        refine take_call (i := 4) rfl (by kernel_rfl) (fun Kc hK => ?_)
        go_simp
        (go_at_call 12; refine (rcCenter a1 a2 b1 b2 c1 c2 _ ha hb hc H0.out EN1.out ED1.out EN2.out ED2.out).mono ?_; rintro e X12 ⟨s21, d21, l21, c21, t21, g21, h21, k21, s22, d22, l22, c22, t22, g22, h22, k22, rfl, q21, q22, f21, e12⟩)
        refine hK.out _ _ ⟨cell_on e12 hHeld.1, cell_on e12 hHeld.2.1, cell_on e12 hHeld.2.2.1, cell_on e12 hHeld.2.2.2.1, cell_on e12 hHeld.2.2.2.2.1, cell_on e12 hHeld.2.2.2.2.2.1, also hHeld.2.2.2.2.2.2 e12⟩ (fun hHeld => ?_)
        clear hK Kc
        have n_q21_0_pz : NA pz d21 l21 := (f21 pz lpz).1.1
        have n_q21_1_pz : NA pz g21 h21 := (f21 pz lpz).1.2
        have n_q22_0_pz : NA pz d22 l22 := (f21 pz lpz).2.1
        have n_q22_1_pz : NA pz g22 h22 := (f21 pz lpz).2.2
        replace q11 := q11.below e12
        replace x_a := x_a.on e12
        replace x_b := x_b.on e12
        replace x_c := x_c.on e12
        replace BB := also BB e12
        replace BU := also BU e12
        replace y_pz := y_pz.on e12
        replace lpz := Nat.lt_of_lt_of_le lpz e12.size
        refine take_call (i := 6) rfl (by kernel_rfl) (fun Kc hK => ?_)
        go_simp
        (go_at_call 17; refine (rcFar s21 d21 l21 c21 t21 g21 h21 k21 N1 D1 s22 d22 l22 c22 t22 g22 h22 k22 N2 D2 a1 a2 10 _ q21 q22 Ra (by decide) (by decide) Eux.out Eex.out Euy.out Eey.out EN.out ED.out).mono ?_; rintro e X13 ⟨s12, d12, l12, c12, t12, g12, h12, k12, rfl, q12, f12, e13⟩)
        refine hK.out _ _ ⟨cell_on e13 hHeld.1, cell_on e13 hHeld.2.1, cell_on e13 hHeld.2.2.1, cell_on e13 hHeld.2.2.2.1, cell_on e13 hHeld.2.2.2.2.1, cell_on e13 hHeld.2.2.2.2.2.1, also hHeld.2.2.2.2.2.2 e13⟩ (fun hHeld => ?_)
        clear hK Kc
        have n_q12_0_pz : NA pz d12 l12 := (f12 pz lpz trivial).1
        have n_q12_1_pz : NA pz g12 h12 := (f12 pz lpz trivial).2
        replace q11 := q11.below e13
        replace q21 := q21.below e13
        replace q22 := q22.below e13
        replace x_a := x_a.on e13
        replace x_b := x_b.on e13
        replace x_c := x_c.on e13
        replace BB := also BB e13
        replace BU := also BU e13
        replace y_pz := y_pz.on e13
        replace lpz := Nat.lt_of_lt_of_le lpz e13.size
        refine take_call (i := 7) rfl (by kernel_rfl) (fun Kc hK => ?_)
        go_simp
        (go_at_call 41; refine (rqMul s11 d11 l11 c11 t11 g11 h11 k11 16 1 s12 d12 l12 c12 t12 g12 h12 k12 N D 85 _ (q11.more (by decide) (by decide)) q12 (by decide) _ _ rfl rfl).mono ?_; rintro e X14 ⟨s13, d13, l13, c13, t13, g13, h13, k13, rfl, q13, f13, e14⟩)
        refine hK.out _ _ ⟨cell_on e14 hHeld.1, cell_on e14 hHeld.2.1, cell_on e14 hHeld.2.2.1, cell_on e14 hHeld.2.2.2.1, cell_on e14 hHeld.2.2.2.2.1, cell_on e14 hHeld.2.2.2.2.2.1, also hHeld.2.2.2.2.2.2 e14⟩ (fun hHeld => ?_)
        clear hK Kc
        have n_q13_0_pz : NA pz d13 l13 := (f13 pz lpz trivial).1
        have n_q13_1_pz : NA pz g13 h13 := (f13 pz lpz trivial).2
        replace q11 := q11.below e14
        replace q21 := q21.below e14
        replace q22 := q22.below e14
        replace q12 := q12.below e14
        replace x_a := x_a.on e14
        replace x_b := x_b.on e14
        replace x_c := x_c.on e14
        replace BB := also BB e14
        replace BU := also BU e14
        replace y_pz := y_pz.on e14
        replace lpz := Nat.lt_of_lt_of_le lpz e14.size
        have ⟨c_pz_0, c_pz_1, c_pz_2, c_pz_3, c_pz_4, c_pz_5, c_pz_6, c_pz_7⟩ : B4 X14 pz (.int .i64 0) (.slice none 0 0) (.int .i64 0) (.slice none 0 0) := y_pz
        refine take_call (i := 9) rfl (by kernel_rfl) (fun Kc hK => ?_)
        go_simp
        refine hK.out _ _ ⟨cell_put4 hHeld.1 (by omega) _ _ _ _, cell_put4 hHeld.2.1 (by omega) _ _ _ _, cell_put4 hHeld.2.2.1 (by omega) _ _ _ _, cell_put4 hHeld.2.2.2.1 (by omega) _ _ _ _, cell_put4 hHeld.2.2.2.2.1 (by omega) _ _ _ _, cell_put4 hHeld.2.2.2.2.2.1 (by omega) _ _ _ _, below_put4 hHeld.2.2.2.2.2.2 (by omega) _ _ _ _⟩ (fun hHeld => ?_)
        clear hK Kc
        refine wpAnyH_done (by kernel_rfl) ?_ _
        rw [HQQ.out]
        exact ⟨rfl, pz, s11, d11, l11, c11, t11, g11, h11, k11, s21, d21, l21, c21, t21, g21, h21, k21, s22, d22, l22, c22, t22, g22, h22, k22, s12, d12, l12, c12, t12, g12, h12, k12, s13, d13, l13, c13, t13, g13, h13, k13, rfl, ((((q11.put n_q11_0_pz n_q11_1_pz 0 _).put n_q11_0_pz n_q11_1_pz 1 _).put n_q11_0_pz n_q11_1_pz 2 _).put n_q11_0_pz n_q11_1_pz 3 _), ((((q21.put n_q21_0_pz n_q21_1_pz 0 _).put n_q21_0_pz n_q21_1_pz 1 _).put n_q21_0_pz n_q21_1_pz 2 _).put n_q21_0_pz n_q21_1_pz 3 _), ((((q22.put n_q22_0_pz n_q22_1_pz 0 _).put n_q22_0_pz n_q22_1_pz 1 _).put n_q22_0_pz n_q22_1_pz 2 _).put n_q22_0_pz n_q22_1_pz 3 _), ((((q12.put n_q12_0_pz n_q12_1_pz 0 _).put n_q12_0_pz n_q12_1_pz 1 _).put n_q12_0_pz n_q12_1_pz 2 _).put n_q12_0_pz n_q12_1_pz 3 _), ((((q13.put n_q13_0_pz n_q13_1_pz 0 _).put n_q13_0_pz n_q13_1_pz 1 _).put n_q13_0_pz n_q13_1_pz 2 _).put n_q13_0_pz n_q13_1_pz 3 _), ((((x_a.put (by omega)).put (by omega)).put (by omega)).put (by omega)), ((((x_b.put (by omega)).put (by omega)).put (by omega)).put (by omega)), ((((x_c.put (by omega)).put (by omega)).put (by omega)).put (by omega)), y_pz.set, (below_put4 BB (by omega) _ _ _ _), by have := BU.size; simp only [World.size_setCell]; omega, ⟨gpz, by simp only [World.size_setCell]; omega⟩⟩
    · skip
      go_simp
      refine hK.out _ _ ⟨cell_on ((Below.refl _ _).alloc (Nat.le_refl _) _) hHeld.1, cell_on ((Below.refl _ _).alloc (Nat.le_refl _) _) hHeld.2.1, cell_on ((Below.refl _ _).alloc (Nat.le_refl _) _) hHeld.2.2.1, cell_on ((Below.refl _ _).alloc (Nat.le_refl _) _) hHeld.2.2.2.1, cell_on ((Below.refl _ _).alloc (Nat.le_refl _) _) hHeld.2.2.2.2.1, cell_on ((Below.refl _ _).alloc (Nat.le_refl _) _) hHeld.2.2.2.2.2.1, also hHeld.2.2.2.2.2.2 ((Below.refl _ _).alloc (Nat.le_refl _) _)⟩ (fun hHeld => ?_)
      clear hK Kc
      have y_pz := b4_new X0 (.int .i64 0) (.slice none 0 0) (.int .i64 0) (.slice none 0 0) 41
      have e15 : Below X0.heap.size X0 (X0.alloc (.cells #[.int .i64 0, .slice none 0 0, .int .i64 0, .slice none 0 0] 41)) := (Below.refl _ _).alloc (Nat.le_refl _) _
      have lpz : X0.heap.size < (X0.alloc (.cells #[.int .i64 0, .slice none 0 0, .int .i64 0, .slice none 0 0] 41)).heap.size := by simp
      have gpz : W.heap.size ≤ X0.heap.size := BU.size
      generalize X0.alloc (.cells #[.int .i64 0, .slice none 0 0, .int .i64 0, .slice none 0 0] 41) = X15 at y_pz e15 lpz hHeld ⊢
      replace x_a := x_a.on e15
      replace x_b := x_b.on e15
      replace x_c := x_c.on e15
      replace BB := also BB e15
      replace BU := also BU e15
      generalize X0.heap.size = pz at y_pz lpz gpz ⊢
      refine take_call (i := 0) rfl (by kernel_rfl) (fun Kc hK => ?_)
      go_simp
      (go_at_call 15; refine (rqLong 16 _ (by decide) (by decide)).mono ?_; rintro e X16 ⟨s11, d11, l11, c11, t11, g11, h11, k11, rfl, q11, f11, e16⟩)
      refine hK.out _ _ ⟨cell_on e16 hHeld.1, cell_on e16 hHeld.2.1, cell_on e16 hHeld.2.2.1, cell_on e16 hHeld.2.2.2.1, cell_on e16 hHeld.2.2.2.2.1, cell_on e16 hHeld.2.2.2.2.2.1, also hHeld.2.2.2.2.2.2 e16⟩ (fun hHeld => ?_)
      clear hK Kc
      have n_q11_0_pz : NA pz d11 l11 := (f11 pz lpz trivial).1
      have n_q11_1_pz : NA pz g11 h11 := (f11 pz lpz trivial).2
      replace x_a := x_a.on e16
      replace x_b := x_b.on e16
      replace x_c := x_c.on e16
      replace BB := also BB e16
      replace BU := also BU e16
      replace y_pz := y_pz.on e16
      replace lpz := Nat.lt_of_lt_of_le lpz e16.size
      refine take_call (i := 4) rfl (by kernel_rfl) (fun Kc hK => ?_)
      go_simp
      (go_at_call 12; refine (rcCenter a1 a2 b1 b2 c1 c2 _ ha hb hc H0.out EN1.out ED1.out EN2.out ED2.out).mono ?_; rintro e X17 ⟨s21, d21, l21, c21, t21, g21, h21, k21, s22, d22, l22, c22, t22, g22, h22, k22, rfl, q21, q22, f21, e17⟩)
      refine hK.out _ _ ⟨cell_on e17 hHeld.1, cell_on e17 hHeld.2.1, cell_on e17 hHeld.2.2.1, cell_on e17 hHeld.2.2.2.1, cell_on e17 hHeld.2.2.2.2.1, cell_on e17 hHeld.2.2.2.2.2.1, also hHeld.2.2.2.2.2.2 e17⟩ (fun hHeld => ?_)
      clear hK Kc
      have n_q21_0_pz : NA pz d21 l21 := (f21 pz lpz).1.1
      have n_q21_1_pz : NA pz g21 h21 := (f21 pz lpz).1.2
      have n_q22_0_pz : NA pz d22 l22 := (f21 pz lpz).2.1
      have n_q22_1_pz : NA pz g22 h22 := (f21 pz lpz).2.2
      replace q11 := q11.below e17
      replace x_a := x_a.on e17
      replace x_b := x_b.on e17
      replace x_c := x_c.on e17
      replace BB := also BB e17
      replace BU := also BU e17
      replace y_pz := y_pz.on e17
      replace lpz := Nat.lt_of_lt_of_le lpz e17.size
      refine take_call (i := 6) rfl (by kernel_rfl) (fun Kc hK => ?_)
      go_simp
      (go_at_call 17; refine (rcFar s21 d21 l21 c21 t21 g21 h21 k21 N1 D1 s22 d22 l22 c22 t22 g22 h22 k22 N2 D2 a1 a2 10 _ q21 q22 Ra (by decide) (by decide) Eux.out Eex.out Euy.out Eey.out EN.out ED.out).mono ?_; rintro e X18 ⟨s12, d12, l12, c12, t12, g12, h12, k12, rfl, q12, f12, e18⟩)
      refine hK.out _ _ ⟨cell_on e18 hHeld.1, cell_on e18 hHeld.2.1, cell_on e18 hHeld.2.2.1, cell_on e18 hHeld.2.2.2.1, cell_on e18 hHeld.2.2.2.2.1, cell_on e18 hHeld.2.2.2.2.2.1, also hHeld.2.2.2.2.2.2 e18⟩ (fun hHeld => ?_)
      clear hK Kc
      have n_q12_0_pz : NA pz d12 l12 := (f12 pz lpz trivial).1
      have n_q12_1_pz : NA pz g12 h12 := (f12 pz lpz trivial).2
      replace q11 := q11.below e18
      replace q21 := q21.below e18
      replace q22 := q22.below e18
      replace x_a := x_a.on e18
      replace x_b := x_b.on e18
      replace x_c := x_c.on e18
      replace BB := also BB e18
      replace BU := also BU e18
      replace y_pz := y_pz.on e18
      replace lpz := Nat.lt_of_lt_of_le lpz e18.size
      refine take_call (i := 7) rfl (by kernel_rfl) (fun Kc hK => ?_)
      go_simp
      (go_at_call 41; refine (rqMul s11 d11 l11 c11 t11 g11 h11 k11 16 1 s12 d12 l12 c12 t12 g12 h12 k12 N D 85 _ (q11.more (by decide) (by decide)) q12 (by decide) _ _ rfl rfl).mono ?_; rintro e X19 ⟨s13, d13, l13, c13, t13, g13, h13, k13, rfl, q13, f13, e19⟩)
      refine hK.out _ _ ⟨cell_on e19 hHeld.1, cell_on e19 hHeld.2.1, cell_on e19 hHeld.2.2.1, cell_on e19 hHeld.2.2.2.1, cell_on e19 hHeld.2.2.2.2.1, cell_on e19 hHeld.2.2.2.2.2.1, also hHeld.2.2.2.2.2.2 e19⟩ (fun hHeld => ?_)
      clear hK Kc
      have n_q13_0_pz : NA pz d13 l13 := (f13 pz lpz trivial).1
      have n_q13_1_pz : NA pz g13 h13 := (f13 pz lpz trivial).2
      replace q11 := q11.below e19
      replace q21 := q21.below e19
      replace q22 := q22.below e19
      replace q12 := q12.below e19
      replace x_a := x_a.on e19
      replace x_b := x_b.on e19
      replace x_c := x_c.on e19
      replace BB := also BB e19
      replace BU := also BU e19
      replace y_pz := y_pz.on e19
      replace lpz := Nat.lt_of_lt_of_le lpz e19.size
      have ⟨c_pz_0, c_pz_1, c_pz_2, c_pz_3, c_pz_4, c_pz_5, c_pz_6, c_pz_7⟩ : B4 X19 pz (.int .i64 0) (.slice none 0 0) (.int .i64 0) (.slice none 0 0) := y_pz
      refine take_call (i := 9) rfl (by kernel_rfl) (fun Kc hK => ?_)
      go_simp
      refine hK.out _ _ ⟨cell_put4 hHeld.1 (by omega) _ _ _ _, cell_put4 hHeld.2.1 (by omega) _ _ _ _, cell_put4 hHeld.2.2.1 (by omega) _ _ _ _, cell_put4 hHeld.2.2.2.1 (by omega) _ _ _ _, cell_put4 hHeld.2.2.2.2.1 (by omega) _ _ _ _, cell_put4 hHeld.2.2.2.2.2.1 (by omega) _ _ _ _, below_put4 hHeld.2.2.2.2.2.2 (by omega) _ _ _ _⟩ (fun hHeld => ?_)
      clear hK Kc
      refine wpAnyH_done (by kernel_rfl) ?_ _
      rw [HQQ.out]
      exact ⟨rfl, pz, s11, d11, l11, c11, t11, g11, h11, k11, s21, d21, l21, c21, t21, g21, h21, k21, s22, d22, l22, c22, t22, g22, h22, k22, s12, d12, l12, c12, t12, g12, h12, k12, s13, d13, l13, c13, t13, g13, h13, k13, rfl, ((((q11.put n_q11_0_pz n_q11_1_pz 0 _).put n_q11_0_pz n_q11_1_pz 1 _).put n_q11_0_pz n_q11_1_pz 2 _).put n_q11_0_pz n_q11_1_pz 3 _), ((((q21.put n_q21_0_pz n_q21_1_pz 0 _).put n_q21_0_pz n_q21_1_pz 1 _).put n_q21_0_pz n_q21_1_pz 2 _).put n_q21_0_pz n_q21_1_pz 3 _), ((((q22.put n_q22_0_pz n_q22_1_pz 0 _).put n_q22_0_pz n_q22_1_pz 1 _).put n_q22_0_pz n_q22_1_pz 2 _).put n_q22_0_pz n_q22_1_pz 3 _), ((((q12.put n_q12_0_pz n_q12_1_pz 0 _).put n_q12_0_pz n_q12_1_pz 1 _).put n_q12_0_pz n_q12_1_pz 2 _).put n_q12_0_pz n_q12_1_pz 3 _), ((((q13.put n_q13_0_pz n_q13_1_pz 0 _).put n_q13_0_pz n_q13_1_pz 1 _).put n_q13_0_pz n_q13_1_pz 2 _).put n_q13_0_pz n_q13_1_pz 3 _), ((((x_a.put (by omega)).put (by omega)).put (by omega)).put (by omega)), ((((x_b.put (by omega)).put (by omega)).put (by omega)).put (by omega)), ((((x_c.put (by omega)).put (by omega)).put (by omega)).put (by omega)), y_pz.set, (below_put4 BB (by omega) _ _ _ _), by have := BU.size; simp only [World.size_setCell]; omega, ⟨gpz, by simp only [World.size_setCell]; omega⟩⟩
  rw [HQQ.out]
  rintro e act Y1 ⟨rfl, pz, s11, d11, l11, c11, t11, g11, h11, k11, s21, d21, l21, c21, t21, g21, h21, k21, s22, d22, l22, c22, t22, g22, h22, k22, s12, d12, l12, c12, t12, g12, h12, k12, s13, d13, l13, c13, t13, g13, h13, k13, rfl, q11, q21, q22, q12, q13, x_a, x_b, x_c, x_r, BB, z_Y1, z_Y1_pz⟩
  clear HQQ QQ
  try dsimp only
  go_wp2
  have dd1 : Below Y1.heap.size Y1 Y1.drew := (Below.refl _ _).drew
  have zdd1 := dd1.size
  replace BB := also BB dd1
  replace x_a := x_a.on dd1
  replace x_b := x_b.on dd1
  replace x_c := x_c.on dd1
  replace q11 := q11.below dd1
  replace q21 := q21.below dd1
  replace q22 := q22.below dd1
  replace q12 := q12.below dd1
  replace q13 := q13.below dd1
  replace x_r := x_r.on dd1
  refine wp_region_held_drew (S := (fun w' => w'.cell? ⟨pz, 0, none⟩ = some (.int .i64 s13) ∧ w'.cell? ⟨pz, 1, none⟩ = some (.slice d13 l13 c13) ∧ w'.cell? ⟨pz, 2, none⟩ = some (.int .i64 t13) ∧ w'.cell? ⟨pz, 3, none⟩ = some (.slice g13 h13 k13) ∧ Below w.heap.size w w')) (by kernel_rfl) ?_ (fun hHeld => ?_)
  · exact ⟨x_r.c0, x_r.c1, x_r.c2, x_r.c3, BB⟩
  refine take_yes (i := 0) (v := ?vs0) rfl (by kernel_rfl) (by kernel_rfl) (by kernel_rfl) (fun _ _ _ h => h) (by rfl) (by assumption) ?hys0 ?rests0
  case hys0 => (intro w hSw; (try dsimp only at hSw); first | (go_simp; done) | (go_simp; with_reducible rfl))
  simp only [Act.put, List.setIfInBounds_toArray, List.set_cons_zero, List.set_cons_succ]
  refine take_yes (i := 1) (v := ?vs1) rfl (by kernel_rfl) (by kernel_rfl) (by kernel_rfl) (fun _ _ _ h => h) (by rfl) (by assumption) ?hys1 ?rests1
  case hys1 => (intro w hSw; (try dsimp only at hSw); first | (go_simp; done) | (go_simp; with_reducible rfl))
  simp only [Act.put, List.setIfInBounds_toArray, List.set_cons_zero, List.set_cons_succ]
  refine take_yes (i := 3) (v := ?vs3) rfl (by kernel_rfl) (by kernel_rfl) (by kernel_rfl) (fun _ _ _ h => h) (by rfl) (by assumption) ?hys3 ?rests3
  case hys3 => (intro w hSw; (try dsimp only at hSw); first | (go_simp; done) | (go_simp; with_reducible rfl))
  simp only [Act.put, List.setIfInBounds_toArray, List.set_cons_zero, List.set_cons_succ]
  refine take_call (i := 2) rfl (by kernel_rfl) (fun Kc hK => ?_)
  go_simp
  (go_at_call 15; refine (rqLong sd _ Rs.out.1 Rs.out.2).mono ?_; rintro e w1 ⟨s31, d31, l31, c31, t31, g31, h31, k31, rfl, q31, f31, bw1⟩)
  refine hK.out _ _ ?_ (fun hHeld => ?_)
  · exact ⟨cell_on bw1 hHeld.1, cell_on bw1 hHeld.2.1, cell_on bw1 hHeld.2.2.1, cell_on bw1 hHeld.2.2.2.1, also hHeld.2.2.2.2 bw1⟩
  clear hK Kc
  have zbw1 := bw1.size
  replace BB := also BB bw1
  replace x_a := x_a.on bw1
  replace x_b := x_b.on bw1
  replace x_c := x_c.on bw1
  replace q11 := q11.below bw1
  replace q21 := q21.below bw1
  replace q22 := q22.below bw1
  replace q12 := q12.below bw1
  replace q13 := q13.below bw1
  replace x_r := x_r.on bw1
  refine take_call (i := 4) rfl (by kernel_rfl) (fun Kc hK => ?_)
  go_simp
  (go_at_call 15; refine (rqLong sd _ Rs.out.1 Rs.out.2).mono ?_; rintro e w2 ⟨s32, d32, l32, c32, t32, g32, h32, k32, rfl, q32, f32, bw2⟩)
  refine hK.out _ _ ?_ (fun hHeld => ?_)
  · exact ⟨cell_on bw2 hHeld.1, cell_on bw2 hHeld.2.1, cell_on bw2 hHeld.2.2.1, cell_on bw2 hHeld.2.2.2.1, also hHeld.2.2.2.2 bw2⟩
  clear hK Kc
  have zbw2 := bw2.size
  replace BB := also BB bw2
  replace x_a := x_a.on bw2
  replace x_b := x_b.on bw2
  replace x_c := x_c.on bw2
  replace q11 := q11.below bw2
  replace q21 := q21.below bw2
  replace q22 := q22.below bw2
  replace q12 := q12.below bw2
  replace q13 := q13.below bw2
  replace x_r := x_r.on bw2
  replace q31 := q31.below bw2
  refine take_call (i := 5) rfl (by kernel_rfl) (fun Kc hK => ?_)
  go_simp
  (go_at_call 41; refine (rqMul s31 d31 l31 c31 t31 g31 h31 k31 sd 1 s32 d32 l32 c32 t32 g32 h32 k32 sd 1 2 _ q31 q32 (by decide) _ _ rfl rfl).mono ?_; rintro e w3 ⟨s33, d33, l33, c33, t33, g33, h33, k33, rfl, q33, f33, bw3⟩)
  refine hK.out _ _ ?_ (fun hHeld => ?_)
  · exact ⟨cell_on bw3 hHeld.1, cell_on bw3 hHeld.2.1, cell_on bw3 hHeld.2.2.1, cell_on bw3 hHeld.2.2.2.1, also hHeld.2.2.2.2 bw3⟩
  clear hK Kc
  have zbw3 := bw3.size
  replace BB := also BB bw3
  replace x_a := x_a.on bw3
  replace x_b := x_b.on bw3
  replace x_c := x_c.on bw3
  replace q11 := q11.below bw3
  replace q21 := q21.below bw3
  replace q22 := q22.below bw3
  replace q12 := q12.below bw3
  replace q13 := q13.below bw3
  replace x_r := x_r.on bw3
  replace q31 := q31.below bw3
  replace q32 := q32.below bw3
  refine take_call (i := 6) rfl (by kernel_rfl) (fun Kc hK => ?_)
  go_simp
  (go_at_call 45; refine (rqCmp s13 d13 l13 c13 t13 g13 h13 k13 (16 * N) (1 * D) s33 d33 l33 c33 t33 g33 h33 k33 (sd * sd) (1 * 1) 170 _ q13 (q33.more (by decide) (by decide)) (by decide) HG.out).mono ?_; rintro e w4 ⟨rfl, bw4⟩)
  refine hK.out _ _ ?_ (fun hHeld => ?_)
  · exact ⟨cell_on bw4 hHeld.1, cell_on bw4 hHeld.2.1, cell_on bw4 hHeld.2.2.1, cell_on bw4 hHeld.2.2.2.1, also hHeld.2.2.2.2 bw4⟩
  clear hK Kc
  have zbw4 := bw4.size
  replace BB := also BB bw4
  replace x_a := x_a.on bw4
  replace x_b := x_b.on bw4
  replace x_c := x_c.on bw4
  replace q11 := q11.below bw4
  replace q21 := q21.below bw4
  replace q22 := q22.below bw4
  replace q12 := q12.below bw4
  replace q13 := q13.below bw4
  replace x_r := x_r.on bw4
  replace q31 := q31.below bw4
  replace q32 := q32.below bw4
  replace q33 := q33.below bw4
  refine take_yes (i := 7) (v := ?vs7) rfl (by kernel_rfl) (by kernel_rfl) (by kernel_rfl) (fun _ _ _ h => h) (by rfl) (by assumption) ?hys7 ?rests7
  case hys7 => (intro w hSw; (try dsimp only at hSw); first | (go_simp; done) | (go_simp; with_reducible rfl))
  simp only [Act.put, List.setIfInBounds_toArray, List.set_cons_zero, List.set_cons_succ]
  refine take_yes (i := 8) (v := ?vs8) rfl (by kernel_rfl) (by kernel_rfl) (by kernel_rfl) (fun _ _ _ h => h) (by rfl) (by assumption) ?hys8 ?rests8
  case hys8 => (intro w hSw; (try dsimp only at hSw); first | (go_simp; done) | (go_simp; with_reducible rfl))
  simp only [Act.put, List.setIfInBounds_toArray, List.set_cons_zero, List.set_cons_succ]
  refine wpAnyH_done (by kernel_rfl) ?_ _
  go_wp2
  go_ret
  exact ⟨by rw [HR.out]; rfl, BB⟩
end Go.Proofs.YtcaihoomcdbfnaaGreat

namespace Go.Proofs.YtcaihoomcdbfnaaGreat
open Go.RowKit
set_option linter.unusedVariables false

def SpH : Nat → Value → (World → Prop) → (Nat → Prop) → Prop
  | _ => ValIs undef
theorem SpH_good : GoodSp (SpH ) := fun j x R A h => match j with
  | _ => valIs_good h
def SpHZ : Nat → List Value
  | 0 => [.int .i64 0, .int .i64 0]
  | 1 => [.int .i64 0, .int .i64 0]
  | 2 => [.int .i64 0, .int .i64 0]
  | _ => []
theorem fuel_SpH_e0 {eD : Nat → Bool} {f : Nat} (hf : f = 3 + (nb (eD 0) + nb (eD 1) + nb (eD 2))) (h : eD 0 = false) : f - 1 = 3 + (nb (upd eD 0 true 0) + nb (upd eD 0 true 1) + nb (upd eD 0 true 2)) := by
  have h1 : nb (eD 0) = 1 := by rw [h]; rfl
  have h2 : nb (upd eD 0 true 0) = 0 := rfl
  have q1 : nb (upd eD 0 true 1) = nb (eD 1) := rfl
  have q2 : nb (upd eD 0 true 2) = nb (eD 2) := rfl
  omega
theorem fuel_SpH_e1 {eD : Nat → Bool} {f : Nat} (hf : f = 3 + (nb (eD 0) + nb (eD 1) + nb (eD 2))) (h : eD 1 = false) : f - 1 = 3 + (nb (upd eD 1 true 0) + nb (upd eD 1 true 1) + nb (upd eD 1 true 2)) := by
  have h1 : nb (eD 1) = 1 := by rw [h]; rfl
  have h2 : nb (upd eD 1 true 1) = 0 := rfl
  have q0 : nb (upd eD 1 true 0) = nb (eD 0) := rfl
  have q2 : nb (upd eD 1 true 2) = nb (eD 2) := rfl
  omega
theorem fuel_SpH_e2 {eD : Nat → Bool} {f : Nat} (hf : f = 3 + (nb (eD 0) + nb (eD 1) + nb (eD 2))) (h : eD 2 = false) : f - 1 = 3 + (nb (upd eD 2 true 0) + nb (upd eD 2 true 1) + nb (upd eD 2 true 2)) := by
  have h1 : nb (eD 2) = 1 := by rw [h]; rfl
  have h2 : nb (upd eD 2 true 2) = 0 := rfl
  have q0 : nb (upd eD 2 true 0) = nb (eD 0) := rfl
  have q1 : nb (upd eD 2 true 1) = nb (eD 1) := rfl
  omega
set_option maxRecDepth 100000 in
set_option maxHeartbeats 8000000 in
theorem smalls_of (HR : RadSpec) (HS : SmlSpec) (a1 a2 : Int) (ha1_1 : -9223372036854775808 ≤ a1) (ha1_2 : a1 ≤ 9223372036854775807) (ha2_1 : -9223372036854775808 ≤ a2) (ha2_2 : a2 ≤ 9223372036854775807) (b1 b2 : Int) (hb1_1 : -9223372036854775808 ≤ b1) (hb1_2 : b1 ≤ 9223372036854775807) (hb2_1 : -9223372036854775808 ≤ b2) (hb2_2 : b2 ≤ 9223372036854775807) (c1 c2 : Int) (hc1_1 : -9223372036854775808 ≤ c1) (hc1_2 : c1 ≤ 9223372036854775807) (hc2_1 : -9223372036854775808 ≤ c2) (hc2_2 : c2 ≤ 9223372036854775807) (sd : Int) (hsd_1 : -9223372036854775808 ≤ sd) (hsd_2 : sd ≤ 9223372036854775807) (w : World) :
    Calls Tryz.prog 5 #[.agg #[.int .i64 a1, .int .i64 a2, .int .i64 b1, .int .i64 b2, .int .i64 c1, .int .i64 c2], .int .i64 sd] w fun e w' => e = .returned (.bool true) ∧ Below w.heap.size w w' := by
  have Ra : Hid (R2 (a1, a2)) := ⟨⟨ha1_1, ha1_2⟩, ⟨ha2_1, ha2_2⟩⟩
  have Rb : Hid (R2 (b1, b2)) := ⟨⟨hb1_1, hb1_2⟩, ⟨hb2_1, hb2_2⟩⟩
  have Rc : Hid (R2 (c1, c2)) := ⟨⟨hc1_1, hc1_2⟩, ⟨hc2_1, hc2_2⟩⟩
  clear ha1_1 ha1_2 ha2_1 ha2_2 hb1_1 hb1_2 hb2_1 hb2_2 hc1_1 hc1_2 hc2_1 hc2_2
  have Rs : Hid (R64 sd) := ⟨hsd_1, hsd_2⟩
  clear hsd_1 hsd_2
  have hS : Hid _ := HS
  have hL : Hid (∀ w, Calls Tryz.prog 11 #[] w fun e w' => e = .returned (.bool true) ∧ Below w.heap.size w w') := lives9_of HR HS
  clear HR HS
  obtain ⟨r, hr⟩ : ∃ r : Bool, r = smP a1 a2 b1 b2 c1 c2 sd := ⟨_, rfl⟩
  have HR : Hid _ := hr
  obtain ⟨W, hW, bW, x_t, sW⟩ := bs_6 w (.int .i64 a1) (.int .i64 a2) (.int .i64 b1) (.int .i64 b2) (.int .i64 c1) (.int .i64 c2) 53
  have zbW := bW.size
  have BB := bW
  go_enter Tryz.func5, Tryz.ntmps5
  go_wp2
  rw [← hW]
  clear hW
  obtain ⟨QQ, hQQ⟩ : ∃ QQ : Exit → Act → World → Prop, QQ = fun e act wr => e = .normal ∧ ∃ (pma0 : Nat) (pma1 : Nat) (pma2 : Nat) , act = ⟨#[.agg #[.int .i64 a1, .int .i64 a2, .int .i64 b1, .int .i64 b2, .int .i64 c1, .int .i64 c2], .int .i64 sd, .pointer (some ⟨w.heap.size, 0, none⟩), undef, .bool false, .pointer (some ⟨pma0, 0, none⟩), .pointer (some ⟨pma1, 0, none⟩), .pointer (some ⟨pma2, 0, none⟩), undef, .pointer (some ⟨w.heap.size, 0, none⟩), .agg #[.int .i64 a1, .int .i64 a2], .pointer (some ⟨w.heap.size, 2, none⟩), .agg #[.int .i64 b1, .int .i64 b2], .pointer (some ⟨w.heap.size, 4, none⟩), .agg #[.int .i64 c1, .int .i64 c2], undef, undef, undef, undef, undef, undef, undef, undef, undef, undef, undef, undef, undef, undef, undef, undef, undef, undef, undef, undef, undef, undef, undef, undef, undef, undef, undef, undef, undef, undef, undef, undef, undef], []⟩ ∧ B6 wr (w.heap.size) (.int .i64 a1) (.int .i64 a2) (.int .i64 b1) (.int .i64 b2) (.int .i64 c1) (.int .i64 c2) ∧ Bx wr pma0 (.int .i64 a1) (.int .i64 a2) ∧ Bx wr pma1 (.int .i64 b1) (.int .i64 b2) ∧ Bx wr pma2 (.int .i64 c1) (.int .i64 c2) ∧ Below w.heap.size w wr ∧ W.heap.size ≤ wr.heap.size ∧ (W.heap.size ≤ pma0 ∧ pma0 < wr.heap.size) ∧ (W.heap.size ≤ pma1 ∧ pma1 < wr.heap.size) ∧ (W.heap.size ≤ pma2 ∧ pma2 < wr.heap.size) := ⟨_, rfl⟩
  have HQQ : Hid _ := hQQ
  clear hQQ
  refine wp_mono (Q := QQ) ?_ ?_
  · refine wp_region_held_drew (S := (fun w' => w'.cell? ⟨w.heap.size, 0, none⟩ = some (.int .i64 a1) ∧ w'.cell? ⟨w.heap.size, 1, none⟩ = some (.int .i64 a2) ∧ w'.cell? ⟨w.heap.size, 2, none⟩ = some (.int .i64 b1) ∧ w'.cell? ⟨w.heap.size, 3, none⟩ = some (.int .i64 b2) ∧ w'.cell? ⟨w.heap.size, 4, none⟩ = some (.int .i64 c1) ∧ w'.cell? ⟨w.heap.size, 5, none⟩ = some (.int .i64 c2) ∧ Below w.heap.size w w')) (by kernel_rfl) ?_ (fun hHeld => ?_)
    · exact ⟨x_t.c0, x_t.c1, x_t.c2, x_t.c3, x_t.c4, x_t.c5, BB.drew⟩
    refine take_yes (i := 0) (v := ?vma0x1) rfl (by kernel_rfl) (by kernel_rfl) (by kernel_rfl) (fun _ _ _ h => by rw [HQQ.out] at h; exact Exit.noConfusion h.1) (by rfl) (by assumption) ?hyma0x1 ?restma0x1
    case hyma0x1 => (intro w hSw; (try dsimp only at hSw); first | (go_simp; done) | (go_simp; with_reducible rfl))
    simp only [Act.put, List.setIfInBounds_toArray, List.set_cons_zero, List.set_cons_succ]
    refine take_yes (i := 1) (v := ?vma1x2) rfl (by kernel_rfl) (by kernel_rfl) (by kernel_rfl) (fun _ _ _ h => by rw [HQQ.out] at h; exact Exit.noConfusion h.1) (by rfl) (by assumption) ?hyma1x2 ?restma1x2
    case hyma1x2 => (intro w hSw; (try dsimp only at hSw); first | (go_simp; done) | (go_simp; with_reducible rfl))
    simp only [Act.put, List.setIfInBounds_toArray, List.set_cons_zero, List.set_cons_succ]
    refine take_yes (i := 2) (v := ?vma2x3) rfl (by kernel_rfl) (by kernel_rfl) (by kernel_rfl) (fun _ _ _ h => by rw [HQQ.out] at h; exact Exit.noConfusion h.1) (by rfl) (by assumption) ?hyma2x3 ?restma2x3
    case hyma2x3 => (intro w hSw; (try dsimp only at hSw); first | (go_simp; done) | (go_simp; with_reducible rfl))
    simp only [Act.put, List.setIfInBounds_toArray, List.set_cons_zero, List.set_cons_succ]
    refine take_yes (i := 3) (v := ?vma3x4) rfl (by kernel_rfl) (by kernel_rfl) (by kernel_rfl) (fun _ _ _ h => by rw [HQQ.out] at h; exact Exit.noConfusion h.1) (by rfl) (by assumption) ?hyma3x4 ?restma3x4
    case hyma3x4 => (intro w hSw; (try dsimp only at hSw); first | (go_simp; done) | (go_simp; with_reducible rfl))
    simp only [Act.put, List.setIfInBounds_toArray, List.set_cons_zero, List.set_cons_succ]
    refine take_yes (i := 4) (v := ?vma4x5) rfl (by kernel_rfl) (by kernel_rfl) (by kernel_rfl) (fun _ _ _ h => by rw [HQQ.out] at h; exact Exit.noConfusion h.1) (by rfl) (by assumption) ?hyma4x5 ?restma4x5
    case hyma4x5 => (intro w hSw; (try dsimp only at hSw); first | (go_simp; done) | (go_simp; with_reducible rfl))
    simp only [Act.put, List.setIfInBounds_toArray, List.set_cons_zero, List.set_cons_succ]
    refine take_yes (i := 5) (v := ?vma5x6) rfl (by kernel_rfl) (by kernel_rfl) (by kernel_rfl) (fun _ _ _ h => by rw [HQQ.out] at h; exact Exit.noConfusion h.1) (by rfl) (by assumption) ?hyma5x6 ?restma5x6
    case hyma5x6 => (intro w hSw; (try dsimp only at hSw); first | (go_simp; done) | (go_simp; with_reducible rfl))
    simp only [Act.put, List.setIfInBounds_toArray, List.set_cons_zero, List.set_cons_succ]
    clear hHeld
    obtain ⟨INV, hINV⟩ : ∃ INV : Nat → Array Bool → Act → World → Prop, INV = fun f L act wr => ∃ (bD eD : Nat → Bool) (pD : Nat → Nat) (RD : Nat → World → Prop) (AD : Nat → Nat → Prop) (uD vD : Nat → Value), f = 3 + (nb (eD 0) + nb (eD 1) + nb (eD 2)) ∧ L = #[true, true, true, true, true, true, eD 0, eD 1, eD 2, false, false, false] ∧ act = ⟨#[.agg #[.int .i64 a1, .int .i64 a2, .int .i64 b1, .int .i64 b2, .int .i64 c1, .int .i64 c2], .int .i64 sd, .pointer (some ⟨w.heap.size, 0, none⟩), undef, .bool false, vD 0, vD 1, vD 2, undef, .pointer (some ⟨w.heap.size, 0, none⟩), .agg #[.int .i64 a1, .int .i64 a2], .pointer (some ⟨w.heap.size, 2, none⟩), .agg #[.int .i64 b1, .int .i64 b2], .pointer (some ⟨w.heap.size, 4, none⟩), .agg #[.int .i64 c1, .int .i64 c2], undef, undef, undef, undef, undef, undef, undef, undef, undef, undef, undef, undef, undef, undef, undef, undef, undef, undef, undef, undef, undef, undef, undef, undef, undef, undef, undef, undef, undef, undef, undef, undef, undef], []⟩ ∧ Mk W SpHZ (SpH ) bD eD pD RD AD uD vD wr := ⟨_, rfl⟩
    have HINV : Hid _ := hINV
    clear hINV
    refine phase INV ?stepma _ _ _ _ ?initma
    case initma => rw [HINV.out]; exact ⟨fun _ => false, fun _ => false, fun _ => 0, fun _ _ => True, fun _ _ => True, fun _ => undef, fun _ => undef, rfl, rfl, rfl, Mk.start _ _ _ (Below.refl _ _).drew⟩
    intro f L act wr hinv
    rw [HINV.out] at hinv
    obtain ⟨bD, eD, pD, RD, AD, uD, vD, hf, rfl, rfl, hm⟩ := hinv
    by_cases hall : eD 0 = true ∧ eD 1 = true ∧ eD 2 = true
    · refine Or.inl ?_
      obtain ⟨he0, he1, he2⟩ := hall
      simp only [he0, he1, he2, nb] at hf
      subst hf
      rw [he0, he1, he2, hm.ptr 0 he0, hm.ptr 1 he1, hm.ptr 2 he2]
      have y_pma0 : Bx wr (pD 0) (.int .i64 0) (.int .i64 0) := bx_row (hm.blk 0 he0)
      have gpma0 := hm.old 0 he0
      have ltpma0 := hm.lt 0 he0
      have y_pma1 : Bx wr (pD 1) (.int .i64 0) (.int .i64 0) := bx_row (hm.blk 1 he1)
      have gpma1 := hm.old 1 he1
      have ltpma1 := hm.lt 1 he1
      have y_pma2 : Bx wr (pD 2) (.int .i64 0) (.int .i64 0) := bx_row (hm.blk 2 he2)
      have gpma2 := hm.old 2 he2
      have ltpma2 := hm.lt 2 he2
      have ne_0_1 : pD 0 ≠ pD 1 := hm.ne 0 1 he0 he1 (by decide)
      have ne_0_2 : pD 0 ≠ pD 2 := hm.ne 0 2 he0 he2 (by decide)
      have ne_1_2 : pD 1 ≠ pD 2 := hm.ne 1 2 he1 he2 (by decide)
      have BU := hm.bel
      replace x_t := x_t.on BU
      replace BB := also BB BU
      have hHeld : ((fun w' => w'.cell? ⟨w.heap.size, 0, none⟩ = some (.int .i64 a1) ∧ w'.cell? ⟨w.heap.size, 1, none⟩ = some (.int .i64 a2) ∧ w'.cell? ⟨w.heap.size, 2, none⟩ = some (.int .i64 b1) ∧ w'.cell? ⟨w.heap.size, 3, none⟩ = some (.int .i64 b2) ∧ w'.cell? ⟨w.heap.size, 4, none⟩ = some (.int .i64 c1) ∧ w'.cell? ⟨w.heap.size, 5, none⟩ = some (.int .i64 c2) ∧ Below w.heap.size w w')) wr := ⟨x_t.c0, x_t.c1, x_t.c2, x_t.c3, x_t.c4, x_t.c5, BB⟩
      clear hm HINV INV 
      generalize pD 0 = pma0 at *
      generalize pD 1 = pma1 at *
      generalize pD 2 = pma2 at *
      dsimp only at hHeld
      have ⟨c_pma0_0, c_pma0_1, c_pma0_2, c_pma0_3⟩ : Bx wr pma0 (.int .i64 0) (.int .i64 0) := y_pma0
      refine take_call (i := 9) rfl (by kernel_rfl) (fun Kc hK => ?_)
      go_simp
      refine hK.out _ _ ⟨cell_put2 hHeld.1 (by omega) _ _, cell_put2 hHeld.2.1 (by omega) _ _, cell_put2 hHeld.2.2.1 (by omega) _ _, cell_put2 hHeld.2.2.2.1 (by omega) _ _, cell_put2 hHeld.2.2.2.2.1 (by omega) _ _, cell_put2 hHeld.2.2.2.2.2.1 (by omega) _ _, below_put2 hHeld.2.2.2.2.2.2 (by omega) _ _⟩ (fun hHeld => ?_)
      clear hK Kc
      have ⟨c_pma1_0, c_pma1_1, c_pma1_2, c_pma1_3⟩ : Bx ((wr.setCell ⟨pma0, 0, none⟩ (.int .i64 a1)).setCell ⟨pma0, 1, none⟩ (.int .i64 a2)) pma1 (.int .i64 0) (.int .i64 0) := ((y_pma1.put ne_0_1).put ne_0_1)
      refine take_call (i := 10) rfl (by kernel_rfl) (fun Kc hK => ?_)
      go_simp
      refine hK.out _ _ ⟨cell_put2 hHeld.1 (by omega) _ _, cell_put2 hHeld.2.1 (by omega) _ _, cell_put2 hHeld.2.2.1 (by omega) _ _, cell_put2 hHeld.2.2.2.1 (by omega) _ _, cell_put2 hHeld.2.2.2.2.1 (by omega) _ _, cell_put2 hHeld.2.2.2.2.2.1 (by omega) _ _, below_put2 hHeld.2.2.2.2.2.2 (by omega) _ _⟩ (fun hHeld => ?_)
      clear hK Kc
      have ⟨c_pma2_0, c_pma2_1, c_pma2_2, c_pma2_3⟩ : Bx ((((wr.setCell ⟨pma0, 0, none⟩ (.int .i64 a1)).setCell ⟨pma0, 1, none⟩ (.int .i64 a2)).setCell ⟨pma1, 0, none⟩ (.int .i64 b1)).setCell ⟨pma1, 1, none⟩ (.int .i64 b2)) pma2 (.int .i64 0) (.int .i64 0) := ((((y_pma2.put ne_0_2).put ne_0_2).put ne_1_2).put ne_1_2)
      refine take_call (i := 11) rfl (by kernel_rfl) (fun Kc hK => ?_)
      go_simp
      refine hK.out _ _ ⟨cell_put2 hHeld.1 (by omega) _ _, cell_put2 hHeld.2.1 (by omega) _ _, cell_put2 hHeld.2.2.1 (by omega) _ _, cell_put2 hHeld.2.2.2.1 (by omega) _ _, cell_put2 hHeld.2.2.2.2.1 (by omega) _ _, cell_put2 hHeld.2.2.2.2.2.1 (by omega) _ _, below_put2 hHeld.2.2.2.2.2.2 (by omega) _ _⟩ (fun hHeld => ?_)
      clear hK Kc
      refine wpAnyH_done (by kernel_rfl) ?_ _
      rw [HQQ.out]
      exact ⟨rfl, pma0, pma1, pma2, rfl, ((((((x_t.put (by omega)).put (by omega)).put (by omega)).put (by omega)).put (by omega)).put (by omega)), ((((y_pma0.set.put (fun e => ne_0_1 e.symm)).put (fun e => ne_0_1 e.symm)).put (fun e => ne_0_2 e.symm)).put (fun e => ne_0_2 e.symm)), ((((y_pma1.put ne_0_1).put ne_0_1).set.put (fun e => ne_1_2 e.symm)).put (fun e => ne_1_2 e.symm)), ((((y_pma2.put ne_0_2).put ne_0_2).put ne_1_2).put ne_1_2).set, (below_put2 (below_put2 (below_put2 BB (by omega) _ _) (by omega) _ _) (by omega) _ _), by have := BU.size; simp only [World.size_setCell]; omega, ⟨gpma0, by simp only [World.size_setCell]; omega⟩, ⟨gpma1, by simp only [World.size_setCell]; omega⟩, ⟨gpma2, by simp only [World.size_setCell]; omega⟩⟩
    · refine Or.inr ⟨f - 1, by omega, ?nema, ?opsma⟩
      case nema =>
        cases he0 : eD 0
        · exact ready_ne (i := 6) (by decide) (by kernel_rfl)
        cases he1 : eD 1
        · exact ready_ne (i := 7) (by decide) (by kernel_rfl)
        cases he2 : eD 2
        · exact ready_ne (i := 8) (by decide) (by kernel_rfl)
        exact absurd ⟨he0, he1, he2⟩ hall
      case opsma =>
        intro i hi
        obtain ⟨hlt, hnot, hdep⟩ := ready_at hi
        replace hlt : i < 12 := hlt
        obtain rfl | rfl | rfl | rfl | rfl | rfl | rfl | rfl | rfl | rfl | rfl | rfl : i = 0 ∨ i = 1 ∨ i = 2 ∨ i = 3 ∨ i = 4 ∨ i = 5 ∨ i = 6 ∨ i = 7 ∨ i = 8 ∨ i = 9 ∨ i = 10 ∨ i = 11 := by omega
        · skip
          exact Bool.noConfusion (show true = false from hnot)
        · skip
          exact Bool.noConfusion (show true = false from hnot)
        · skip
          exact Bool.noConfusion (show true = false from hnot)
        · skip
          exact Bool.noConfusion (show true = false from hnot)
        · skip
          exact Bool.noConfusion (show true = false from hnot)
        · skip
          exact Bool.noConfusion (show true = false from hnot)
        · skip
          have hei : eD 0 = false := hnot
          refine ⟨_, rfl, fun K' hK => ?_⟩
          go_simp
          have hm' := hm.alloc (SpH_good ) 0 23 hei
          refine hK.out _ _ ⟨cell_on hm'.bel x_t.c0, cell_on hm'.bel x_t.c1, cell_on hm'.bel x_t.c2, cell_on hm'.bel x_t.c3, cell_on hm'.bel x_t.c4, cell_on hm'.bel x_t.c5, also BB hm'.bel⟩ ?_
          rw [HINV.out]
          exact ⟨bD, upd eD 0 true, upd pD 0 wr.heap.size, RD, AD, uD, upd vD 0 (.pointer (some ⟨wr.heap.size, 0, none⟩)), fuel_SpH_e0 hf hei, rfl, rfl, hm'⟩
        · skip
          have hei : eD 1 = false := hnot
          refine ⟨_, rfl, fun K' hK => ?_⟩
          go_simp
          have hm' := hm.alloc (SpH_good ) 1 23 hei
          refine hK.out _ _ ⟨cell_on hm'.bel x_t.c0, cell_on hm'.bel x_t.c1, cell_on hm'.bel x_t.c2, cell_on hm'.bel x_t.c3, cell_on hm'.bel x_t.c4, cell_on hm'.bel x_t.c5, also BB hm'.bel⟩ ?_
          rw [HINV.out]
          exact ⟨bD, upd eD 1 true, upd pD 1 wr.heap.size, RD, AD, uD, upd vD 1 (.pointer (some ⟨wr.heap.size, 0, none⟩)), fuel_SpH_e1 hf hei, rfl, rfl, hm'⟩
        · skip
          have hei : eD 2 = false := hnot
          refine ⟨_, rfl, fun K' hK => ?_⟩
          go_simp
          have hm' := hm.alloc (SpH_good ) 2 23 hei
          refine hK.out _ _ ⟨cell_on hm'.bel x_t.c0, cell_on hm'.bel x_t.c1, cell_on hm'.bel x_t.c2, cell_on hm'.bel x_t.c3, cell_on hm'.bel x_t.c4, cell_on hm'.bel x_t.c5, also BB hm'.bel⟩ ?_
          rw [HINV.out]
          exact ⟨bD, upd eD 2 true, upd pD 2 wr.heap.size, RD, AD, uD, upd vD 2 (.pointer (some ⟨wr.heap.size, 0, none⟩)), fuel_SpH_e2 hf hei, rfl, rfl, hm'⟩
        · skip
          exact absurd ⟨hdep _ rfl 0 _ rfl rfl, hdep _ rfl 9 _ rfl rfl, hdep _ rfl 10 _ rfl rfl⟩ hall
        · skip
          exact Bool.noConfusion (show false = true from hdep _ rfl 2 _ rfl rfl)
        · skip
          exact Bool.noConfusion (show false = true from hdep _ rfl 2 _ rfl rfl)
  rw [HQQ.out]
  rintro e act Y1 ⟨rfl, pma0, pma1, pma2, rfl, x_t, x_a, x_b, x_c, BB, z_Y1, z_Y1_pma0, z_Y1_pma1, z_Y1_pma2⟩
  clear HQQ QQ
  try dsimp only
  have ⟨x_a_0, x_a_1, x_a_2, x_a_3⟩ := x_a
  have ⟨x_b_0, x_b_1, x_b_2, x_b_3⟩ := x_b
  have ⟨x_c_0, x_c_1, x_c_2, x_c_3⟩ := x_c
  by_cases h1 : sd < 1
  · skip
    obtain rfl : r = false := by rw [hr]; unfold smP; rw [decide_eq_false (show ¬(1 ≤ sd ∧ sd ≤ 17179869184) by omega)]; simp
    clear hr
    go_wp2_with (go_at_call 18; fail)
    refine (hS.out a1 a2 b1 b2 c1 c2 sd Y1 Ra Rb Rc Rs _ HR.out).mono ?_
    rintro e w1 ⟨rfl, bw1⟩
    clear x_a_0 x_a_1 x_a_2 x_a_3 x_b_0 x_b_1 x_b_2 x_b_3 x_c_0 x_c_1 x_c_2 x_c_3
    have zbw1 := bw1.size
    replace BB := also BB bw1
    replace x_t := x_t.on bw1
    replace x_a := x_a.on bw1
    replace x_b := x_b.on bw1
    replace x_c := x_c.on bw1
    have ⟨x_a_0, x_a_1, x_a_2, x_a_3⟩ := x_a
    have ⟨x_b_0, x_b_1, x_b_2, x_b_3⟩ := x_b
    have ⟨x_c_0, x_c_1, x_c_2, x_c_3⟩ := x_c
    go_wp2_with (go_at_call 11; fail)
    refine (hL.out w1).mono ?_
    rintro e w4 ⟨rfl, bw4⟩
    clear x_a_0 x_a_1 x_a_2 x_a_3 x_b_0 x_b_1 x_b_2 x_b_3 x_c_0 x_c_1 x_c_2 x_c_3
    have zbw4 := bw4.size
    replace BB := also BB bw4
    replace x_t := x_t.on bw4
    replace x_a := x_a.on bw4
    replace x_b := x_b.on bw4
    replace x_c := x_c.on bw4
    go_wp2
    go_ret
    exact ⟨rfl, BB⟩
  · by_cases h2 : 17179869184 < sd
    · skip
      obtain rfl : r = false := by rw [hr]; unfold smP; rw [decide_eq_false (show ¬(1 ≤ sd ∧ sd ≤ 17179869184) by omega)]; simp
      clear hr
      go_wp2_with (go_at_call 18; fail)
      refine (hS.out a1 a2 b1 b2 c1 c2 sd Y1 Ra Rb Rc Rs _ HR.out).mono ?_
      rintro e w1 ⟨rfl, bw1⟩
      clear x_a_0 x_a_1 x_a_2 x_a_3 x_b_0 x_b_1 x_b_2 x_b_3 x_c_0 x_c_1 x_c_2 x_c_3
      have zbw1 := bw1.size
      replace BB := also BB bw1
      replace x_t := x_t.on bw1
      replace x_a := x_a.on bw1
      replace x_b := x_b.on bw1
      replace x_c := x_c.on bw1
      have ⟨x_a_0, x_a_1, x_a_2, x_a_3⟩ := x_a
      have ⟨x_b_0, x_b_1, x_b_2, x_b_3⟩ := x_b
      have ⟨x_c_0, x_c_1, x_c_2, x_c_3⟩ := x_c
      go_wp2_with (go_at_call 11; fail)
      refine (hL.out w1).mono ?_
      rintro e w4 ⟨rfl, bw4⟩
      clear x_a_0 x_a_1 x_a_2 x_a_3 x_b_0 x_b_1 x_b_2 x_b_3 x_c_0 x_c_1 x_c_2 x_c_3
      have zbw4 := bw4.size
      replace BB := also BB bw4
      replace x_t := x_t.on bw4
      replace x_a := x_a.on bw4
      replace x_b := x_b.on bw4
      replace x_c := x_c.on bw4
      go_wp2
      go_ret
      exact ⟨rfl, BB⟩
    · cases hh : hasP a1 a2 b1 b2 c1 c2
      · skip
        obtain rfl : r = false := by rw [hr]; unfold smP; rw [hh]; rfl
        clear hr
        go_wp2_with (go_at_call 18; fail)
        refine (hS.out a1 a2 b1 b2 c1 c2 sd Y1 Ra Rb Rc Rs _ HR.out).mono ?_
        rintro e w1 ⟨rfl, bw1⟩
        clear x_a_0 x_a_1 x_a_2 x_a_3 x_b_0 x_b_1 x_b_2 x_b_3 x_c_0 x_c_1 x_c_2 x_c_3
        have zbw1 := bw1.size
        replace BB := also BB bw1
        replace x_t := x_t.on bw1
        replace x_a := x_a.on bw1
        replace x_b := x_b.on bw1
        replace x_c := x_c.on bw1
        have ⟨x_a_0, x_a_1, x_a_2, x_a_3⟩ := x_a
        have ⟨x_b_0, x_b_1, x_b_2, x_b_3⟩ := x_b
        have ⟨x_c_0, x_c_1, x_c_2, x_c_3⟩ := x_c
        go_wp2_with (go_at_call 8; fail)
        refine (rcHas a1 a2 b1 b2 c1 c2 w1 Ra Rb Rc hh.symm).mono ?_
        rintro e w2 ⟨rfl, bw2⟩
        clear x_a_0 x_a_1 x_a_2 x_a_3 x_b_0 x_b_1 x_b_2 x_b_3 x_c_0 x_c_1 x_c_2 x_c_3
        have zbw2 := bw2.size
        replace BB := also BB bw2
        replace x_t := x_t.on bw2
        replace x_a := x_a.on bw2
        replace x_b := x_b.on bw2
        replace x_c := x_c.on bw2
        have ⟨x_a_0, x_a_1, x_a_2, x_a_3⟩ := x_a
        have ⟨x_b_0, x_b_1, x_b_2, x_b_3⟩ := x_b
        have ⟨x_c_0, x_c_1, x_c_2, x_c_3⟩ := x_c
        go_wp2_with (go_at_call 11; fail)
        refine (hL.out w2).mono ?_
        rintro e w4 ⟨rfl, bw4⟩
        clear x_a_0 x_a_1 x_a_2 x_a_3 x_b_0 x_b_1 x_b_2 x_b_3 x_c_0 x_c_1 x_c_2 x_c_3
        have zbw4 := bw4.size
        replace BB := also BB bw4
        replace x_t := x_t.on bw4
        replace x_a := x_a.on bw4
        replace x_b := x_b.on bw4
        replace x_c := x_c.on bw4
        go_wp2
        go_ret
        exact ⟨rfl, BB⟩
      · skip
        obtain ⟨ha, hb, hc, h0⟩ := has_yes.1 hh
        have hcl := cen_low h0
        have hmp : 0 < (meanD (distP b1 b2 c1 c2) (distP c1 c2 a1 a2) (distP a1 a2 b1 b2)).natAbs := by have := mean_pos h0; omega
        obtain ⟨N1, hN1⟩ : ∃ z : Int, z = lowN (meanN a1 b1 c1 (distP b1 b2 c1 c2) (distP c1 c2 a1 a2) (distP a1 a2 b1 b2)) (meanD (distP b1 b2 c1 c2) (distP c1 c2 a1 a2) (distP a1 a2 b1 b2)).natAbs := ⟨_, rfl⟩
        obtain ⟨D1, hD1⟩ : ∃ z : Nat, z = lowD (meanN a1 b1 c1 (distP b1 b2 c1 c2) (distP c1 c2 a1 a2) (distP a1 a2 b1 b2)) (meanD (distP b1 b2 c1 c2) (distP c1 c2 a1 a2) (distP a1 a2 b1 b2)).natAbs := ⟨_, rfl⟩
        have CN1 : Hid (N1 = lowN (cenX a1 a2 b1 b2 c1 c2 * (2 * areaP a1 a2 b1 b2 c1 c2).sign) (2 * areaP a1 a2 b1 b2 c1 c2).natAbs) := hN1.trans hcl.1.1
        have CD1 : Hid (D1 = lowD (cenX a1 a2 b1 b2 c1 c2 * (2 * areaP a1 a2 b1 b2 c1 c2).sign) (2 * areaP a1 a2 b1 b2 c1 c2).natAbs) := hD1.trans hcl.1.2
        have hI1 := low_idem (z := meanN a1 b1 c1 (distP b1 b2 c1 c2) (distP c1 c2 a1 a2) (distP a1 a2 b1 b2)) hmp
        rw [← hN1, ← hD1] at hI1
        have IN1 : Hid (N1 = lowN N1 D1) := hI1.1
        have ID1 : Hid (D1 = lowD N1 D1) := hI1.2
        have EN1 : Hid _ := hN1
        have ED1 : Hid _ := hD1
        clear hN1 hD1 hI1
        obtain ⟨N2, hN2⟩ : ∃ z : Int, z = lowN (meanN a2 b2 c2 (distP b1 b2 c1 c2) (distP c1 c2 a1 a2) (distP a1 a2 b1 b2)) (meanD (distP b1 b2 c1 c2) (distP c1 c2 a1 a2) (distP a1 a2 b1 b2)).natAbs := ⟨_, rfl⟩
        obtain ⟨D2, hD2⟩ : ∃ z : Nat, z = lowD (meanN a2 b2 c2 (distP b1 b2 c1 c2) (distP c1 c2 a1 a2) (distP a1 a2 b1 b2)) (meanD (distP b1 b2 c1 c2) (distP c1 c2 a1 a2) (distP a1 a2 b1 b2)).natAbs := ⟨_, rfl⟩
        have CN2 : Hid (N2 = lowN (cenY a1 a2 b1 b2 c1 c2 * (2 * areaP a1 a2 b1 b2 c1 c2).sign) (2 * areaP a1 a2 b1 b2 c1 c2).natAbs) := hN2.trans hcl.2.1
        have CD2 : Hid (D2 = lowD (cenY a1 a2 b1 b2 c1 c2 * (2 * areaP a1 a2 b1 b2 c1 c2).sign) (2 * areaP a1 a2 b1 b2 c1 c2).natAbs) := hD2.trans hcl.2.2
        have hI2 := low_idem (z := meanN a2 b2 c2 (distP b1 b2 c1 c2) (distP c1 c2 a1 a2) (distP a1 a2 b1 b2)) hmp
        rw [← hN2, ← hD2] at hI2
        have IN2 : Hid (N2 = lowN N2 D2) := hI2.1
        have ID2 : Hid (D2 = lowD N2 D2) := hI2.2
        have EN2 : Hid _ := hN2
        have ED2 : Hid _ := hD2
        clear hN2 hD2 hI2
        have H0 : Hid _ := h0
        clear hcl hmp h0
        have hd1 : 0 < D1 := by rw [ED1.out]; exact lowD_pos (by have := mean_pos H0.out; omega)
        have hd2 : 0 < D2 := by rw [ED2.out]; exact lowD_pos (by have := mean_pos H0.out; omega)
        obtain ⟨ux, hux⟩ : ∃ z : Int, z = N1 * ((1 : Nat) : Int) + -a1 * (D1 : Int) := ⟨_, rfl⟩
        obtain ⟨ex, hex⟩ : ∃ z : Nat, z = D1 * 1 := ⟨_, rfl⟩
        obtain ⟨uy, huy⟩ : ∃ z : Int, z = N2 * ((1 : Nat) : Int) + -a2 * (D2 : Int) := ⟨_, rfl⟩
        obtain ⟨ey, hey⟩ : ∃ z : Nat, z = D2 * 1 := ⟨_, rfl⟩
        obtain ⟨N, hN⟩ : ∃ z : Int, z = lowN (ux * ux * ((ey * ey : Nat) : Int) + uy * uy * ((ex * ex : Nat) : Int)) (ex * ex * (ey * ey)) := ⟨_, rfl⟩
        obtain ⟨D, hD⟩ : ∃ z : Nat, z = lowD (ux * ux * ((ey * ey : Nat) : Int) + uy * uy * ((ex * ex : Nat) : Int)) (ex * ex * (ey * ey)) := ⟨_, rfl⟩
        have hfl := far_low H0.out (p1 := a1) (p2 := a2) (Or.inl ⟨rfl, rfl⟩) CN1.out CD1.out CN2.out CD2.out hux hex huy hey (by omega) (by omega)
        rw [← hN, ← hD] at hfl
        have Eux : Hid _ := hux
        clear hux
        have Eex : Hid _ := hex
        clear hex
        have Euy : Hid _ := huy
        clear huy
        have Eey : Hid _ := hey
        clear hey
        have EN : Hid _ := hN
        clear hN
        have ED : Hid _ := hD
        clear hD
        clear hd1 hd2
        have HZ : Hid (r = decide ((16 * N * ((1 * 1 : Nat) : Int) - sd * sd * ((1 * D : Nat) : Int)).sign < 0)) := by
          unfold Hid
          rw [small_iff H0.out hfl.1 hfl.2, hr]
          unfold smP
          rw [hh, decide_eq_true (show 1 ≤ sd ∧ sd ≤ 17179869184 by omega)]
          rfl
        clear hr hfl
        go_wp2_with (go_at_call 18; fail)
        refine (hS.out a1 a2 b1 b2 c1 c2 sd Y1 Ra Rb Rc Rs _ HR.out).mono ?_
        rintro e w1 ⟨rfl, bw1⟩
        clear x_a_0 x_a_1 x_a_2 x_a_3 x_b_0 x_b_1 x_b_2 x_b_3 x_c_0 x_c_1 x_c_2 x_c_3
        have zbw1 := bw1.size
        replace BB := also BB bw1
        replace x_t := x_t.on bw1
        replace x_a := x_a.on bw1
        replace x_b := x_b.on bw1
        replace x_c := x_c.on bw1
        have ⟨x_a_0, x_a_1, x_a_2, x_a_3⟩ := x_a
        have ⟨x_b_0, x_b_1, x_b_2, x_b_3⟩ := x_b
        have ⟨x_c_0, x_c_1, x_c_2, x_c_3⟩ := x_c
        go_wp2_with (go_at_call 8; fail)
        refine (rcHas a1 a2 b1 b2 c1 c2 w1 Ra Rb Rc hh.symm).mono ?_
        rintro e w2 ⟨rfl, bw2⟩
        clear x_a_0 x_a_1 x_a_2 x_a_3 x_b_0 x_b_1 x_b_2 x_b_3 x_c_0 x_c_1 x_c_2 x_c_3
        have zbw2 := bw2.size
        replace BB := also BB bw2
        replace x_t := x_t.on bw2
        replace x_a := x_a.on bw2
        replace x_b := x_b.on bw2
        replace x_c := x_c.on bw2
        have ⟨x_a_0, x_a_1, x_a_2, x_a_3⟩ := x_a
        have ⟨x_b_0, x_b_1, x_b_2, x_b_3⟩ := x_b
        have ⟨x_c_0, x_c_1, x_c_2, x_c_3⟩ := x_c
        go_wp2_with (go_at_call 19; fail)
        refine (rcSmall a1 a2 b1 b2 c1 c2 sd w2 ha hb hc H0.out Rs EN1.out ED1.out EN2.out ED2.out Eux.out Eex.out Euy.out Eey.out EN.out ED.out HZ.out).mono ?_
        rintro e w3 ⟨rfl, bw3⟩
        clear x_a_0 x_a_1 x_a_2 x_a_3 x_b_0 x_b_1 x_b_2 x_b_3 x_c_0 x_c_1 x_c_2 x_c_3
        have zbw3 := bw3.size
        replace BB := also BB bw3
        replace x_t := x_t.on bw3
        replace x_a := x_a.on bw3
        replace x_b := x_b.on bw3
        replace x_c := x_c.on bw3
        have ⟨x_a_0, x_a_1, x_a_2, x_a_3⟩ := x_a
        have ⟨x_b_0, x_b_1, x_b_2, x_b_3⟩ := x_b
        have ⟨x_c_0, x_c_1, x_c_2, x_c_3⟩ := x_c
        go_wp2_with (go_at_call 11; fail)
        refine (hL.out w3).mono ?_
        rintro e w4 ⟨rfl, bw4⟩
        clear x_a_0 x_a_1 x_a_2 x_a_3 x_b_0 x_b_1 x_b_2 x_b_3 x_c_0 x_c_1 x_c_2 x_c_3
        have zbw4 := bw4.size
        replace BB := also BB bw4
        replace x_t := x_t.on bw4
        replace x_a := x_a.on bw4
        replace x_b := x_b.on bw4
        replace x_c := x_c.on bw4
        go_wp2
        go_ret
        exact ⟨rfl, BB⟩
end Go.Proofs.YtcaihoomcdbfnaaGreat

namespace Go.Proofs.YtcaihoomcdbfnaaGreat
open Go.RowKit
open Go.ChangeShapes Go.WideShapes Go.ChangeAt Go.Joins
set_option linter.unusedVariables false
set_option linter.constructorNameAsVariable false

theorem list6 {cs : Array Value} (h : cs.size = 6) : ∃ c0 c1 c2 c3 c4 c5, cs = #[c0, c1, c2, c3, c4, c5] := by
  obtain ⟨l⟩ := cs
  match l, h with
  | [c0, c1, c2, c3, c4, c5], _ => exact ⟨c0, c1, c2, c3, c4, c5, rfl⟩
theorem cells3I : Tryz.prog.cellsOf 2 = 1 := by kernel_rfl
theorem cells3P : Tryz.prog.cellsOf 23 = 2 := by kernel_rfl
theorem cells3PP : Tryz.prog.cellsOf 53 = 6 := by kernel_rfl
theorem trod_p {H : Type} {enc : TypeId × Value → H} {W : World} {bs fuel : Nat} {sp : Nat → Bool} {hd : Bool} {c0 c1 : Value} {y : DataW H × List MemPlace} (h : DataW.trod enc Tryz.prog W bs sp hd fuel 23 [c0, c1] = some y) :
    ∃ a b : Int, c0 = .int .i64 a ∧ c1 = .int .i64 b ∧ y = (.agg [.lit (.int .i64 a), .lit (.int .i64 b)], []) ∧ (Lit.int .i64 a).wf = true ∧ (Lit.int .i64 b).wf = true := by
  obtain ⟨y0, y1, n, hx, _, h0, h1⟩ := trod_struct2 Tryz.underlying23 h
  have h0 : DataW.trod enc Tryz.prog W bs sp hd n 2 [c0] = some y0 := by simpa [cells3I] using h0
  have h1 : DataW.trod enc Tryz.prog W bs sp hd n 2 [c1] = some y1 := by simpa [cells3I] using h1
  obtain ⟨a, e0, rfl, w0⟩ := DataW.trod_int Tryz.underlying2 h0
  obtain ⟨b, e1, rfl, w1⟩ := DataW.trod_int Tryz.underlying2 h1
  simp at e0 e1 hx
  exact ⟨a, b, e0, e1, hx, w0, w1⟩
set_option maxRecDepth 100000 in
theorem open_pt3 {H : Type} {enc : TypeId × Value → H} {w W : World} {r : Reach} {b0 bs : Nat} {sp : Nat → Bool} {hd : Bool} {v : Value} {d : DataW H} {p : List MemPlace} (hv : Value.okWide Tryz.prog w r b0 53 v) (h : DataW.Trod enc Tryz.prog W bs sp hd 53 v d p) :
    ∃ a0 a1 a2 a3 a4 a5 : Int, v = .agg #[.int .i64 a0, .int .i64 a1, .int .i64 a2, .int .i64 a3, .int .i64 a4, .int .i64 a5] ∧ d = .agg [.agg [.lit (.int .i64 a0), .lit (.int .i64 a1)], .agg [.lit (.int .i64 a2), .lit (.int .i64 a3)], .agg [.lit (.int .i64 a4), .lit (.int .i64 a5)]] ∧ p = [] ∧ (Lit.int .i64 a0).wf = true ∧ (Lit.int .i64 a1).wf = true ∧ (Lit.int .i64 a2).wf = true ∧ (Lit.int .i64 a3).wf = true ∧ (Lit.int .i64 a4).wf = true ∧ (Lit.int .i64 a5).wf = true := by
  simp only [Value.okWide, Tryz.underlying53] at hv
  obtain ⟨cs, rfl, hsz, _⟩ := hv
  obtain ⟨c0, c1, c2, c3, c4, c5, rfl⟩ := list6 (hsz.trans cells3PP)
  obtain ⟨fuel, hf⟩ := h
  obtain ⟨xs, m, _, hx, _, hl, hi⟩ := DataW.trod_array Tryz.underlying53 hf
  obtain ⟨y0, y1, y2, rfl⟩ : ∃ y0 y1 y2, xs = [y0, y1, y2] := by
    match xs, hl with
    | [y0, y1, y2], _ => exact ⟨y0, y1, y2, rfl⟩
  have i0 := hi 0 (by decide)
  have i1 := hi 1 (by decide)
  have i2 := hi 2 (by decide)
  rw [cells3P] at i0 i1 i2
  simp [Value.cells] at i0 i1 i2
  obtain ⟨a0, a1, rfl, rfl, rfl, w0, w1⟩ := trod_p i0
  obtain ⟨a2, a3, rfl, rfl, rfl, w2, w3⟩ := trod_p i1
  obtain ⟨a4, a5, rfl, rfl, rfl, w4, w5⟩ := trod_p i2
  simp at hx
  exact ⟨a0, a1, a2, a3, a4, a5, rfl, hx.1, hx.2, w0, w1, w2, w3, w4, w5⟩
set_option maxRecDepth 100000 in
theorem shut_pt3 {H : Type} {enc : TypeId × Value → H} {W : World} {bs : Nat} {sp : Nat → Bool} {hd : Bool} {a0 a1 a2 a3 a4 a5 : Int} (w0 : (Lit.int .i64 a0).wf = true) (w1 : (Lit.int .i64 a1).wf = true) (w2 : (Lit.int .i64 a2).wf = true) (w3 : (Lit.int .i64 a3).wf = true) (w4 : (Lit.int .i64 a4).wf = true) (w5 : (Lit.int .i64 a5).wf = true) :
    DataW.Trod enc Tryz.prog W bs sp hd 53 (.agg #[.int .i64 a0, .int .i64 a1, .int .i64 a2, .int .i64 a3, .int .i64 a4, .int .i64 a5]) (.agg [.agg [.lit (.int .i64 a0), .lit (.int .i64 a1)], .agg [.lit (.int .i64 a2), .lit (.int .i64 a3)], .agg [.lit (.int .i64 a4), .lit (.int .i64 a5)]]) [] := by
  have r3 : List.range 3 = [0, 1, 2] := rfl
  exact ⟨3, by simp [DataW.trod, Tryz.underlying53, Tryz.underlying23, Tryz.underlying2, cells3I, cells3P, cells3PP, Value.cells, r3, w0, w1, w2, w3, w4, w5]⟩
end Go.Proofs.YtcaihoomcdbfnaaGreat
