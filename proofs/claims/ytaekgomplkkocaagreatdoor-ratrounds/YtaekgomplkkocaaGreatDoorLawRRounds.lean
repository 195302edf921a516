/-
  RatRounds: the floor of any fraction, and the whole number that is nearest to it.
-/
import Derived.Test.YtaekgomplkkocaaGreatDoorP6
import Derived.Test.YtaekgomplkkocaaGreatDoorP9
import Derived.Test.YtaekgomplkkocaaGreatDoorP10
namespace Go.Proofs.YtaekgomplkkocaaGreatDoor
open Go.RowKit
set_option linter.unusedVariables false

namespace rrounds
open Go.ChangeShapes Go.WideShapes Go.ChangeAt
theorem round_abs (N : Int) (D : Nat) (hD : 0 < D) (h1 : N.natAbs < 4294967296 ^ 6) (h2 : D < 4294967296 ^ 6) : (flQ (N + N + (D : Int)) ((D + D : Nat) : Int)).natAbs < 4294967296 ^ 9 := by
  have e8 : (4294967296 : Nat) ^ 8 = 4294967296 ^ 6 * 18446744073709551616 := by decide +kernel
  refine (flQ_abs _ _ 8 (by omega) ?_ ?_).1
  · rw [e8]; omega
  · rw [e8]; omega
theorem nearest (N F M : Int) (D : Nat) (hD : 0 < D) (hF : F = flQ N D) (hM : M = flQ (N + N + (D : Int)) ((D + D : Nat) : Int)) :
    ((M * (D : Int) + -N * ((1 : Nat) : Int)) * ((2 : Nat) : Int) - 1 * ((1 * D : Nat) : Int)).sign ≤ 0 ∧ 0 < ((M * (D : Int) + -N * ((1 : Nat) : Int)) * ((2 : Nat) : Int) - -1 * ((1 * D : Nat) : Int)).sign ∧
    0 ≤ (N * ((1 : Nat) : Int) + -F * (D : Int)).sign ∧ ((N * ((1 : Nat) : Int) + -F * (D : Int)) * ((1 : Nat) : Int) - 1 * ((D * 1 : Nat) : Int)).sign < 0 := by
  obtain ⟨h1, h2⟩ := flQ_pos N D hD
  obtain ⟨h3, h4⟩ := flQ_pos (N + N + (D : Int)) (D + D) (by omega)
  rw [← hF] at h1 h2
  rw [← hM] at h3 h4
  have e : M * ((D + D : Nat) : Int) = M * D + M * D := by rw [Int.natCast_add, Int.mul_add]
  rw [e] at h3 h4
  have e2 : -F * (D : Int) = -(F * D) := Int.neg_mul _ _
  rw [e2, Nat.one_mul, Nat.mul_one]
  generalize M * (D : Int) = A at h3 h4 ⊢
  generalize F * (D : Int) = B at h1 h2 ⊢
  refine ⟨?_, ?_, ?_, ?_⟩
  · rcases wsign_cases ((A + -N * ((1 : Nat) : Int)) * ((2 : Nat) : Int) - 1 * (D : Int)) with ⟨q, s⟩ | ⟨q, s⟩ | ⟨q, s⟩ <;> rw [s] <;> omega
  · rcases wsign_cases ((A + -N * ((1 : Nat) : Int)) * ((2 : Nat) : Int) - -1 * (D : Int)) with ⟨q, s⟩ | ⟨q, s⟩ | ⟨q, s⟩ <;> rw [s] <;> omega
  · rcases wsign_cases (N * ((1 : Nat) : Int) + -B) with ⟨q, s⟩ | ⟨q, s⟩ | ⟨q, s⟩ <;> rw [s] <;> omega
  · rcases wsign_cases ((N * ((1 : Nat) : Int) + -B) * ((1 : Nat) : Int) - 1 * (D : Int)) with ⟨q, s⟩ | ⟨q, s⟩ | ⟨q, s⟩ <;> rw [s] <;> omega
set_option maxRecDepth 100000 in
set_option maxHeartbeats 80000000 in
theorem walk (n : Bool) (a : Option Addr) (la ca u : Nat) (d : Option Addr) (ld cd v : Nat) (w : World) (ha : Sl w a la ca (wd.dcells la (u : Int))) (hu : u < 4294967296 ^ la) (hd : Sl w d ld cd (wd.dcells ld (v : Int))) (hv : v < 4294967296 ^ ld) :
    Calls Tryz.prog 5 #[.agg #[.bool n, .slice a la ca, .slice d ld cd]] w fun e w' => e = .returned (.bool true) ∧ Below w.heap.size w w' := by
  obtain ⟨W, hW, bW, x_a, sW⟩ := bs_3 w (.bool n) (.slice a la ca) (.slice d ld cd) 27
  have zbW := bW.size
  replace ha := ha.below bW
  replace hd := hd.below bW
  have BB := bW
  go_enter Tryz.func5, Tryz.ntmps5
  go_wp2_with (go_at_call 7; fail)
  rw [← hW]
  clear hW
  refine (short5_any n a la ca u d ld cd v W ha hu hd hv).mono ?_
  rintro e w1 ⟨a1, m1, c1, x1, d1, k1, g1, y1, rfl, q1, f1, e1, bw1⟩
  have zbw1 := bw1.size
  replace ha := ha.below bw1
  replace hd := hd.below bw1
  replace BB := also BB bw1
  replace x_a := x_a.on bw1
  clear ha hd hu hv
  generalize sgz n x1 = Z at q1
  have ⟨x_a_0, x_a_1, x_a_2, x_a_3, x_a_4, x_a_5⟩ := x_a
  go_wp2_with (go_at_call 8; fail)
  clear x_a_0 x_a_1 x_a_2 x_a_3 x_a_4 x_a_5
  obtain ⟨U, hU⟩ : ∃ U, U = (((w1.setCell ⟨w.heap.size, 0, none⟩ (.bool n)).setCell ⟨w.heap.size, 1, none⟩ (.slice a1 m1 c1)).setCell ⟨w.heap.size, 2, none⟩ (.slice d1 k1 g1)) := ⟨_, rfl⟩
  have zU : U.heap.size = w1.heap.size := by rw [hU]; simp
  replace BB : Below w.heap.size w U := by rw [hU]; exact below_put3 BB (by omega) _ _ _
  replace x_a : B3 U (w.heap.size) (.bool n) (.slice a1 m1 c1) (.slice d1 k1 g1) := by rw [hU]; exact x_a.set
  replace q1 := q1.set3 hU (f1 _ (by omega)) (e1 _ (by omega))
  rw [← hU]
  clear hU
  refine (rqOf n a1 m1 c1 d1 k1 g1 Z y1 6 U q1).mono ?_
  rintro e w2 ⟨s2, d2, l2, c2, t2, g2, h2, k2, rfl, x2, r2, bw2⟩
  have zbw2 := bw2.size
  replace BB := also BB bw2
  replace x_a := x_a.on bw2
  replace q1 := q1.below bw2
  obtain ⟨V1, hV1, bV1, x_x, sV1⟩ := bs_4 w2 (.int .i64 s2) (.slice d2 l2 c2) (.int .i64 t2) (.slice g2 h2 k2) 34
  have zbV1 := bV1.size
  replace BB := also BB bV1
  replace x_a := x_a.on bV1
  replace q1 := q1.below bV1
  replace x2 := x2.below bV1
  go_wp2
  rw [← hV1]
  clear hV1
  obtain ⟨F, hF⟩ : ∃ F, F = flQ (pN Z y1) (pD y1) := ⟨_, rfl⟩
  have HF : Hid _ := hF
  obtain ⟨M, hM⟩ : ∃ M, M = flQ (pN Z y1 + pN Z y1 + (pD y1 : Int)) ((pD y1 + pD y1 : Nat) : Int) := ⟨_, rfl⟩
  have HM : Hid _ := hM
  obtain ⟨nr1, nr2, nr3, nr4⟩ := nearest (pN Z y1) F M (pD y1) (pD_pos _) hF hM
  have HM2 : Hid (M = flQ (pN Z y1 * ((2 : Nat) : Int) + 1 * (pD y1 : Int)) ((pD y1 * 2 : Nat) : Int)) := by
    unfold Hid
    rw [hM, show pN Z y1 * ((2 : Nat) : Int) + 1 * (pD y1 : Int) = pN Z y1 + pN Z y1 + (pD y1 : Int) by omega, show pD y1 * 2 = pD y1 + pD y1 by omega]
  have HFs : Hid (F.natAbs < 4294967296 ^ 9) := by unfold Hid; rw [hF]; exact Nat.lt_of_lt_of_le (flQ_abs _ _ 6 (pD_pos _) x2.ns x2.ds).1 (Nat.pow_le_pow_right (by decide) (by decide))
  have HMs : Hid (M.natAbs < 4294967296 ^ 9) := by unfold Hid; rw [hM]; exact round_abs _ _ (pD_pos _) x2.ns x2.ds
  have HFf : Hid (hf.nlen F.natAbs ≤ 1000000) := hfew HFs.out (by decide)
  have HMf : Hid (hf.nlen M.natAbs ≤ 1000000) := hfew HMs.out (by decide)
  obtain ⟨N1, hN1⟩ : ∃ N1, N1 = M * (pD y1 : Int) + -(pN Z y1) * ((1 : Nat) : Int) := ⟨_, rfl⟩
  obtain ⟨N2, hN2⟩ : ∃ N2, N2 = pN Z y1 * ((1 : Nat) : Int) + -F * (pD y1 : Int) := ⟨_, rfl⟩
  obtain ⟨D1, hD1⟩ : ∃ D1, D1 = 1 * pD y1 := ⟨_, rfl⟩
  obtain ⟨D2, hD2⟩ : ∃ D2, D2 = pD y1 * 1 := ⟨_, rfl⟩
  rw [← hN1, ← hD1] at nr1 nr2
  rw [← hN2] at nr3 nr4
  rw [← hD2] at nr4
  obtain ⟨G1, hG1⟩ : ∃ G1, G1 = (N1 * ((2 : Nat) : Int) - 1 * (D1 : Int)).sign := ⟨_, rfl⟩
  obtain ⟨G2, hG2⟩ : ∃ G2, G2 = (N1 * ((2 : Nat) : Int) - -1 * (D1 : Int)).sign := ⟨_, rfl⟩
  obtain ⟨G3, hG3⟩ : ∃ G3, G3 = (N2 * ((1 : Nat) : Int) - 1 * (D2 : Int)).sign := ⟨_, rfl⟩
  rw [← hG1] at nr1
  rw [← hG2] at nr2
  rw [← hG3] at nr4
  have HN1 : Hid _ := hN1
  have HN2 : Hid _ := hN2
  have HD1 : Hid _ := hD1
  have HD2 : Hid _ := hD2
  have HG1 : Hid _ := hG1
  have HG2 : Hid _ := hG2
  have HG3 : Hid _ := hG3
  have T1 : Hid _ := nr1
  have T2 : Hid _ := nr2
  have T3 : Hid _ := nr3
  have T4 : Hid _ := nr4
  clear hF hM hN1 hN2 hD1 hD2 hG1 hG2 hG3 nr1 nr2 nr3 nr4
  obtain ⟨QQ, hQQ⟩ : ∃ QQ : Exit → Act → World → Prop, QQ = fun e act wr => e = .normal ∧ ∃ (p q : Nat) (n3 : Bool) (a3 : Option Addr) (l3 c3 : Nat) (n4 : Bool) (a4 : Option Addr) (l4 c4 : Nat), act = ⟨#[.agg #[.bool n, .slice a la ca, .slice d ld cd], .pointer (some ⟨w.heap.size, 0, none⟩), .bool false, .pointer (some ⟨w2.heap.size, 0, none⟩), .pointer (some ⟨p, 0, none⟩), .pointer (some ⟨q, 0, none⟩), undef, undef, undef, .agg #[.bool n, .slice a la ca, .slice d ld cd], .agg #[.bool n, .slice a1 m1 c1, .slice d1 k1 g1], .agg #[.bool n, .slice a1 m1 c1, .slice d1 k1 g1], .agg #[.int .i64 s2, .slice d2 l2 c2, .int .i64 t2, .slice g2 h2 k2], .agg #[.bool n, .slice a1 m1 c1, .slice d1 k1 g1], .agg #[.bool n3, .slice a3 l3 c3], .agg #[.bool n, .slice a1 m1 c1, .slice d1 k1 g1], .agg #[.bool n4, .slice a4 l4 c4], undef, undef, undef, undef, undef, undef, undef, undef, undef, undef, undef, undef, undef, undef, undef, undef, undef, undef, undef, undef, undef, undef, undef, undef, undef, undef, undef, undef, undef, undef, undef, undef, undef, undef, undef, undef, undef, undef, undef, undef, undef, undef, undef, undef, undef, undef, undef, undef, undef, undef, undef, undef, undef], []⟩ ∧ QI wr 6 n a1 m1 c1 d1 k1 g1 Z y1 ∧ RQ wr 6 s2 d2 l2 c2 t2 g2 h2 k2 (pN Z y1) (pD y1) ∧ WN wr n3 a3 l3 c3 F ∧ WN wr n4 a4 l4 c4 M ∧ B3 wr (w.heap.size) (.bool n) (.slice a1 m1 c1) (.slice d1 k1 g1) ∧ B4 wr (w2.heap.size) (.int .i64 s2) (.slice d2 l2 c2) (.int .i64 t2) (.slice g2 h2 k2) ∧ Bx wr p (.bool n3) (.slice a3 l3 c3) ∧ Bx wr q (.bool n4) (.slice a4 l4 c4) ∧ Below w.heap.size w wr ∧ V1.heap.size ≤ wr.heap.size ∧ (V1.heap.size ≤ p ∧ p < wr.heap.size) ∧ (V1.heap.size ≤ q ∧ q < wr.heap.size) := ⟨_, rfl⟩
  have HQQ : Hid _ := hQQ
  clear hQQ
  refine wp_mono (Q := QQ) ?_ ?_
  · refine wp_region_held_drew (S := (fun w' => w'.cell? ⟨w.heap.size, 0, none⟩ = some (.bool n) ∧ w'.cell? ⟨w.heap.size, 1, none⟩ = some (.slice a1 m1 c1) ∧ w'.cell? ⟨w.heap.size, 2, none⟩ = some (.slice d1 k1 g1) ∧ Below w.heap.size w w')) (by kernel_rfl) ?_ (fun hHeld => ?_)
    · exact ⟨x_a.c0, x_a.c1, x_a.c2, BB.drew⟩
    refine take_yes (i := 0) (v := ?vfa0x1) rfl (by kernel_rfl) (by kernel_rfl) (by kernel_rfl) (fun _ _ _ h => by rw [HQQ.out] at h; exact Exit.noConfusion h.1) (by rfl) (by assumption) ?hyfa0x1 ?restfa0x1
    case hyfa0x1 => (intro w hSw; (try dsimp only at hSw); first | (go_simp; done) | (go_simp; with_reducible rfl))
    simp only [Act.put, List.setIfInBounds_toArray, List.set_cons_zero, List.set_cons_succ]
    refine take_yes (i := 2) (v := ?vfa2x2) rfl (by kernel_rfl) (by kernel_rfl) (by kernel_rfl) (fun _ _ _ h => by rw [HQQ.out] at h; exact Exit.noConfusion h.1) (by rfl) (by assumption) ?hyfa2x2 ?restfa2x2
    case hyfa2x2 => (intro w hSw; (try dsimp only at hSw); first | (go_simp; done) | (go_simp; with_reducible rfl))
    simp only [Act.put, List.setIfInBounds_toArray, List.set_cons_zero, List.set_cons_succ]
    have b0 : Below V1.heap.size V1 V1.drew := (Below.refl _ _).drew
    have BU := b0
    generalize V1.drew = X0 at b0 BU hHeld ⊢
    replace q1 := q1.below b0
    replace x2 := x2.below b0
    replace x_a := x_a.on b0
    replace x_x := x_x.on b0
    replace BB := also BB b0
    refine wpAnyH_ready (rs := [1, 4, 5]) (by kernel_rfl) (by simp) (AllReadyH.cons (i := 1) rfl (fun Kc hK => ?_) (AllReadyH.cons (i := 4) rfl (fun Kc hK => ?_) (AllReadyH.cons (i := 5) rfl (fun Kc hK => ?_) AllReadyH.nil)))
    · skip
      go_simp
      (go_at_call 23; refine (qFloor n a1 m1 c1 d1 k1 g1 Z y1 6 _ q1 F HF.out).mono ?_; rintro e X1 ⟨n3, a3, l3, c3, rfl, h3, f3, e1⟩)
      refine hK.out _ _ ⟨cell_on e1 hHeld.1, cell_on e1 hHeld.2.1, cell_on e1 hHeld.2.2.1, also hHeld.2.2.2 e1⟩ (fun hHeld => ?_)
      clear hK Kc
      replace q1 := q1.below e1
      replace x2 := x2.below e1
      replace x_a := x_a.on e1
      replace x_x := x_x.on e1
      replace BB := also BB e1
      replace BU := also BU e1
      refine wpAnyH_ready (rs := [3, 4, 5]) (by kernel_rfl) (by simp) (AllReadyH.cons (i := 3) rfl (fun Kc hK => ?_) (AllReadyH.cons (i := 4) rfl (fun Kc hK => ?_) (AllReadyH.cons (i := 5) rfl (fun Kc hK => ?_) AllReadyH.nil)))
      · skip
        go_simp
        (go_at_call 24; refine (qRound n a1 m1 c1 d1 k1 g1 Z y1 6 _ q1 M HM.out).mono ?_; rintro e X2 ⟨n4, a4, l4, c4, rfl, h4, f4, e2⟩)
        refine hK.out _ _ ⟨cell_on e2 hHeld.1, cell_on e2 hHeld.2.1, cell_on e2 hHeld.2.2.1, also hHeld.2.2.2 e2⟩ (fun hHeld => ?_)
        clear hK Kc
        replace q1 := q1.below e2
        replace x2 := x2.below e2
        replace h3 := h3.below e2
        replace x_a := x_a.on e2
        replace x_x := x_x.on e2
        replace BB := also BB e2
        replace BU := also BU e2
        refine wpAnyH_ready (rs := [4, 5]) (by kernel_rfl) (by simp) (AllReadyH.cons (i := 4) rfl (fun Kc hK => ?_) (AllReadyH.cons (i := 5) rfl (fun Kc hK => ?_) AllReadyH.nil))
        · skip
          go_simp
          refine hK.out _ _ ⟨cell_on ((Below.refl _ _).alloc (Nat.le_refl _) _) hHeld.1, cell_on ((Below.refl _ _).alloc (Nat.le_refl _) _) hHeld.2.1, cell_on ((Below.refl _ _).alloc (Nat.le_refl _) _) hHeld.2.2.1, also hHeld.2.2.2 ((Below.refl _ _).alloc (Nat.le_refl _) _)⟩ (fun hHeld => ?_)
          clear hK Kc
          have y_p := bx_new X2 (.bool false) (.slice none 0 0) 25
          have e3 : Below X2.heap.size X2 (X2.alloc (.cells #[.bool false, .slice none 0 0] 25)) := (Below.refl _ _).alloc (Nat.le_refl _) _
          have lp : X2.heap.size < (X2.alloc (.cells #[.bool false, .slice none 0 0] 25)).heap.size := by simp
          have gp : V1.heap.size ≤ X2.heap.size := BU.size
          have n_q1_0_p : NA X2.heap.size a1 m1 := q1.wi.ni.sl.na (Nat.le_refl _)
          have n_q1_1_p : NA X2.heap.size d1 k1 := q1.ni.sl.na (Nat.le_refl _)
          have n_x2_0_p : NA X2.heap.size d2 l2 := x2.rn.hd.sl.na (Nat.le_refl _)
          have n_x2_1_p : NA X2.heap.size g2 h2 := x2.rd.hd.sl.na (Nat.le_refl _)
          have n_h3_0_p : NA X2.heap.size a3 l3 := h3.nd.sl.na (Nat.le_refl _)
          have n_h4_0_p : NA X2.heap.size a4 l4 := h4.nd.sl.na (Nat.le_refl _)
          generalize X2.alloc (.cells #[.bool false, .slice none 0 0] 25) = X3 at y_p e3 lp hHeld ⊢
          replace q1 := q1.below e3
          replace x2 := x2.below e3
          replace h3 := h3.below e3
          replace h4 := h4.below e3
          replace x_a := x_a.on e3
          replace x_x := x_x.on e3
          replace BB := also BB e3
          replace BU := also BU e3
          generalize X2.heap.size = p at y_p lp gp n_q1_0_p n_q1_1_p n_x2_0_p n_x2_1_p n_h3_0_p n_h4_0_p ⊢
          refine take_call (i := 5) rfl (by kernel_rfl) (fun Kc hK => ?_)
          go_simp
          refine hK.out _ _ ⟨cell_on ((Below.refl _ _).alloc (Nat.le_refl _) _) hHeld.1, cell_on ((Below.refl _ _).alloc (Nat.le_refl _) _) hHeld.2.1, cell_on ((Below.refl _ _).alloc (Nat.le_refl _) _) hHeld.2.2.1, also hHeld.2.2.2 ((Below.refl _ _).alloc (Nat.le_refl _) _)⟩ (fun hHeld => ?_)
          clear hK Kc
          have y_q := bx_new X3 (.bool false) (.slice none 0 0) 25
          have e4 : Below X3.heap.size X3 (X3.alloc (.cells #[.bool false, .slice none 0 0] 25)) := (Below.refl _ _).alloc (Nat.le_refl _) _
          have lq : X3.heap.size < (X3.alloc (.cells #[.bool false, .slice none 0 0] 25)).heap.size := by simp
          have gq : V1.heap.size ≤ X3.heap.size := BU.size
          have n_q1_0_q : NA X3.heap.size a1 m1 := q1.wi.ni.sl.na (Nat.le_refl _)
          have n_q1_1_q : NA X3.heap.size d1 k1 := q1.ni.sl.na (Nat.le_refl _)
          have n_x2_0_q : NA X3.heap.size d2 l2 := x2.rn.hd.sl.na (Nat.le_refl _)
          have n_x2_1_q : NA X3.heap.size g2 h2 := x2.rd.hd.sl.na (Nat.le_refl _)
          have n_h3_0_q : NA X3.heap.size a3 l3 := h3.nd.sl.na (Nat.le_refl _)
          have n_h4_0_q : NA X3.heap.size a4 l4 := h4.nd.sl.na (Nat.le_refl _)
          have pq : p ≠ X3.heap.size := Nat.ne_of_lt lp
          generalize X3.alloc (.cells #[.bool false, .slice none 0 0] 25) = X4 at y_q e4 lq hHeld ⊢
          replace q1 := q1.below e4
          replace x2 := x2.below e4
          replace h3 := h3.below e4
          replace h4 := h4.below e4
          replace x_a := x_a.on e4
          replace x_x := x_x.on e4
          replace BB := also BB e4
          replace BU := also BU e4
          replace y_p := y_p.on e4
          replace lp := Nat.lt_of_lt_of_le lp e4.size
          generalize X3.heap.size = q at y_q lq gq n_q1_0_q n_q1_1_q n_x2_0_q n_x2_1_q n_h3_0_q n_h4_0_q pq ⊢
          have ⟨c_p_0, c_p_1, c_p_2, c_p_3⟩ : Bx X4 p (.bool false) (.slice none 0 0) := y_p
          refine take_call (i := 6) rfl (by kernel_rfl) (fun Kc hK => ?_)
          go_simp
          refine hK.out _ _ ⟨cell_put2 hHeld.1 (by omega) _ _, cell_put2 hHeld.2.1 (by omega) _ _, cell_put2 hHeld.2.2.1 (by omega) _ _, below_put2 hHeld.2.2.2 (by omega) _ _⟩ (fun hHeld => ?_)
          clear hK Kc
          have ⟨c_q_0, c_q_1, c_q_2, c_q_3⟩ : Bx ((X4.setCell ⟨p, 0, none⟩ (.bool n3)).setCell ⟨p, 1, none⟩ (.slice a3 l3 c3)) q (.bool false) (.slice none 0 0) := ((y_q.put pq).put pq)
          refine take_call (i := 7) rfl (by kernel_rfl) (fun Kc hK => ?_)
          go_simp
          refine hK.out _ _ ⟨cell_put2 hHeld.1 (by omega) _ _, cell_put2 hHeld.2.1 (by omega) _ _, cell_put2 hHeld.2.2.1 (by omega) _ _, below_put2 hHeld.2.2.2 (by omega) _ _⟩ (fun hHeld => ?_)
          clear hK Kc
          refine wpAnyH_done (by kernel_rfl) ?_ _
          rw [HQQ.out]
          exact ⟨rfl, p, q, n3, a3, l3, c3, n4, a4, l4, c4, rfl, ((((q1.put n_q1_0_p n_q1_1_p 0 _).put n_q1_0_p n_q1_1_p 1 _).put n_q1_0_q n_q1_1_q 0 _).put n_q1_0_q n_q1_1_q 1 _), ((((x2.put n_x2_0_p n_x2_1_p 0 _).put n_x2_0_p n_x2_1_p 1 _).put n_x2_0_q n_x2_1_q 0 _).put n_x2_0_q n_x2_1_q 1 _), ((((h3.put n_h3_0_p 0 _).put n_h3_0_p 1 _).put n_h3_0_q 0 _).put n_h3_0_q 1 _), ((((h4.put n_h4_0_p 0 _).put n_h4_0_p 1 _).put n_h4_0_q 0 _).put n_h4_0_q 1 _), ((((x_a.put (by omega)).put (by omega)).put (by omega)).put (by omega)), ((((x_x.put (by omega)).put (by omega)).put (by omega)).put (by omega)), ((y_p.set.put (fun e => pq e.symm)).put (fun e => pq e.symm)), ((y_q.put pq).put pq).set, (below_put2 (below_put2 BB (by omega) _ _) (by omega) _ _), by have := BU.size; simp only [World.size_setCell]; omega, ⟨gp, by simp only [World.size_setCell]; omega⟩, ⟨gq, by simp only [World.size_setCell]; omega⟩⟩
        · skip
          go_simp
          refine hK.out _ _ ⟨cell_on ((Below.refl _ _).alloc (Nat.le_refl _) _) hHeld.1, cell_on ((Below.refl _ _).alloc (Nat.le_refl _) _) hHeld.2.1, cell_on ((Below.refl _ _).alloc (Nat.le_refl _) _) hHeld.2.2.1, also hHeld.2.2.2 ((Below.refl _ _).alloc (Nat.le_refl _) _)⟩ (fun hHeld => ?_)
          clear hK Kc
          have y_q := bx_new X2 (.bool false) (.slice none 0 0) 25
          have e5 : Below X2.heap.size X2 (X2.alloc (.cells #[.bool false, .slice none 0 0] 25)) := (Below.refl _ _).alloc (Nat.le_refl _) _
          have lq : X2.heap.size < (X2.alloc (.cells #[.bool false, .slice none 0 0] 25)).heap.size := by simp
          have gq : V1.heap.size ≤ X2.heap.size := BU.size
          have n_q1_0_q : NA X2.heap.size a1 m1 := q1.wi.ni.sl.na (Nat.le_refl _)
          have n_q1_1_q : NA X2.heap.size d1 k1 := q1.ni.sl.na (Nat.le_refl _)
          have n_x2_0_q : NA X2.heap.size d2 l2 := x2.rn.hd.sl.na (Nat.le_refl _)
          have n_x2_1_q : NA X2.heap.size g2 h2 := x2.rd.hd.sl.na (Nat.le_refl _)
          have n_h3_0_q : NA X2.heap.size a3 l3 := h3.nd.sl.na (Nat.le_refl _)
          have n_h4_0_q : NA X2.heap.size a4 l4 := h4.nd.sl.na (Nat.le_refl _)
          generalize X2.alloc (.cells #[.bool false, .slice none 0 0] 25) = X5 at y_q e5 lq hHeld ⊢
          replace q1 := q1.below e5
          replace x2 := x2.below e5
          replace h3 := h3.below e5
          replace h4 := h4.below e5
          replace x_a := x_a.on e5
          replace x_x := x_x.on e5
          replace BB := also BB e5
          replace BU := also BU e5
          generalize X2.heap.size = q at y_q lq gq n_q1_0_q n_q1_1_q n_x2_0_q n_x2_1_q n_h3_0_q n_h4_0_q ⊢
          refine take_call (i := 4) rfl (by kernel_rfl) (fun Kc hK => ?_)
          go_simp
          refine hK.out _ _ ⟨cell_on ((Below.refl _ _).alloc (Nat.le_refl _) _) hHeld.1, cell_on ((Below.refl _ _).alloc (Nat.le_refl _) _) hHeld.2.1, cell_on ((Below.refl _ _).alloc (Nat.le_refl _) _) hHeld.2.2.1, also hHeld.2.2.2 ((Below.refl _ _).alloc (Nat.le_refl _) _)⟩ (fun hHeld => ?_)
          clear hK Kc
          have y_p := bx_new X5 (.bool false) (.slice none 0 0) 25
          have e6 : Below X5.heap.size X5 (X5.alloc (.cells #[.bool false, .slice none 0 0] 25)) := (Below.refl _ _).alloc (Nat.le_refl _) _
          have lp : X5.heap.size < (X5.alloc (.cells #[.bool false, .slice none 0 0] 25)).heap.size := by simp
          have gp : V1.heap.size ≤ X5.heap.size := BU.size
          have n_q1_0_p : NA X5.heap.size a1 m1 := q1.wi.ni.sl.na (Nat.le_refl _)
          have n_q1_1_p : NA X5.heap.size d1 k1 := q1.ni.sl.na (Nat.le_refl _)
          have n_x2_0_p : NA X5.heap.size d2 l2 := x2.rn.hd.sl.na (Nat.le_refl _)
          have n_x2_1_p : NA X5.heap.size g2 h2 := x2.rd.hd.sl.na (Nat.le_refl _)
          have n_h3_0_p : NA X5.heap.size a3 l3 := h3.nd.sl.na (Nat.le_refl _)
          have n_h4_0_p : NA X5.heap.size a4 l4 := h4.nd.sl.na (Nat.le_refl _)
          have pq : X5.heap.size ≠ q := Nat.ne_of_gt lq
          generalize X5.alloc (.cells #[.bool false, .slice none 0 0] 25) = X6 at y_p e6 lp hHeld ⊢
          replace q1 := q1.below e6
          replace x2 := x2.below e6
          replace h3 := h3.below e6
          replace h4 := h4.below e6
          replace x_a := x_a.on e6
          replace x_x := x_x.on e6
          replace BB := also BB e6
          replace BU := also BU e6
          replace y_q := y_q.on e6
          replace lq := Nat.lt_of_lt_of_le lq e6.size
          generalize X5.heap.size = p at y_p lp gp n_q1_0_p n_q1_1_p n_x2_0_p n_x2_1_p n_h3_0_p n_h4_0_p pq ⊢
          have ⟨c_p_0, c_p_1, c_p_2, c_p_3⟩ : Bx X6 p (.bool false) (.slice none 0 0) := y_p
          refine take_call (i := 6) rfl (by kernel_rfl) (fun Kc hK => ?_)
          go_simp
          refine hK.out _ _ ⟨cell_put2 hHeld.1 (by omega) _ _, cell_put2 hHeld.2.1 (by omega) _ _, cell_put2 hHeld.2.2.1 (by omega) _ _, below_put2 hHeld.2.2.2 (by omega) _ _⟩ (fun hHeld => ?_)
          clear hK Kc
          have ⟨c_q_0, c_q_1, c_q_2, c_q_3⟩ : Bx ((X6.setCell ⟨p, 0, none⟩ (.bool n3)).setCell ⟨p, 1, none⟩ (.slice a3 l3 c3)) q (.bool false) (.slice none 0 0) := ((y_q.put pq).put pq)
          refine take_call (i := 7) rfl (by kernel_rfl) (fun Kc hK => ?_)
          go_simp
          refine hK.out _ _ ⟨cell_put2 hHeld.1 (by omega) _ _, cell_put2 hHeld.2.1 (by omega) _ _, cell_put2 hHeld.2.2.1 (by omega) _ _, below_put2 hHeld.2.2.2 (by omega) _ _⟩ (fun hHeld => ?_)
          clear hK Kc
          refine wpAnyH_done (by kernel_rfl) ?_ _
          rw [HQQ.out]
          exact ⟨rfl, p, q, n3, a3, l3, c3, n4, a4, l4, c4, rfl, ((((q1.put n_q1_0_p n_q1_1_p 0 _).put n_q1_0_p n_q1_1_p 1 _).put n_q1_0_q n_q1_1_q 0 _).put n_q1_0_q n_q1_1_q 1 _), ((((x2.put n_x2_0_p n_x2_1_p 0 _).put n_x2_0_p n_x2_1_p 1 _).put n_x2_0_q n_x2_1_q 0 _).put n_x2_0_q n_x2_1_q 1 _), ((((h3.put n_h3_0_p 0 _).put n_h3_0_p 1 _).put n_h3_0_q 0 _).put n_h3_0_q 1 _), ((((h4.put n_h4_0_p 0 _).put n_h4_0_p 1 _).put n_h4_0_q 0 _).put n_h4_0_q 1 _), ((((x_a.put (by omega)).put (by omega)).put (by omega)).put (by omega)), ((((x_x.put (by omega)).put (by omega)).put (by omega)).put (by omega)), ((y_p.set.put (fun e => pq e.symm)).put (fun e => pq e.symm)), ((y_q.put pq).put pq).set, (below_put2 (below_put2 BB (by omega) _ _) (by omega) _ _), by have := BU.size; simp only [World.size_setCell]; omega, ⟨gp, by simp only [World.size_setCell]; omega⟩, ⟨gq, by simp only [World.size_setCell]; omega⟩⟩
      · skip
        go_simp
        refine hK.out _ _ ⟨cell_on ((Below.refl _ _).alloc (Nat.le_refl _) _) hHeld.1, cell_on ((Below.refl _ _).alloc (Nat.le_refl _) _) hHeld.2.1, cell_on ((Below.refl _ _).alloc (Nat.le_refl _) _) hHeld.2.2.1, also hHeld.2.2.2 ((Below.refl _ _).alloc (Nat.le_refl _) _)⟩ (fun hHeld => ?_)
        clear hK Kc
        have y_p := bx_new X1 (.bool false) (.slice none 0 0) 25
        have e7 : Below X1.heap.size X1 (X1.alloc (.cells #[.bool false, .slice none 0 0] 25)) := (Below.refl _ _).alloc (Nat.le_refl _) _
        have lp : X1.heap.size < (X1.alloc (.cells #[.bool false, .slice none 0 0] 25)).heap.size := by simp
        have gp : V1.heap.size ≤ X1.heap.size := BU.size
        have n_q1_0_p : NA X1.heap.size a1 m1 := q1.wi.ni.sl.na (Nat.le_refl _)
        have n_q1_1_p : NA X1.heap.size d1 k1 := q1.ni.sl.na (Nat.le_refl _)
        have n_x2_0_p : NA X1.heap.size d2 l2 := x2.rn.hd.sl.na (Nat.le_refl _)
        have n_x2_1_p : NA X1.heap.size g2 h2 := x2.rd.hd.sl.na (Nat.le_refl _)
        have n_h3_0_p : NA X1.heap.size a3 l3 := h3.nd.sl.na (Nat.le_refl _)
        generalize X1.alloc (.cells #[.bool false, .slice none 0 0] 25) = X7 at y_p e7 lp hHeld ⊢
        replace q1 := q1.below e7
        replace x2 := x2.below e7
        replace h3 := h3.below e7
        replace x_a := x_a.on e7
        replace x_x := x_x.on e7
        replace BB := also BB e7
        replace BU := also BU e7
        generalize X1.heap.size = p at y_p lp gp n_q1_0_p n_q1_1_p n_x2_0_p n_x2_1_p n_h3_0_p ⊢
        refine wpAnyH_ready (rs := [3, 5]) (by kernel_rfl) (by simp) (AllReadyH.cons (i := 3) rfl (fun Kc hK => ?_) (AllReadyH.cons (i := 5) rfl (fun Kc hK => ?_) AllReadyH.nil))
        · skip
          go_simp
          (go_at_call 24; refine (qRound n a1 m1 c1 d1 k1 g1 Z y1 6 _ q1 M HM.out).mono ?_; rintro e X8 ⟨n4, a4, l4, c4, rfl, h4, f4, e8⟩)
          refine hK.out _ _ ⟨cell_on e8 hHeld.1, cell_on e8 hHeld.2.1, cell_on e8 hHeld.2.2.1, also hHeld.2.2.2 e8⟩ (fun hHeld => ?_)
          clear hK Kc
          have n_h4_0_p : NA p a4 l4 := f4 p lp
          replace q1 := q1.below e8
          replace x2 := x2.below e8
          replace h3 := h3.below e8
          replace x_a := x_a.on e8
          replace x_x := x_x.on e8
          replace BB := also BB e8
          replace BU := also BU e8
          replace y_p := y_p.on e8
          replace lp := Nat.lt_of_lt_of_le lp e8.size
          refine take_call (i := 5) rfl (by kernel_rfl) (fun Kc hK => ?_)
          go_simp
          refine hK.out _ _ ⟨cell_on ((Below.refl _ _).alloc (Nat.le_refl _) _) hHeld.1, cell_on ((Below.refl _ _).alloc (Nat.le_refl _) _) hHeld.2.1, cell_on ((Below.refl _ _).alloc (Nat.le_refl _) _) hHeld.2.2.1, also hHeld.2.2.2 ((Below.refl _ _).alloc (Nat.le_refl _) _)⟩ (fun hHeld => ?_)
          clear hK Kc
          have y_q := bx_new X8 (.bool false) (.slice none 0 0) 25
          have e9 : Below X8.heap.size X8 (X8.alloc (.cells #[.bool false, .slice none 0 0] 25)) := (Below.refl _ _).alloc (Nat.le_refl _) _
          have lq : X8.heap.size < (X8.alloc (.cells #[.bool false, .slice none 0 0] 25)).heap.size := by simp
          have gq : V1.heap.size ≤ X8.heap.size := BU.size
          have n_q1_0_q : NA X8.heap.size a1 m1 := q1.wi.ni.sl.na (Nat.le_refl _)
          have n_q1_1_q : NA X8.heap.size d1 k1 := q1.ni.sl.na (Nat.le_refl _)
          have n_x2_0_q : NA X8.heap.size d2 l2 := x2.rn.hd.sl.na (Nat.le_refl _)
          have n_x2_1_q : NA X8.heap.size g2 h2 := x2.rd.hd.sl.na (Nat.le_refl _)
          have n_h3_0_q : NA X8.heap.size a3 l3 := h3.nd.sl.na (Nat.le_refl _)
          have n_h4_0_q : NA X8.heap.size a4 l4 := h4.nd.sl.na (Nat.le_refl _)
          have pq : p ≠ X8.heap.size := Nat.ne_of_lt lp
          generalize X8.alloc (.cells #[.bool false, .slice none 0 0] 25) = X9 at y_q e9 lq hHeld ⊢
          replace q1 := q1.below e9
          replace x2 := x2.below e9
          replace h3 := h3.below e9
          replace h4 := h4.below e9
          replace x_a := x_a.on e9
          replace x_x := x_x.on e9
          replace BB := also BB e9
          replace BU := also BU e9
          replace y_p := y_p.on e9
          replace lp := Nat.lt_of_lt_of_le lp e9.size
          generalize X8.heap.size = q at y_q lq gq n_q1_0_q n_q1_1_q n_x2_0_q n_x2_1_q n_h3_0_q n_h4_0_q pq ⊢
          have ⟨c_p_0, c_p_1, c_p_2, c_p_3⟩ : Bx X9 p (.bool false) (.slice none 0 0) := y_p
          refine take_call (i := 6) rfl (by kernel_rfl) (fun Kc hK => ?_)
          go_simp
          refine hK.out _ _ ⟨cell_put2 hHeld.1 (by omega) _ _, cell_put2 hHeld.2.1 (by omega) _ _, cell_put2 hHeld.2.2.1 (by omega) _ _, below_put2 hHeld.2.2.2 (by omega) _ _⟩ (fun hHeld => ?_)
          clear hK Kc
          have ⟨c_q_0, c_q_1, c_q_2, c_q_3⟩ : Bx ((X9.setCell ⟨p, 0, none⟩ (.bool n3)).setCell ⟨p, 1, none⟩ (.slice a3 l3 c3)) q (.bool false) (.slice none 0 0) := ((y_q.put pq).put pq)
          refine take_call (i := 7) rfl (by kernel_rfl) (fun Kc hK => ?_)
          go_simp
          refine hK.out _ _ ⟨cell_put2 hHeld.1 (by omega) _ _, cell_put2 hHeld.2.1 (by omega) _ _, cell_put2 hHeld.2.2.1 (by omega) _ _, below_put2 hHeld.2.2.2 (by omega) _ _⟩ (fun hHeld => ?_)
          clear hK Kc
          refine wpAnyH_done (by kernel_rfl) ?_ _
          rw [HQQ.out]
          exact ⟨rfl, p, q, n3, a3, l3, c3, n4, a4, l4, c4, rfl, ((((q1.put n_q1_0_p n_q1_1_p 0 _).put n_q1_0_p n_q1_1_p 1 _).put n_q1_0_q n_q1_1_q 0 _).put n_q1_0_q n_q1_1_q 1 _), ((((x2.put n_x2_0_p n_x2_1_p 0 _).put n_x2_0_p n_x2_1_p 1 _).put n_x2_0_q n_x2_1_q 0 _).put n_x2_0_q n_x2_1_q 1 _), ((((h3.put n_h3_0_p 0 _).put n_h3_0_p 1 _).put n_h3_0_q 0 _).put n_h3_0_q 1 _), ((((h4.put n_h4_0_p 0 _).put n_h4_0_p 1 _).put n_h4_0_q 0 _).put n_h4_0_q 1 _), ((((x_a.put (by omega)).put (by omega)).put (by omega)).put (by omega)), ((((x_x.put (by omega)).put (by omega)).put (by omega)).put (by omega)), ((y_p.set.put (fun e => pq e.symm)).put (fun e => pq e.symm)), ((y_q.put pq).put pq).set, (below_put2 (below_put2 BB (by omega) _ _) (by omega) _ _), by have := BU.size; simp only [World.size_setCell]; omega, ⟨gp, by simp only [World.size_setCell]; omega⟩, ⟨gq, by simp only [World.size_setCell]; omega⟩⟩
        · skip
          go_simp
          refine hK.out _ _ ⟨cell_on ((Below.refl _ _).alloc (Nat.le_refl _) _) hHeld.1, cell_on ((Below.refl _ _).alloc (Nat.le_refl _) _) hHeld.2.1, cell_on ((Below.refl _ _).alloc (Nat.le_refl _) _) hHeld.2.2.1, also hHeld.2.2.2 ((Below.refl _ _).alloc (Nat.le_refl _) _)⟩ (fun hHeld => ?_)
          clear hK Kc
          have y_q := bx_new X7 (.bool false) (.slice none 0 0) 25
          have e10 : Below X7.heap.size X7 (X7.alloc (.cells #[.bool false, .slice none 0 0] 25)) := (Below.refl _ _).alloc (Nat.le_refl _) _
          have lq : X7.heap.size < (X7.alloc (.cells #[.bool false, .slice none 0 0] 25)).heap.size := by simp
          have gq : V1.heap.size ≤ X7.heap.size := BU.size
          have n_q1_0_q : NA X7.heap.size a1 m1 := q1.wi.ni.sl.na (Nat.le_refl _)
          have n_q1_1_q : NA X7.heap.size d1 k1 := q1.ni.sl.na (Nat.le_refl _)
          have n_x2_0_q : NA X7.heap.size d2 l2 := x2.rn.hd.sl.na (Nat.le_refl _)
          have n_x2_1_q : NA X7.heap.size g2 h2 := x2.rd.hd.sl.na (Nat.le_refl _)
          have n_h3_0_q : NA X7.heap.size a3 l3 := h3.nd.sl.na (Nat.le_refl _)
          have pq : p ≠ X7.heap.size := Nat.ne_of_lt lp
          generalize X7.alloc (.cells #[.bool false, .slice none 0 0] 25) = X10 at y_q e10 lq hHeld ⊢
          replace q1 := q1.below e10
          replace x2 := x2.below e10
          replace h3 := h3.below e10
          replace x_a := x_a.on e10
          replace x_x := x_x.on e10
          replace BB := also BB e10
          replace BU := also BU e10
          replace y_p := y_p.on e10
          replace lp := Nat.lt_of_lt_of_le lp e10.size
          generalize X7.heap.size = q at y_q lq gq n_q1_0_q n_q1_1_q n_x2_0_q n_x2_1_q n_h3_0_q pq ⊢
          refine take_call (i := 3) rfl (by kernel_rfl) (fun Kc hK => ?_)
          go_simp
          (go_at_call 24; refine (qRound n a1 m1 c1 d1 k1 g1 Z y1 6 _ q1 M HM.out).mono ?_; rintro e X11 ⟨n4, a4, l4, c4, rfl, h4, f4, e11⟩)
          refine hK.out _ _ ⟨cell_on e11 hHeld.1, cell_on e11 hHeld.2.1, cell_on e11 hHeld.2.2.1, also hHeld.2.2.2 e11⟩ (fun hHeld => ?_)
          clear hK Kc
          have n_h4_0_p : NA p a4 l4 := f4 p lp
          have n_h4_0_q : NA q a4 l4 := f4 q lq
          replace q1 := q1.below e11
          replace x2 := x2.below e11
          replace h3 := h3.below e11
          replace x_a := x_a.on e11
          replace x_x := x_x.on e11
          replace BB := also BB e11
          replace BU := also BU e11
          replace y_p := y_p.on e11
          replace lp := Nat.lt_of_lt_of_le lp e11.size
          replace y_q := y_q.on e11
          replace lq := Nat.lt_of_lt_of_le lq e11.size
          have ⟨c_p_0, c_p_1, c_p_2, c_p_3⟩ : Bx X11 p (.bool false) (.slice none 0 0) := y_p
          refine take_call (i := 6) rfl (by kernel_rfl) (fun Kc hK => ?_)
          go_simp
          refine hK.out _ _ ⟨cell_put2 hHeld.1 (by omega) _ _, cell_put2 hHeld.2.1 (by omega) _ _, cell_put2 hHeld.2.2.1 (by omega) _ _, below_put2 hHeld.2.2.2 (by omega) _ _⟩ (fun hHeld => ?_)
          clear hK Kc
          have ⟨c_q_0, c_q_1, c_q_2, c_q_3⟩ : Bx ((X11.setCell ⟨p, 0, none⟩ (.bool n3)).setCell ⟨p, 1, none⟩ (.slice a3 l3 c3)) q (.bool false) (.slice none 0 0) := ((y_q.put pq).put pq)
          refine take_call (i := 7) rfl (by kernel_rfl) (fun Kc hK => ?_)
          go_simp
          refine hK.out _ _ ⟨cell_put2 hHeld.1 (by omega) _ _, cell_put2 hHeld.2.1 (by omega) _ _, cell_put2 hHeld.2.2.1 (by omega) _ _, below_put2 hHeld.2.2.2 (by omega) _ _⟩ (fun hHeld => ?_)
          clear hK Kc
          refine wpAnyH_done (by kernel_rfl) ?_ _
          rw [HQQ.out]
          exact ⟨rfl, p, q, n3, a3, l3, c3, n4, a4, l4, c4, rfl, ((((q1.put n_q1_0_p n_q1_1_p 0 _).put n_q1_0_p n_q1_1_p 1 _).put n_q1_0_q n_q1_1_q 0 _).put n_q1_0_q n_q1_1_q 1 _), ((((x2.put n_x2_0_p n_x2_1_p 0 _).put n_x2_0_p n_x2_1_p 1 _).put n_x2_0_q n_x2_1_q 0 _).put n_x2_0_q n_x2_1_q 1 _), ((((h3.put n_h3_0_p 0 _).put n_h3_0_p 1 _).put n_h3_0_q 0 _).put n_h3_0_q 1 _), ((((h4.put n_h4_0_p 0 _).put n_h4_0_p 1 _).put n_h4_0_q 0 _).put n_h4_0_q 1 _), ((((x_a.put (by omega)).put (by omega)).put (by omega)).put (by omega)), ((((x_x.put (by omega)).put (by omega)).put (by omega)).put (by omega)), ((y_p.set.put (fun e => pq e.symm)).put (fun e => pq e.symm)), ((y_q.put pq).put pq).set, (below_put2 (below_put2 BB (by omega) _ _) (by omega) _ _), by have := BU.size; simp only [World.size_setCell]; omega, ⟨gp, by simp only [World.size_setCell]; omega⟩, ⟨gq, by simp only [World.size_setCell]; omega⟩⟩
      · skip
        go_simp
        refine hK.out _ _ ⟨cell_on ((Below.refl _ _).alloc (Nat.le_refl _) _) hHeld.1, cell_on ((Below.refl _ _).alloc (Nat.le_refl _) _) hHeld.2.1, cell_on ((Below.refl _ _).alloc (Nat.le_refl _) _) hHeld.2.2.1, also hHeld.2.2.2 ((Below.refl _ _).alloc (Nat.le_refl _) _)⟩ (fun hHeld => ?_)
        clear hK Kc
        have y_q := bx_new X1 (.bool false) (.slice none 0 0) 25
        have e12 : Below X1.heap.size X1 (X1.alloc (.cells #[.bool false, .slice none 0 0] 25)) := (Below.refl _ _).alloc (Nat.le_refl _) _
        have lq : X1.heap.size < (X1.alloc (.cells #[.bool false, .slice none 0 0] 25)).heap.size := by simp
        have gq : V1.heap.size ≤ X1.heap.size := BU.size
        have n_q1_0_q : NA X1.heap.size a1 m1 := q1.wi.ni.sl.na (Nat.le_refl _)
        have n_q1_1_q : NA X1.heap.size d1 k1 := q1.ni.sl.na (Nat.le_refl _)
        have n_x2_0_q : NA X1.heap.size d2 l2 := x2.rn.hd.sl.na (Nat.le_refl _)
        have n_x2_1_q : NA X1.heap.size g2 h2 := x2.rd.hd.sl.na (Nat.le_refl _)
        have n_h3_0_q : NA X1.heap.size a3 l3 := h3.nd.sl.na (Nat.le_refl _)
        generalize X1.alloc (.cells #[.bool false, .slice none 0 0] 25) = X12 at y_q e12 lq hHeld ⊢
        replace q1 := q1.below e12
        replace x2 := x2.below e12
        replace h3 := h3.below e12
        replace x_a := x_a.on e12
        replace x_x := x_x.on e12
        replace BB := also BB e12
        replace BU := also BU e12
        generalize X1.heap.size = q at y_q lq gq n_q1_0_q n_q1_1_q n_x2_0_q n_x2_1_q n_h3_0_q ⊢
        refine wpAnyH_ready (rs := [3, 4]) (by kernel_rfl) (by simp) (AllReadyH.cons (i := 3) rfl (fun Kc hK => ?_) (AllReadyH.cons (i := 4) rfl (fun Kc hK => ?_) AllReadyH.nil))
        · skip
          go_simp
          (go_at_call 24; refine (qRound n a1 m1 c1 d1 k1 g1 Z y1 6 _ q1 M HM.out).mono ?_; rintro e X13 ⟨n4, a4, l4, c4, rfl, h4, f4, e13⟩)
          refine hK.out _ _ ⟨cell_on e13 hHeld.1, cell_on e13 hHeld.2.1, cell_on e13 hHeld.2.2.1, also hHeld.2.2.2 e13⟩ (fun hHeld => ?_)
          clear hK Kc
          have n_h4_0_q : NA q a4 l4 := f4 q lq
          replace q1 := q1.below e13
          replace x2 := x2.below e13
          replace h3 := h3.below e13
          replace x_a := x_a.on e13
          replace x_x := x_x.on e13
          replace BB := also BB e13
          replace BU := also BU e13
          replace y_q := y_q.on e13
          replace lq := Nat.lt_of_lt_of_le lq e13.size
          refine take_call (i := 4) rfl (by kernel_rfl) (fun Kc hK => ?_)
          go_simp
          refine hK.out _ _ ⟨cell_on ((Below.refl _ _).alloc (Nat.le_refl _) _) hHeld.1, cell_on ((Below.refl _ _).alloc (Nat.le_refl _) _) hHeld.2.1, cell_on ((Below.refl _ _).alloc (Nat.le_refl _) _) hHeld.2.2.1, also hHeld.2.2.2 ((Below.refl _ _).alloc (Nat.le_refl _) _)⟩ (fun hHeld => ?_)
          clear hK Kc
          have y_p := bx_new X13 (.bool false) (.slice none 0 0) 25
          have e14 : Below X13.heap.size X13 (X13.alloc (.cells #[.bool false, .slice none 0 0] 25)) := (Below.refl _ _).alloc (Nat.le_refl _) _
          have lp : X13.heap.size < (X13.alloc (.cells #[.bool false, .slice none 0 0] 25)).heap.size := by simp
          have gp : V1.heap.size ≤ X13.heap.size := BU.size
          have n_q1_0_p : NA X13.heap.size a1 m1 := q1.wi.ni.sl.na (Nat.le_refl _)
          have n_q1_1_p : NA X13.heap.size d1 k1 := q1.ni.sl.na (Nat.le_refl _)
          have n_x2_0_p : NA X13.heap.size d2 l2 := x2.rn.hd.sl.na (Nat.le_refl _)
          have n_x2_1_p : NA X13.heap.size g2 h2 := x2.rd.hd.sl.na (Nat.le_refl _)
          have n_h3_0_p : NA X13.heap.size a3 l3 := h3.nd.sl.na (Nat.le_refl _)
          have n_h4_0_p : NA X13.heap.size a4 l4 := h4.nd.sl.na (Nat.le_refl _)
          have pq : X13.heap.size ≠ q := Nat.ne_of_gt lq
          generalize X13.alloc (.cells #[.bool false, .slice none 0 0] 25) = X14 at y_p e14 lp hHeld ⊢
          replace q1 := q1.below e14
          replace x2 := x2.below e14
          replace h3 := h3.below e14
          replace h4 := h4.below e14
          replace x_a := x_a.on e14
          replace x_x := x_x.on e14
          replace BB := also BB e14
          replace BU := also BU e14
          replace y_q := y_q.on e14
          replace lq := Nat.lt_of_lt_of_le lq e14.size
          generalize X13.heap.size = p at y_p lp gp n_q1_0_p n_q1_1_p n_x2_0_p n_x2_1_p n_h3_0_p n_h4_0_p pq ⊢
          have ⟨c_p_0, c_p_1, c_p_2, c_p_3⟩ : Bx X14 p (.bool false) (.slice none 0 0) := y_p
          refine take_call (i := 6) rfl (by kernel_rfl) (fun Kc hK => ?_)
          go_simp
          refine hK.out _ _ ⟨cell_put2 hHeld.1 (by omega) _ _, cell_put2 hHeld.2.1 (by omega) _ _, cell_put2 hHeld.2.2.1 (by omega) _ _, below_put2 hHeld.2.2.2 (by omega) _ _⟩ (fun hHeld => ?_)
          clear hK Kc
          have ⟨c_q_0, c_q_1, c_q_2, c_q_3⟩ : Bx ((X14.setCell ⟨p, 0, none⟩ (.bool n3)).setCell ⟨p, 1, none⟩ (.slice a3 l3 c3)) q (.bool false) (.slice none 0 0) := ((y_q.put pq).put pq)
          refine take_call (i := 7) rfl (by kernel_rfl) (fun Kc hK => ?_)
          go_simp
          refine hK.out _ _ ⟨cell_put2 hHeld.1 (by omega) _ _, cell_put2 hHeld.2.1 (by omega) _ _, cell_put2 hHeld.2.2.1 (by omega) _ _, below_put2 hHeld.2.2.2 (by omega) _ _⟩ (fun hHeld => ?_)
          clear hK Kc
          refine wpAnyH_done (by kernel_rfl) ?_ _
          rw [HQQ.out]
          exact ⟨rfl, p, q, n3, a3, l3, c3, n4, a4, l4, c4, rfl, ((((q1.put n_q1_0_p n_q1_1_p 0 _).put n_q1_0_p n_q1_1_p 1 _).put n_q1_0_q n_q1_1_q 0 _).put n_q1_0_q n_q1_1_q 1 _), ((((x2.put n_x2_0_p n_x2_1_p 0 _).put n_x2_0_p n_x2_1_p 1 _).put n_x2_0_q n_x2_1_q 0 _).put n_x2_0_q n_x2_1_q 1 _), ((((h3.put n_h3_0_p 0 _).put n_h3_0_p 1 _).put n_h3_0_q 0 _).put n_h3_0_q 1 _), ((((h4.put n_h4_0_p 0 _).put n_h4_0_p 1 _).put n_h4_0_q 0 _).put n_h4_0_q 1 _), ((((x_a.put (by omega)).put (by omega)).put (by omega)).put (by omega)), ((((x_x.put (by omega)).put (by omega)).put (by omega)).put (by omega)), ((y_p.set.put (fun e => pq e.symm)).put (fun e => pq e.symm)), ((y_q.put pq).put pq).set, (below_put2 (below_put2 BB (by omega) _ _) (by omega) _ _), by have := BU.size; simp only [World.size_setCell]; omega, ⟨gp, by simp only [World.size_setCell]; omega⟩, ⟨gq, by simp only [World.size_setCell]; omega⟩⟩
        · skip
          go_simp
          refine hK.out _ _ ⟨cell_on ((Below.refl _ _).alloc (Nat.le_refl _) _) hHeld.1, cell_on ((Below.refl _ _).alloc (Nat.le_refl _) _) hHeld.2.1, cell_on ((Below.refl _ _).alloc (Nat.le_refl _) _) hHeld.2.2.1, also hHeld.2.2.2 ((Below.refl _ _).alloc (Nat.le_refl _) _)⟩ (fun hHeld => ?_)
          clear hK Kc
          have y_p := bx_new X12 (.bool false) (.slice none 0 0) 25
          have e15 : Below X12.heap.size X12 (X12.alloc (.cells #[.bool false, .slice none 0 0] 25)) := (Below.refl _ _).alloc (Nat.le_refl _) _
          have lp : X12.heap.size < (X12.alloc (.cells #[.bool false, .slice none 0 0] 25)).heap.size := by simp
          have gp : V1.heap.size ≤ X12.heap.size := BU.size
          have n_q1_0_p : NA X12.heap.size a1 m1 := q1.wi.ni.sl.na (Nat.le_refl _)
          have n_q1_1_p : NA X12.heap.size d1 k1 := q1.ni.sl.na (Nat.le_refl _)
          have n_x2_0_p : NA X12.heap.size d2 l2 := x2.rn.hd.sl.na (Nat.le_refl _)
          have n_x2_1_p : NA X12.heap.size g2 h2 := x2.rd.hd.sl.na (Nat.le_refl _)
          have n_h3_0_p : NA X12.heap.size a3 l3 := h3.nd.sl.na (Nat.le_refl _)
          have pq : X12.heap.size ≠ q := Nat.ne_of_gt lq
          generalize X12.alloc (.cells #[.bool false, .slice none 0 0] 25) = X15 at y_p e15 lp hHeld ⊢
          replace q1 := q1.below e15
          replace x2 := x2.below e15
          replace h3 := h3.below e15
          replace x_a := x_a.on e15
          replace x_x := x_x.on e15
          replace BB := also BB e15
          replace BU := also BU e15
          replace y_q := y_q.on e15
          replace lq := Nat.lt_of_lt_of_le lq e15.size
          generalize X12.heap.size = p at y_p lp gp n_q1_0_p n_q1_1_p n_x2_0_p n_x2_1_p n_h3_0_p pq ⊢
          refine take_call (i := 3) rfl (by kernel_rfl) (fun Kc hK => ?_)
          go_simp
          (go_at_call 24; refine (qRound n a1 m1 c1 d1 k1 g1 Z y1 6 _ q1 M HM.out).mono ?_; rintro e X16 ⟨n4, a4, l4, c4, rfl, h4, f4, e16⟩)
          refine hK.out _ _ ⟨cell_on e16 hHeld.1, cell_on e16 hHeld.2.1, cell_on e16 hHeld.2.2.1, also hHeld.2.2.2 e16⟩ (fun hHeld => ?_)
          clear hK Kc
          have n_h4_0_q : NA q a4 l4 := f4 q lq
          have n_h4_0_p : NA p a4 l4 := f4 p lp
          replace q1 := q1.below e16
          replace x2 := x2.below e16
          replace h3 := h3.below e16
          replace x_a := x_a.on e16
          replace x_x := x_x.on e16
          replace BB := also BB e16
          replace BU := also BU e16
          replace y_q := y_q.on e16
          replace lq := Nat.lt_of_lt_of_le lq e16.size
          replace y_p := y_p.on e16
          replace lp := Nat.lt_of_lt_of_le lp e16.size
          have ⟨c_p_0, c_p_1, c_p_2, c_p_3⟩ : Bx X16 p (.bool false) (.slice none 0 0) := y_p
          refine take_call (i := 6) rfl (by kernel_rfl) (fun Kc hK => ?_)
          go_simp
          refine hK.out _ _ ⟨cell_put2 hHeld.1 (by omega) _ _, cell_put2 hHeld.2.1 (by omega) _ _, cell_put2 hHeld.2.2.1 (by omega) _ _, below_put2 hHeld.2.2.2 (by omega) _ _⟩ (fun hHeld => ?_)
          clear hK Kc
          have ⟨c_q_0, c_q_1, c_q_2, c_q_3⟩ : Bx ((X16.setCell ⟨p, 0, none⟩ (.bool n3)).setCell ⟨p, 1, none⟩ (.slice a3 l3 c3)) q (.bool false) (.slice none 0 0) := ((y_q.put pq).put pq)
          refine take_call (i := 7) rfl (by kernel_rfl) (fun Kc hK => ?_)
          go_simp
          refine hK.out _ _ ⟨cell_put2 hHeld.1 (by omega) _ _, cell_put2 hHeld.2.1 (by omega) _ _, cell_put2 hHeld.2.2.1 (by omega) _ _, below_put2 hHeld.2.2.2 (by omega) _ _⟩ (fun hHeld => ?_)
          clear hK Kc
          refine wpAnyH_done (by kernel_rfl) ?_ _
          rw [HQQ.out]
          exact ⟨rfl, p, q, n3, a3, l3, c3, n4, a4, l4, c4, rfl, ((((q1.put n_q1_0_p n_q1_1_p 0 _).put n_q1_0_p n_q1_1_p 1 _).put n_q1_0_q n_q1_1_q 0 _).put n_q1_0_q n_q1_1_q 1 _), ((((x2.put n_x2_0_p n_x2_1_p 0 _).put n_x2_0_p n_x2_1_p 1 _).put n_x2_0_q n_x2_1_q 0 _).put n_x2_0_q n_x2_1_q 1 _), ((((h3.put n_h3_0_p 0 _).put n_h3_0_p 1 _).put n_h3_0_q 0 _).put n_h3_0_q 1 _), ((((h4.put n_h4_0_p 0 _).put n_h4_0_p 1 _).put n_h4_0_q 0 _).put n_h4_0_q 1 _), ((((x_a.put (by omega)).put (by omega)).put (by omega)).put (by omega)), ((((x_x.put (by omega)).put (by omega)).put (by omega)).put (by omega)), ((y_p.set.put (fun e => pq e.symm)).put (fun e => pq e.symm)), ((y_q.put pq).put pq).set, (below_put2 (below_put2 BB (by omega) _ _) (by omega) _ _), by have := BU.size; simp only [World.size_setCell]; omega, ⟨gp, by simp only [World.size_setCell]; omega⟩, ⟨gq, by simp only [World.size_setCell]; omega⟩⟩
    · skip
      go_simp
      refine hK.out _ _ ⟨cell_on ((Below.refl _ _).alloc (Nat.le_refl _) _) hHeld.1, cell_on ((Below.refl _ _).alloc (Nat.le_refl _) _) hHeld.2.1, cell_on ((Below.refl _ _).alloc (Nat.le_refl _) _) hHeld.2.2.1, also hHeld.2.2.2 ((Below.refl _ _).alloc (Nat.le_refl _) _)⟩ (fun hHeld => ?_)
      clear hK Kc
      have y_p := bx_new X0 (.bool false) (.slice none 0 0) 25
      have e17 : Below X0.heap.size X0 (X0.alloc (.cells #[.bool false, .slice none 0 0] 25)) := (Below.refl _ _).alloc (Nat.le_refl _) _
      have lp : X0.heap.size < (X0.alloc (.cells #[.bool false, .slice none 0 0] 25)).heap.size := by simp
      have gp : V1.heap.size ≤ X0.heap.size := BU.size
      have n_q1_0_p : NA X0.heap.size a1 m1 := q1.wi.ni.sl.na (Nat.le_refl _)
      have n_q1_1_p : NA X0.heap.size d1 k1 := q1.ni.sl.na (Nat.le_refl _)
      have n_x2_0_p : NA X0.heap.size d2 l2 := x2.rn.hd.sl.na (Nat.le_refl _)
      have n_x2_1_p : NA X0.heap.size g2 h2 := x2.rd.hd.sl.na (Nat.le_refl _)
      generalize X0.alloc (.cells #[.bool false, .slice none 0 0] 25) = X17 at y_p e17 lp hHeld ⊢
      replace q1 := q1.below e17
      replace x2 := x2.below e17
      replace x_a := x_a.on e17
      replace x_x := x_x.on e17
      replace BB := also BB e17
      replace BU := also BU e17
      generalize X0.heap.size = p at y_p lp gp n_q1_0_p n_q1_1_p n_x2_0_p n_x2_1_p ⊢
      refine wpAnyH_ready (rs := [1, 5]) (by kernel_rfl) (by simp) (AllReadyH.cons (i := 1) rfl (fun Kc hK => ?_) (AllReadyH.cons (i := 5) rfl (fun Kc hK => ?_) AllReadyH.nil))
      · skip
        go_simp
        (go_at_call 23; refine (qFloor n a1 m1 c1 d1 k1 g1 Z y1 6 _ q1 F HF.out).mono ?_; rintro e X18 ⟨n3, a3, l3, c3, rfl, h3, f3, e18⟩)
        refine hK.out _ _ ⟨cell_on e18 hHeld.1, cell_on e18 hHeld.2.1, cell_on e18 hHeld.2.2.1, also hHeld.2.2.2 e18⟩ (fun hHeld => ?_)
        clear hK Kc
        have n_h3_0_p : NA p a3 l3 := f3 p lp
        replace q1 := q1.below e18
        replace x2 := x2.below e18
        replace x_a := x_a.on e18
        replace x_x := x_x.on e18
        replace BB := also BB e18
        replace BU := also BU e18
        replace y_p := y_p.on e18
        replace lp := Nat.lt_of_lt_of_le lp e18.size
        refine wpAnyH_ready (rs := [3, 5]) (by kernel_rfl) (by simp) (AllReadyH.cons (i := 3) rfl (fun Kc hK => ?_) (AllReadyH.cons (i := 5) rfl (fun Kc hK => ?_) AllReadyH.nil))
        · skip
          go_simp
          (go_at_call 24; refine (qRound n a1 m1 c1 d1 k1 g1 Z y1 6 _ q1 M HM.out).mono ?_; rintro e X19 ⟨n4, a4, l4, c4, rfl, h4, f4, e19⟩)
          refine hK.out _ _ ⟨cell_on e19 hHeld.1, cell_on e19 hHeld.2.1, cell_on e19 hHeld.2.2.1, also hHeld.2.2.2 e19⟩ (fun hHeld => ?_)
          clear hK Kc
          have n_h4_0_p : NA p a4 l4 := f4 p lp
          replace q1 := q1.below e19
          replace x2 := x2.below e19
          replace h3 := h3.below e19
          replace x_a := x_a.on e19
          replace x_x := x_x.on e19
          replace BB := also BB e19
          replace BU := also BU e19
          replace y_p := y_p.on e19
          replace lp := Nat.lt_of_lt_of_le lp e19.size
          refine take_call (i := 5) rfl (by kernel_rfl) (fun Kc hK => ?_)
          go_simp
          refine hK.out _ _ ⟨cell_on ((Below.refl _ _).alloc (Nat.le_refl _) _) hHeld.1, cell_on ((Below.refl _ _).alloc (Nat.le_refl _) _) hHeld.2.1, cell_on ((Below.refl _ _).alloc (Nat.le_refl _) _) hHeld.2.2.1, also hHeld.2.2.2 ((Below.refl _ _).alloc (Nat.le_refl _) _)⟩ (fun hHeld => ?_)
          clear hK Kc
          have y_q := bx_new X19 (.bool false) (.slice none 0 0) 25
          have e20 : Below X19.heap.size X19 (X19.alloc (.cells #[.bool false, .slice none 0 0] 25)) := (Below.refl _ _).alloc (Nat.le_refl _) _
          have lq : X19.heap.size < (X19.alloc (.cells #[.bool false, .slice none 0 0] 25)).heap.size := by simp
          have gq : V1.heap.size ≤ X19.heap.size := BU.size
          have n_q1_0_q : NA X19.heap.size a1 m1 := q1.wi.ni.sl.na (Nat.le_refl _)
          have n_q1_1_q : NA X19.heap.size d1 k1 := q1.ni.sl.na (Nat.le_refl _)
          have n_x2_0_q : NA X19.heap.size d2 l2 := x2.rn.hd.sl.na (Nat.le_refl _)
          have n_x2_1_q : NA X19.heap.size g2 h2 := x2.rd.hd.sl.na (Nat.le_refl _)
          have n_h3_0_q : NA X19.heap.size a3 l3 := h3.nd.sl.na (Nat.le_refl _)
          have n_h4_0_q : NA X19.heap.size a4 l4 := h4.nd.sl.na (Nat.le_refl _)
          have pq : p ≠ X19.heap.size := Nat.ne_of_lt lp
          generalize X19.alloc (.cells #[.bool false, .slice none 0 0] 25) = X20 at y_q e20 lq hHeld ⊢
          replace q1 := q1.below e20
          replace x2 := x2.below e20
          replace h3 := h3.below e20
          replace h4 := h4.below e20
          replace x_a := x_a.on e20
          replace x_x := x_x.on e20
          replace BB := also BB e20
          replace BU := also BU e20
          replace y_p := y_p.on e20
          replace lp := Nat.lt_of_lt_of_le lp e20.size
          generalize X19.heap.size = q at y_q lq gq n_q1_0_q n_q1_1_q n_x2_0_q n_x2_1_q n_h3_0_q n_h4_0_q pq ⊢
          have ⟨c_p_0, c_p_1, c_p_2, c_p_3⟩ : Bx X20 p (.bool false) (.slice none 0 0) := y_p
          refine take_call (i := 6) rfl (by kernel_rfl) (fun Kc hK => ?_)
          go_simp
          refine hK.out _ _ ⟨cell_put2 hHeld.1 (by omega) _ _, cell_put2 hHeld.2.1 (by omega) _ _, cell_put2 hHeld.2.2.1 (by omega) _ _, below_put2 hHeld.2.2.2 (by omega) _ _⟩ (fun hHeld => ?_)
          clear hK Kc
          have ⟨c_q_0, c_q_1, c_q_2, c_q_3⟩ : Bx ((X20.setCell ⟨p, 0, none⟩ (.bool n3)).setCell ⟨p, 1, none⟩ (.slice a3 l3 c3)) q (.bool false) (.slice none 0 0) := ((y_q.put pq).put pq)
          refine take_call (i := 7) rfl (by kernel_rfl) (fun Kc hK => ?_)
          go_simp
          refine hK.out _ _ ⟨cell_put2 hHeld.1 (by omega) _ _, cell_put2 hHeld.2.1 (by omega) _ _, cell_put2 hHeld.2.2.1 (by omega) _ _, below_put2 hHeld.2.2.2 (by omega) _ _⟩ (fun hHeld => ?_)
          clear hK Kc
          refine wpAnyH_done (by kernel_rfl) ?_ _
          rw [HQQ.out]
          exact ⟨rfl, p, q, n3, a3, l3, c3, n4, a4, l4, c4, rfl, ((((q1.put n_q1_0_p n_q1_1_p 0 _).put n_q1_0_p n_q1_1_p 1 _).put n_q1_0_q n_q1_1_q 0 _).put n_q1_0_q n_q1_1_q 1 _), ((((x2.put n_x2_0_p n_x2_1_p 0 _).put n_x2_0_p n_x2_1_p 1 _).put n_x2_0_q n_x2_1_q 0 _).put n_x2_0_q n_x2_1_q 1 _), ((((h3.put n_h3_0_p 0 _).put n_h3_0_p 1 _).put n_h3_0_q 0 _).put n_h3_0_q 1 _), ((((h4.put n_h4_0_p 0 _).put n_h4_0_p 1 _).put n_h4_0_q 0 _).put n_h4_0_q 1 _), ((((x_a.put (by omega)).put (by omega)).put (by omega)).put (by omega)), ((((x_x.put (by omega)).put (by omega)).put (by omega)).put (by omega)), ((y_p.set.put (fun e => pq e.symm)).put (fun e => pq e.symm)), ((y_q.put pq).put pq).set, (below_put2 (below_put2 BB (by omega) _ _) (by omega) _ _), by have := BU.size; simp only [World.size_setCell]; omega, ⟨gp, by simp only [World.size_setCell]; omega⟩, ⟨gq, by simp only [World.size_setCell]; omega⟩⟩
        · skip
          go_simp
          refine hK.out _ _ ⟨cell_on ((Below.refl _ _).alloc (Nat.le_refl _) _) hHeld.1, cell_on ((Below.refl _ _).alloc (Nat.le_refl _) _) hHeld.2.1, cell_on ((Below.refl _ _).alloc (Nat.le_refl _) _) hHeld.2.2.1, also hHeld.2.2.2 ((Below.refl _ _).alloc (Nat.le_refl _) _)⟩ (fun hHeld => ?_)
          clear hK Kc
          have y_q := bx_new X18 (.bool false) (.slice none 0 0) 25
          have e21 : Below X18.heap.size X18 (X18.alloc (.cells #[.bool false, .slice none 0 0] 25)) := (Below.refl _ _).alloc (Nat.le_refl _) _
          have lq : X18.heap.size < (X18.alloc (.cells #[.bool false, .slice none 0 0] 25)).heap.size := by simp
          have gq : V1.heap.size ≤ X18.heap.size := BU.size
          have n_q1_0_q : NA X18.heap.size a1 m1 := q1.wi.ni.sl.na (Nat.le_refl _)
          have n_q1_1_q : NA X18.heap.size d1 k1 := q1.ni.sl.na (Nat.le_refl _)
          have n_x2_0_q : NA X18.heap.size d2 l2 := x2.rn.hd.sl.na (Nat.le_refl _)
          have n_x2_1_q : NA X18.heap.size g2 h2 := x2.rd.hd.sl.na (Nat.le_refl _)
          have n_h3_0_q : NA X18.heap.size a3 l3 := h3.nd.sl.na (Nat.le_refl _)
          have pq : p ≠ X18.heap.size := Nat.ne_of_lt lp
          generalize X18.alloc (.cells #[.bool false, .slice none 0 0] 25) = X21 at y_q e21 lq hHeld ⊢
          replace q1 := q1.below e21
          replace x2 := x2.below e21
          replace h3 := h3.below e21
          replace x_a := x_a.on e21
          replace x_x := x_x.on e21
          replace BB := also BB e21
          replace BU := also BU e21
          replace y_p := y_p.on e21
          replace lp := Nat.lt_of_lt_of_le lp e21.size
          generalize X18.heap.size = q at y_q lq gq n_q1_0_q n_q1_1_q n_x2_0_q n_x2_1_q n_h3_0_q pq ⊢
          refine take_call (i := 3) rfl (by kernel_rfl) (fun Kc hK => ?_)
          go_simp
          (go_at_call 24; refine (qRound n a1 m1 c1 d1 k1 g1 Z y1 6 _ q1 M HM.out).mono ?_; rintro e X22 ⟨n4, a4, l4, c4, rfl, h4, f4, e22⟩)
          refine hK.out _ _ ⟨cell_on e22 hHeld.1, cell_on e22 hHeld.2.1, cell_on e22 hHeld.2.2.1, also hHeld.2.2.2 e22⟩ (fun hHeld => ?_)
          clear hK Kc
          have n_h4_0_p : NA p a4 l4 := f4 p lp
          have n_h4_0_q : NA q a4 l4 := f4 q lq
          replace q1 := q1.below e22
          replace x2 := x2.below e22
          replace h3 := h3.below e22
          replace x_a := x_a.on e22
          replace x_x := x_x.on e22
          replace BB := also BB e22
          replace BU := also BU e22
          replace y_p := y_p.on e22
          replace lp := Nat.lt_of_lt_of_le lp e22.size
          replace y_q := y_q.on e22
          replace lq := Nat.lt_of_lt_of_le lq e22.size
          have ⟨c_p_0, c_p_1, c_p_2, c_p_3⟩ : Bx X22 p (.bool false) (.slice none 0 0) := y_p
          refine take_call (i := 6) rfl (by kernel_rfl) (fun Kc hK => ?_)
          go_simp
          refine hK.out _ _ ⟨cell_put2 hHeld.1 (by omega) _ _, cell_put2 hHeld.2.1 (by omega) _ _, cell_put2 hHeld.2.2.1 (by omega) _ _, below_put2 hHeld.2.2.2 (by omega) _ _⟩ (fun hHeld => ?_)
          clear hK Kc
          have ⟨c_q_0, c_q_1, c_q_2, c_q_3⟩ : Bx ((X22.setCell ⟨p, 0, none⟩ (.bool n3)).setCell ⟨p, 1, none⟩ (.slice a3 l3 c3)) q (.bool false) (.slice none 0 0) := ((y_q.put pq).put pq)
          refine take_call (i := 7) rfl (by kernel_rfl) (fun Kc hK => ?_)
          go_simp
          refine hK.out _ _ ⟨cell_put2 hHeld.1 (by omega) _ _, cell_put2 hHeld.2.1 (by omega) _ _, cell_put2 hHeld.2.2.1 (by omega) _ _, below_put2 hHeld.2.2.2 (by omega) _ _⟩ (fun hHeld => ?_)
          clear hK Kc
          refine wpAnyH_done (by kernel_rfl) ?_ _
          rw [HQQ.out]
          exact ⟨rfl, p, q, n3, a3, l3, c3, n4, a4, l4, c4, rfl, ((((q1.put n_q1_0_p n_q1_1_p 0 _).put n_q1_0_p n_q1_1_p 1 _).put n_q1_0_q n_q1_1_q 0 _).put n_q1_0_q n_q1_1_q 1 _), ((((x2.put n_x2_0_p n_x2_1_p 0 _).put n_x2_0_p n_x2_1_p 1 _).put n_x2_0_q n_x2_1_q 0 _).put n_x2_0_q n_x2_1_q 1 _), ((((h3.put n_h3_0_p 0 _).put n_h3_0_p 1 _).put n_h3_0_q 0 _).put n_h3_0_q 1 _), ((((h4.put n_h4_0_p 0 _).put n_h4_0_p 1 _).put n_h4_0_q 0 _).put n_h4_0_q 1 _), ((((x_a.put (by omega)).put (by omega)).put (by omega)).put (by omega)), ((((x_x.put (by omega)).put (by omega)).put (by omega)).put (by omega)), ((y_p.set.put (fun e => pq e.symm)).put (fun e => pq e.symm)), ((y_q.put pq).put pq).set, (below_put2 (below_put2 BB (by omega) _ _) (by omega) _ _), by have := BU.size; simp only [World.size_setCell]; omega, ⟨gp, by simp only [World.size_setCell]; omega⟩, ⟨gq, by simp only [World.size_setCell]; omega⟩⟩
      · skip
        go_simp
        refine hK.out _ _ ⟨cell_on ((Below.refl _ _).alloc (Nat.le_refl _) _) hHeld.1, cell_on ((Below.refl _ _).alloc (Nat.le_refl _) _) hHeld.2.1, cell_on ((Below.refl _ _).alloc (Nat.le_refl _) _) hHeld.2.2.1, also hHeld.2.2.2 ((Below.refl _ _).alloc (Nat.le_refl _) _)⟩ (fun hHeld => ?_)
        clear hK Kc
        have y_q := bx_new X17 (.bool false) (.slice none 0 0) 25
        have e23 : Below X17.heap.size X17 (X17.alloc (.cells #[.bool false, .slice none 0 0] 25)) := (Below.refl _ _).alloc (Nat.le_refl _) _
        have lq : X17.heap.size < (X17.alloc (.cells #[.bool false, .slice none 0 0] 25)).heap.size := by simp
        have gq : V1.heap.size ≤ X17.heap.size := BU.size
        have n_q1_0_q : NA X17.heap.size a1 m1 := q1.wi.ni.sl.na (Nat.le_refl _)
        have n_q1_1_q : NA X17.heap.size d1 k1 := q1.ni.sl.na (Nat.le_refl _)
        have n_x2_0_q : NA X17.heap.size d2 l2 := x2.rn.hd.sl.na (Nat.le_refl _)
        have n_x2_1_q : NA X17.heap.size g2 h2 := x2.rd.hd.sl.na (Nat.le_refl _)
        have pq : p ≠ X17.heap.size := Nat.ne_of_lt lp
        generalize X17.alloc (.cells #[.bool false, .slice none 0 0] 25) = X23 at y_q e23 lq hHeld ⊢
        replace q1 := q1.below e23
        replace x2 := x2.below e23
        replace x_a := x_a.on e23
        replace x_x := x_x.on e23
        replace BB := also BB e23
        replace BU := also BU e23
        replace y_p := y_p.on e23
        replace lp := Nat.lt_of_lt_of_le lp e23.size
        generalize X17.heap.size = q at y_q lq gq n_q1_0_q n_q1_1_q n_x2_0_q n_x2_1_q pq ⊢
        refine take_call (i := 1) rfl (by kernel_rfl) (fun Kc hK => ?_)
        go_simp
        (go_at_call 23; refine (qFloor n a1 m1 c1 d1 k1 g1 Z y1 6 _ q1 F HF.out).mono ?_; rintro e X24 ⟨n3, a3, l3, c3, rfl, h3, f3, e24⟩)
        refine hK.out _ _ ⟨cell_on e24 hHeld.1, cell_on e24 hHeld.2.1, cell_on e24 hHeld.2.2.1, also hHeld.2.2.2 e24⟩ (fun hHeld => ?_)
        clear hK Kc
        have n_h3_0_p : NA p a3 l3 := f3 p lp
        have n_h3_0_q : NA q a3 l3 := f3 q lq
        replace q1 := q1.below e24
        replace x2 := x2.below e24
        replace x_a := x_a.on e24
        replace x_x := x_x.on e24
        replace BB := also BB e24
        replace BU := also BU e24
        replace y_p := y_p.on e24
        replace lp := Nat.lt_of_lt_of_le lp e24.size
        replace y_q := y_q.on e24
        replace lq := Nat.lt_of_lt_of_le lq e24.size
        refine take_call (i := 3) rfl (by kernel_rfl) (fun Kc hK => ?_)
        go_simp
        (go_at_call 24; refine (qRound n a1 m1 c1 d1 k1 g1 Z y1 6 _ q1 M HM.out).mono ?_; rintro e X25 ⟨n4, a4, l4, c4, rfl, h4, f4, e25⟩)
        refine hK.out _ _ ⟨cell_on e25 hHeld.1, cell_on e25 hHeld.2.1, cell_on e25 hHeld.2.2.1, also hHeld.2.2.2 e25⟩ (fun hHeld => ?_)
        clear hK Kc
        have n_h4_0_p : NA p a4 l4 := f4 p lp
        have n_h4_0_q : NA q a4 l4 := f4 q lq
        replace q1 := q1.below e25
        replace x2 := x2.below e25
        replace h3 := h3.below e25
        replace x_a := x_a.on e25
        replace x_x := x_x.on e25
        replace BB := also BB e25
        replace BU := also BU e25
        replace y_p := y_p.on e25
        replace lp := Nat.lt_of_lt_of_le lp e25.size
        replace y_q := y_q.on e25
        replace lq := Nat.lt_of_lt_of_le lq e25.size
        have ⟨c_p_0, c_p_1, c_p_2, c_p_3⟩ : Bx X25 p (.bool false) (.slice none 0 0) := y_p
        refine take_call (i := 6) rfl (by kernel_rfl) (fun Kc hK => ?_)
        go_simp
        refine hK.out _ _ ⟨cell_put2 hHeld.1 (by omega) _ _, cell_put2 hHeld.2.1 (by omega) _ _, cell_put2 hHeld.2.2.1 (by omega) _ _, below_put2 hHeld.2.2.2 (by omega) _ _⟩ (fun hHeld => ?_)
        clear hK Kc
        have ⟨c_q_0, c_q_1, c_q_2, c_q_3⟩ : Bx ((X25.setCell ⟨p, 0, none⟩ (.bool n3)).setCell ⟨p, 1, none⟩ (.slice a3 l3 c3)) q (.bool false) (.slice none 0 0) := ((y_q.put pq).put pq)
        refine take_call (i := 7) rfl (by kernel_rfl) (fun Kc hK => ?_)
        go_simp
        refine hK.out _ _ ⟨cell_put2 hHeld.1 (by omega) _ _, cell_put2 hHeld.2.1 (by omega) _ _, cell_put2 hHeld.2.2.1 (by omega) _ _, below_put2 hHeld.2.2.2 (by omega) _ _⟩ (fun hHeld => ?_)
        clear hK Kc
        refine wpAnyH_done (by kernel_rfl) ?_ _
        rw [HQQ.out]
        exact ⟨rfl, p, q, n3, a3, l3, c3, n4, a4, l4, c4, rfl, ((((q1.put n_q1_0_p n_q1_1_p 0 _).put n_q1_0_p n_q1_1_p 1 _).put n_q1_0_q n_q1_1_q 0 _).put n_q1_0_q n_q1_1_q 1 _), ((((x2.put n_x2_0_p n_x2_1_p 0 _).put n_x2_0_p n_x2_1_p 1 _).put n_x2_0_q n_x2_1_q 0 _).put n_x2_0_q n_x2_1_q 1 _), ((((h3.put n_h3_0_p 0 _).put n_h3_0_p 1 _).put n_h3_0_q 0 _).put n_h3_0_q 1 _), ((((h4.put n_h4_0_p 0 _).put n_h4_0_p 1 _).put n_h4_0_q 0 _).put n_h4_0_q 1 _), ((((x_a.put (by omega)).put (by omega)).put (by omega)).put (by omega)), ((((x_x.put (by omega)).put (by omega)).put (by omega)).put (by omega)), ((y_p.set.put (fun e => pq e.symm)).put (fun e => pq e.symm)), ((y_q.put pq).put pq).set, (below_put2 (below_put2 BB (by omega) _ _) (by omega) _ _), by have := BU.size; simp only [World.size_setCell]; omega, ⟨gp, by simp only [World.size_setCell]; omega⟩, ⟨gq, by simp only [World.size_setCell]; omega⟩⟩
    · skip
      go_simp
      refine hK.out _ _ ⟨cell_on ((Below.refl _ _).alloc (Nat.le_refl _) _) hHeld.1, cell_on ((Below.refl _ _).alloc (Nat.le_refl _) _) hHeld.2.1, cell_on ((Below.refl _ _).alloc (Nat.le_refl _) _) hHeld.2.2.1, also hHeld.2.2.2 ((Below.refl _ _).alloc (Nat.le_refl _) _)⟩ (fun hHeld => ?_)
      clear hK Kc
      have y_q := bx_new X0 (.bool false) (.slice none 0 0) 25
      have e26 : Below X0.heap.size X0 (X0.alloc (.cells #[.bool false, .slice none 0 0] 25)) := (Below.refl _ _).alloc (Nat.le_refl _) _
      have lq : X0.heap.size < (X0.alloc (.cells #[.bool false, .slice none 0 0] 25)).heap.size := by simp
      have gq : V1.heap.size ≤ X0.heap.size := BU.size
      have n_q1_0_q : NA X0.heap.size a1 m1 := q1.wi.ni.sl.na (Nat.le_refl _)
      have n_q1_1_q : NA X0.heap.size d1 k1 := q1.ni.sl.na (Nat.le_refl _)
      have n_x2_0_q : NA X0.heap.size d2 l2 := x2.rn.hd.sl.na (Nat.le_refl _)
      have n_x2_1_q : NA X0.heap.size g2 h2 := x2.rd.hd.sl.na (Nat.le_refl _)
      generalize X0.alloc (.cells #[.bool false, .slice none 0 0] 25) = X26 at y_q e26 lq hHeld ⊢
      replace q1 := q1.below e26
      replace x2 := x2.below e26
      replace x_a := x_a.on e26
      replace x_x := x_x.on e26
      replace BB := also BB e26
      replace BU := also BU e26
      generalize X0.heap.size = q at y_q lq gq n_q1_0_q n_q1_1_q n_x2_0_q n_x2_1_q ⊢
      refine wpAnyH_ready (rs := [1, 4]) (by kernel_rfl) (by simp) (AllReadyH.cons (i := 1) rfl (fun Kc hK => ?_) (AllReadyH.cons (i := 4) rfl (fun Kc hK => ?_) AllReadyH.nil))
      · skip
        go_simp
        (go_at_call 23; refine (qFloor n a1 m1 c1 d1 k1 g1 Z y1 6 _ q1 F HF.out).mono ?_; rintro e X27 ⟨n3, a3, l3, c3, rfl, h3, f3, e27⟩)
        refine hK.out _ _ ⟨cell_on e27 hHeld.1, cell_on e27 hHeld.2.1, cell_on e27 hHeld.2.2.1, also hHeld.2.2.2 e27⟩ (fun hHeld => ?_)
        clear hK Kc
        have n_h3_0_q : NA q a3 l3 := f3 q lq
        replace q1 := q1.below e27
        replace x2 := x2.below e27
        replace x_a := x_a.on e27
        replace x_x := x_x.on e27
        replace BB := also BB e27
        replace BU := also BU e27
        replace y_q := y_q.on e27
        replace lq := Nat.lt_of_lt_of_le lq e27.size
        refine wpAnyH_ready (rs := [3, 4]) (by kernel_rfl) (by simp) (AllReadyH.cons (i := 3) rfl (fun Kc hK => ?_) (AllReadyH.cons (i := 4) rfl (fun Kc hK => ?_) AllReadyH.nil))
        · skip
          go_simp
          (go_at_call 24; refine (qRound n a1 m1 c1 d1 k1 g1 Z y1 6 _ q1 M HM.out).mono ?_; rintro e X28 ⟨n4, a4, l4, c4, rfl, h4, f4, e28⟩)
          refine hK.out _ _ ⟨cell_on e28 hHeld.1, cell_on e28 hHeld.2.1, cell_on e28 hHeld.2.2.1, also hHeld.2.2.2 e28⟩ (fun hHeld => ?_)
          clear hK Kc
          have n_h4_0_q : NA q a4 l4 := f4 q lq
          replace q1 := q1.below e28
          replace x2 := x2.below e28
          replace h3 := h3.below e28
          replace x_a := x_a.on e28
          replace x_x := x_x.on e28
          replace BB := also BB e28
          replace BU := also BU e28
          replace y_q := y_q.on e28
          replace lq := Nat.lt_of_lt_of_le lq e28.size
          refine take_call (i := 4) rfl (by kernel_rfl) (fun Kc hK => ?_)
          go_simp
          refine hK.out _ _ ⟨cell_on ((Below.refl _ _).alloc (Nat.le_refl _) _) hHeld.1, cell_on ((Below.refl _ _).alloc (Nat.le_refl _) _) hHeld.2.1, cell_on ((Below.refl _ _).alloc (Nat.le_refl _) _) hHeld.2.2.1, also hHeld.2.2.2 ((Below.refl _ _).alloc (Nat.le_refl _) _)⟩ (fun hHeld => ?_)
          clear hK Kc
          have y_p := bx_new X28 (.bool false) (.slice none 0 0) 25
          have e29 : Below X28.heap.size X28 (X28.alloc (.cells #[.bool false, .slice none 0 0] 25)) := (Below.refl _ _).alloc (Nat.le_refl _) _
          have lp : X28.heap.size < (X28.alloc (.cells #[.bool false, .slice none 0 0] 25)).heap.size := by simp
          have gp : V1.heap.size ≤ X28.heap.size := BU.size
          have n_q1_0_p : NA X28.heap.size a1 m1 := q1.wi.ni.sl.na (Nat.le_refl _)
          have n_q1_1_p : NA X28.heap.size d1 k1 := q1.ni.sl.na (Nat.le_refl _)
          have n_x2_0_p : NA X28.heap.size d2 l2 := x2.rn.hd.sl.na (Nat.le_refl _)
          have n_x2_1_p : NA X28.heap.size g2 h2 := x2.rd.hd.sl.na (Nat.le_refl _)
          have n_h3_0_p : NA X28.heap.size a3 l3 := h3.nd.sl.na (Nat.le_refl _)
          have n_h4_0_p : NA X28.heap.size a4 l4 := h4.nd.sl.na (Nat.le_refl _)
          have pq : X28.heap.size ≠ q := Nat.ne_of_gt lq
          generalize X28.alloc (.cells #[.bool false, .slice none 0 0] 25) = X29 at y_p e29 lp hHeld ⊢
          replace q1 := q1.below e29
          replace x2 := x2.below e29
          replace h3 := h3.below e29
          replace h4 := h4.below e29
          replace x_a := x_a.on e29
          replace x_x := x_x.on e29
          replace BB := also BB e29
          replace BU := also BU e29
          replace y_q := y_q.on e29
          replace lq := Nat.lt_of_lt_of_le lq e29.size
          generalize X28.heap.size = p at y_p lp gp n_q1_0_p n_q1_1_p n_x2_0_p n_x2_1_p n_h3_0_p n_h4_0_p pq ⊢
          have ⟨c_p_0, c_p_1, c_p_2, c_p_3⟩ : Bx X29 p (.bool false) (.slice none 0 0) := y_p
          refine take_call (i := 6) rfl (by kernel_rfl) (fun Kc hK => ?_)
          go_simp
          refine hK.out _ _ ⟨cell_put2 hHeld.1 (by omega) _ _, cell_put2 hHeld.2.1 (by omega) _ _, cell_put2 hHeld.2.2.1 (by omega) _ _, below_put2 hHeld.2.2.2 (by omega) _ _⟩ (fun hHeld => ?_)
          clear hK Kc
          have ⟨c_q_0, c_q_1, c_q_2, c_q_3⟩ : Bx ((X29.setCell ⟨p, 0, none⟩ (.bool n3)).setCell ⟨p, 1, none⟩ (.slice a3 l3 c3)) q (.bool false) (.slice none 0 0) := ((y_q.put pq).put pq)
          refine take_call (i := 7) rfl (by kernel_rfl) (fun Kc hK => ?_)
          go_simp
          refine hK.out _ _ ⟨cell_put2 hHeld.1 (by omega) _ _, cell_put2 hHeld.2.1 (by omega) _ _, cell_put2 hHeld.2.2.1 (by omega) _ _, below_put2 hHeld.2.2.2 (by omega) _ _⟩ (fun hHeld => ?_)
          clear hK Kc
          refine wpAnyH_done (by kernel_rfl) ?_ _
          rw [HQQ.out]
          exact ⟨rfl, p, q, n3, a3, l3, c3, n4, a4, l4, c4, rfl, ((((q1.put n_q1_0_p n_q1_1_p 0 _).put n_q1_0_p n_q1_1_p 1 _).put n_q1_0_q n_q1_1_q 0 _).put n_q1_0_q n_q1_1_q 1 _), ((((x2.put n_x2_0_p n_x2_1_p 0 _).put n_x2_0_p n_x2_1_p 1 _).put n_x2_0_q n_x2_1_q 0 _).put n_x2_0_q n_x2_1_q 1 _), ((((h3.put n_h3_0_p 0 _).put n_h3_0_p 1 _).put n_h3_0_q 0 _).put n_h3_0_q 1 _), ((((h4.put n_h4_0_p 0 _).put n_h4_0_p 1 _).put n_h4_0_q 0 _).put n_h4_0_q 1 _), ((((x_a.put (by omega)).put (by omega)).put (by omega)).put (by omega)), ((((x_x.put (by omega)).put (by omega)).put (by omega)).put (by omega)), ((y_p.set.put (fun e => pq e.symm)).put (fun e => pq e.symm)), ((y_q.put pq).put pq).set, (below_put2 (below_put2 BB (by omega) _ _) (by omega) _ _), by have := BU.size; simp only [World.size_setCell]; omega, ⟨gp, by simp only [World.size_setCell]; omega⟩, ⟨gq, by simp only [World.size_setCell]; omega⟩⟩
        · skip
          go_simp
          refine hK.out _ _ ⟨cell_on ((Below.refl _ _).alloc (Nat.le_refl _) _) hHeld.1, cell_on ((Below.refl _ _).alloc (Nat.le_refl _) _) hHeld.2.1, cell_on ((Below.refl _ _).alloc (Nat.le_refl _) _) hHeld.2.2.1, also hHeld.2.2.2 ((Below.refl _ _).alloc (Nat.le_refl _) _)⟩ (fun hHeld => ?_)
          clear hK Kc
          have y_p := bx_new X27 (.bool false) (.slice none 0 0) 25
          have e30 : Below X27.heap.size X27 (X27.alloc (.cells #[.bool false, .slice none 0 0] 25)) := (Below.refl _ _).alloc (Nat.le_refl _) _
          have lp : X27.heap.size < (X27.alloc (.cells #[.bool false, .slice none 0 0] 25)).heap.size := by simp
          have gp : V1.heap.size ≤ X27.heap.size := BU.size
          have n_q1_0_p : NA X27.heap.size a1 m1 := q1.wi.ni.sl.na (Nat.le_refl _)
          have n_q1_1_p : NA X27.heap.size d1 k1 := q1.ni.sl.na (Nat.le_refl _)
          have n_x2_0_p : NA X27.heap.size d2 l2 := x2.rn.hd.sl.na (Nat.le_refl _)
          have n_x2_1_p : NA X27.heap.size g2 h2 := x2.rd.hd.sl.na (Nat.le_refl _)
          have n_h3_0_p : NA X27.heap.size a3 l3 := h3.nd.sl.na (Nat.le_refl _)
          have pq : X27.heap.size ≠ q := Nat.ne_of_gt lq
          generalize X27.alloc (.cells #[.bool false, .slice none 0 0] 25) = X30 at y_p e30 lp hHeld ⊢
          replace q1 := q1.below e30
          replace x2 := x2.below e30
          replace h3 := h3.below e30
          replace x_a := x_a.on e30
          replace x_x := x_x.on e30
          replace BB := also BB e30
          replace BU := also BU e30
          replace y_q := y_q.on e30
          replace lq := Nat.lt_of_lt_of_le lq e30.size
          generalize X27.heap.size = p at y_p lp gp n_q1_0_p n_q1_1_p n_x2_0_p n_x2_1_p n_h3_0_p pq ⊢
          refine take_call (i := 3) rfl (by kernel_rfl) (fun Kc hK => ?_)
          go_simp
          (go_at_call 24; refine (qRound n a1 m1 c1 d1 k1 g1 Z y1 6 _ q1 M HM.out).mono ?_; rintro e X31 ⟨n4, a4, l4, c4, rfl, h4, f4, e31⟩)
          refine hK.out _ _ ⟨cell_on e31 hHeld.1, cell_on e31 hHeld.2.1, cell_on e31 hHeld.2.2.1, also hHeld.2.2.2 e31⟩ (fun hHeld => ?_)
          clear hK Kc
          have n_h4_0_q : NA q a4 l4 := f4 q lq
          have n_h4_0_p : NA p a4 l4 := f4 p lp
          replace q1 := q1.below e31
          replace x2 := x2.below e31
          replace h3 := h3.below e31
          replace x_a := x_a.on e31
          replace x_x := x_x.on e31
          replace BB := also BB e31
          replace BU := also BU e31
          replace y_q := y_q.on e31
          replace lq := Nat.lt_of_lt_of_le lq e31.size
          replace y_p := y_p.on e31
          replace lp := Nat.lt_of_lt_of_le lp e31.size
          have ⟨c_p_0, c_p_1, c_p_2, c_p_3⟩ : Bx X31 p (.bool false) (.slice none 0 0) := y_p
          refine take_call (i := 6) rfl (by kernel_rfl) (fun Kc hK => ?_)
          go_simp
          refine hK.out _ _ ⟨cell_put2 hHeld.1 (by omega) _ _, cell_put2 hHeld.2.1 (by omega) _ _, cell_put2 hHeld.2.2.1 (by omega) _ _, below_put2 hHeld.2.2.2 (by omega) _ _⟩ (fun hHeld => ?_)
          clear hK Kc
          have ⟨c_q_0, c_q_1, c_q_2, c_q_3⟩ : Bx ((X31.setCell ⟨p, 0, none⟩ (.bool n3)).setCell ⟨p, 1, none⟩ (.slice a3 l3 c3)) q (.bool false) (.slice none 0 0) := ((y_q.put pq).put pq)
          refine take_call (i := 7) rfl (by kernel_rfl) (fun Kc hK => ?_)
          go_simp
          refine hK.out _ _ ⟨cell_put2 hHeld.1 (by omega) _ _, cell_put2 hHeld.2.1 (by omega) _ _, cell_put2 hHeld.2.2.1 (by omega) _ _, below_put2 hHeld.2.2.2 (by omega) _ _⟩ (fun hHeld => ?_)
          clear hK Kc
          refine wpAnyH_done (by kernel_rfl) ?_ _
          rw [HQQ.out]
          exact ⟨rfl, p, q, n3, a3, l3, c3, n4, a4, l4, c4, rfl, ((((q1.put n_q1_0_p n_q1_1_p 0 _).put n_q1_0_p n_q1_1_p 1 _).put n_q1_0_q n_q1_1_q 0 _).put n_q1_0_q n_q1_1_q 1 _), ((((x2.put n_x2_0_p n_x2_1_p 0 _).put n_x2_0_p n_x2_1_p 1 _).put n_x2_0_q n_x2_1_q 0 _).put n_x2_0_q n_x2_1_q 1 _), ((((h3.put n_h3_0_p 0 _).put n_h3_0_p 1 _).put n_h3_0_q 0 _).put n_h3_0_q 1 _), ((((h4.put n_h4_0_p 0 _).put n_h4_0_p 1 _).put n_h4_0_q 0 _).put n_h4_0_q 1 _), ((((x_a.put (by omega)).put (by omega)).put (by omega)).put (by omega)), ((((x_x.put (by omega)).put (by omega)).put (by omega)).put (by omega)), ((y_p.set.put (fun e => pq e.symm)).put (fun e => pq e.symm)), ((y_q.put pq).put pq).set, (below_put2 (below_put2 BB (by omega) _ _) (by omega) _ _), by have := BU.size; simp only [World.size_setCell]; omega, ⟨gp, by simp only [World.size_setCell]; omega⟩, ⟨gq, by simp only [World.size_setCell]; omega⟩⟩
      · skip
        go_simp
        refine hK.out _ _ ⟨cell_on ((Below.refl _ _).alloc (Nat.le_refl _) _) hHeld.1, cell_on ((Below.refl _ _).alloc (Nat.le_refl _) _) hHeld.2.1, cell_on ((Below.refl _ _).alloc (Nat.le_refl _) _) hHeld.2.2.1, also hHeld.2.2.2 ((Below.refl _ _).alloc (Nat.le_refl _) _)⟩ (fun hHeld => ?_)
        clear hK Kc
        have y_p := bx_new X26 (.bool false) (.slice none 0 0) 25
        have e32 : Below X26.heap.size X26 (X26.alloc (.cells #[.bool false, .slice none 0 0] 25)) := (Below.refl _ _).alloc (Nat.le_refl _) _
        have lp : X26.heap.size < (X26.alloc (.cells #[.bool false, .slice none 0 0] 25)).heap.size := by simp
        have gp : V1.heap.size ≤ X26.heap.size := BU.size
        have n_q1_0_p : NA X26.heap.size a1 m1 := q1.wi.ni.sl.na (Nat.le_refl _)
        have n_q1_1_p : NA X26.heap.size d1 k1 := q1.ni.sl.na (Nat.le_refl _)
        have n_x2_0_p : NA X26.heap.size d2 l2 := x2.rn.hd.sl.na (Nat.le_refl _)
        have n_x2_1_p : NA X26.heap.size g2 h2 := x2.rd.hd.sl.na (Nat.le_refl _)
        have pq : X26.heap.size ≠ q := Nat.ne_of_gt lq
        generalize X26.alloc (.cells #[.bool false, .slice none 0 0] 25) = X32 at y_p e32 lp hHeld ⊢
        replace q1 := q1.below e32
        replace x2 := x2.below e32
        replace x_a := x_a.on e32
        replace x_x := x_x.on e32
        replace BB := also BB e32
        replace BU := also BU e32
        replace y_q := y_q.on e32
        replace lq := Nat.lt_of_lt_of_le lq e32.size
        generalize X26.heap.size = p at y_p lp gp n_q1_0_p n_q1_1_p n_x2_0_p n_x2_1_p pq ⊢
        refine take_call (i := 1) rfl (by kernel_rfl) (fun Kc hK => ?_)
        go_simp
        (go_at_call 23; refine (qFloor n a1 m1 c1 d1 k1 g1 Z y1 6 _ q1 F HF.out).mono ?_; rintro e X33 ⟨n3, a3, l3, c3, rfl, h3, f3, e33⟩)
        refine hK.out _ _ ⟨cell_on e33 hHeld.1, cell_on e33 hHeld.2.1, cell_on e33 hHeld.2.2.1, also hHeld.2.2.2 e33⟩ (fun hHeld => ?_)
        clear hK Kc
        have n_h3_0_q : NA q a3 l3 := f3 q lq
        have n_h3_0_p : NA p a3 l3 := f3 p lp
        replace q1 := q1.below e33
        replace x2 := x2.below e33
        replace x_a := x_a.on e33
        replace x_x := x_x.on e33
        replace BB := also BB e33
        replace BU := also BU e33
        replace y_q := y_q.on e33
        replace lq := Nat.lt_of_lt_of_le lq e33.size
        replace y_p := y_p.on e33
        replace lp := Nat.lt_of_lt_of_le lp e33.size
        refine take_call (i := 3) rfl (by kernel_rfl) (fun Kc hK => ?_)
        go_simp
        (go_at_call 24; refine (qRound n a1 m1 c1 d1 k1 g1 Z y1 6 _ q1 M HM.out).mono ?_; rintro e X34 ⟨n4, a4, l4, c4, rfl, h4, f4, e34⟩)
        refine hK.out _ _ ⟨cell_on e34 hHeld.1, cell_on e34 hHeld.2.1, cell_on e34 hHeld.2.2.1, also hHeld.2.2.2 e34⟩ (fun hHeld => ?_)
        clear hK Kc
        have n_h4_0_q : NA q a4 l4 := f4 q lq
        have n_h4_0_p : NA p a4 l4 := f4 p lp
        replace q1 := q1.below e34
        replace x2 := x2.below e34
        replace h3 := h3.below e34
        replace x_a := x_a.on e34
        replace x_x := x_x.on e34
        replace BB := also BB e34
        replace BU := also BU e34
        replace y_q := y_q.on e34
        replace lq := Nat.lt_of_lt_of_le lq e34.size
        replace y_p := y_p.on e34
        replace lp := Nat.lt_of_lt_of_le lp e34.size
        have ⟨c_p_0, c_p_1, c_p_2, c_p_3⟩ : Bx X34 p (.bool false) (.slice none 0 0) := y_p
        refine take_call (i := 6) rfl (by kernel_rfl) (fun Kc hK => ?_)
        go_simp
        refine hK.out _ _ ⟨cell_put2 hHeld.1 (by omega) _ _, cell_put2 hHeld.2.1 (by omega) _ _, cell_put2 hHeld.2.2.1 (by omega) _ _, below_put2 hHeld.2.2.2 (by omega) _ _⟩ (fun hHeld => ?_)
        clear hK Kc
        have ⟨c_q_0, c_q_1, c_q_2, c_q_3⟩ : Bx ((X34.setCell ⟨p, 0, none⟩ (.bool n3)).setCell ⟨p, 1, none⟩ (.slice a3 l3 c3)) q (.bool false) (.slice none 0 0) := ((y_q.put pq).put pq)
        refine take_call (i := 7) rfl (by kernel_rfl) (fun Kc hK => ?_)
        go_simp
        refine hK.out _ _ ⟨cell_put2 hHeld.1 (by omega) _ _, cell_put2 hHeld.2.1 (by omega) _ _, cell_put2 hHeld.2.2.1 (by omega) _ _, below_put2 hHeld.2.2.2 (by omega) _ _⟩ (fun hHeld => ?_)
        clear hK Kc
        refine wpAnyH_done (by kernel_rfl) ?_ _
        rw [HQQ.out]
        exact ⟨rfl, p, q, n3, a3, l3, c3, n4, a4, l4, c4, rfl, ((((q1.put n_q1_0_p n_q1_1_p 0 _).put n_q1_0_p n_q1_1_p 1 _).put n_q1_0_q n_q1_1_q 0 _).put n_q1_0_q n_q1_1_q 1 _), ((((x2.put n_x2_0_p n_x2_1_p 0 _).put n_x2_0_p n_x2_1_p 1 _).put n_x2_0_q n_x2_1_q 0 _).put n_x2_0_q n_x2_1_q 1 _), ((((h3.put n_h3_0_p 0 _).put n_h3_0_p 1 _).put n_h3_0_q 0 _).put n_h3_0_q 1 _), ((((h4.put n_h4_0_p 0 _).put n_h4_0_p 1 _).put n_h4_0_q 0 _).put n_h4_0_q 1 _), ((((x_a.put (by omega)).put (by omega)).put (by omega)).put (by omega)), ((((x_x.put (by omega)).put (by omega)).put (by omega)).put (by omega)), ((y_p.set.put (fun e => pq e.symm)).put (fun e => pq e.symm)), ((y_q.put pq).put pq).set, (below_put2 (below_put2 BB (by omega) _ _) (by omega) _ _), by have := BU.size; simp only [World.size_setCell]; omega, ⟨gp, by simp only [World.size_setCell]; omega⟩, ⟨gq, by simp only [World.size_setCell]; omega⟩⟩
  rw [HQQ.out]
  rintro e act Y1 ⟨rfl, p, q, n3, a3, l3, c3, n4, a4, l4, c4, rfl, q1, x2, h3, h4, x_a, x_x, x_f, x_n, BB, z_Y1, z_Y1_p, z_Y1_q⟩
  clear HQQ QQ
  dsimp only
  go_wp2_with (go_at_call 25; fail)
  refine (rwLong 1 Y1 (by decide) (by decide)).mono ?_
  rintro e w5 ⟨s5, d5, l5, c5, rfl, r5, f5, bw5⟩
  have zbw5 := bw5.size
  replace BB := also BB bw5
  replace x_a := x_a.on bw5
  replace q1 := q1.below bw5
  replace x2 := x2.below bw5
  replace x_x := x_x.on bw5
  replace h3 := h3.below bw5
  replace h4 := h4.below bw5
  replace x_f := x_f.on bw5
  replace x_n := x_n.on bw5
  go_wp2_with (go_at_call 25; fail)
  refine (rwLong 2 w5 (by decide) (by decide)).mono ?_
  rintro e w6 ⟨s6, d6, l6, c6, rfl, r6, f6, bw6⟩
  have zbw6 := bw6.size
  replace BB := also BB bw6
  replace x_a := x_a.on bw6
  replace q1 := q1.below bw6
  replace x2 := x2.below bw6
  replace x_x := x_x.on bw6
  replace h3 := h3.below bw6
  replace h4 := h4.below bw6
  replace x_f := x_f.on bw6
  replace x_n := x_n.on bw6
  replace r5 := r5.below bw6
  obtain ⟨V2, hV2, bV2, x_h, sV2⟩ := bs_4 w6 (.int .i64 s5) (.slice d5 l5 c5) (.int .i64 s6) (.slice d6 l6 c6) 34
  have zbV2 := bV2.size
  replace BB := also BB bV2
  replace x_a := x_a.on bV2
  replace q1 := q1.below bV2
  replace x2 := x2.below bV2
  replace x_x := x_x.on bV2
  replace h3 := h3.below bV2
  replace h4 := h4.below bV2
  replace x_f := x_f.on bV2
  replace x_n := x_n.on bV2
  replace r5 := r5.below bV2
  replace r6 := r6.below bV2
  go_wp2
  rw [← hV2]
  clear hV2
  have hh : RQ V2 19 s5 d5 l5 c5 s6 d6 l6 c6 1 2 := ⟨r5, r6, by decide, by decide +kernel, by decide +kernel, by decide⟩
  clear r5 r6
  obtain ⟨QQ, hQQ⟩ : ∃ QQ : Exit → Act → World → Prop, QQ = fun e act wr => e = .normal ∧ ∃ (pd : Nat) (s7 : Int) (d7 : Option Addr) (l7 c7 : Nat) (s8 : Int) (d8 : Option Addr) (l8 c8 : Nat) (s9 : Int) (d9 : Option Addr) (l9 c9 : Nat) (t9 : Int) (g9 : Option Addr) (h9 k9 : Nat), act = ⟨#[.agg #[.bool n, .slice a la ca, .slice d ld cd], .pointer (some ⟨w.heap.size, 0, none⟩), .bool false, .pointer (some ⟨w2.heap.size, 0, none⟩), .pointer (some ⟨p, 0, none⟩), .pointer (some ⟨q, 0, none⟩), .pointer (some ⟨w6.heap.size, 0, none⟩), .pointer (some ⟨pd, 0, none⟩), undef, .agg #[.bool n, .slice a la ca, .slice d ld cd], .agg #[.bool n, .slice a1 m1 c1, .slice d1 k1 g1], .agg #[.bool n, .slice a1 m1 c1, .slice d1 k1 g1], .agg #[.int .i64 s2, .slice d2 l2 c2, .int .i64 t2, .slice g2 h2 k2], .agg #[.bool n, .slice a1 m1 c1, .slice d1 k1 g1], .agg #[.bool n3, .slice a3 l3 c3], .agg #[.bool n, .slice a1 m1 c1, .slice d1 k1 g1], .agg #[.bool n4, .slice a4 l4 c4], .agg #[.int .i64 s5, .slice d5 l5 c5], .agg #[.int .i64 s6, .slice d6 l6 c6], .agg #[.int .i64 s5, .slice d5 l5 c5, .int .i64 s6, .slice d6 l6 c6], .agg #[.bool n4, .slice a4 l4 c4], .agg #[.int .i64 s7, .slice d7 l7 c7], .agg #[.int .i64 s8, .slice d8 l8 c8], .agg #[.int .i64 s7, .slice d7 l7 c7, .int .i64 s8, .slice d8 l8 c8], .agg #[.int .i64 s2, .slice d2 l2 c2, .int .i64 t2, .slice g2 h2 k2], .agg #[.int .i64 s9, .slice d9 l9 c9, .int .i64 t9, .slice g9 h9 k9], undef, undef, undef, undef, undef, undef, undef, undef, undef, undef, undef, undef, undef, undef, undef, undef, undef, undef, undef, undef, undef, undef, undef, undef, undef, undef, undef, undef, undef, undef, undef, undef, undef, undef, undef, undef, undef, undef, undef, undef, undef, undef, undef, undef], []⟩ ∧ QI wr 6 n a1 m1 c1 d1 k1 g1 Z y1 ∧ RQ wr 6 s2 d2 l2 c2 t2 g2 h2 k2 (pN Z y1) (pD y1) ∧ WN wr n3 a3 l3 c3 F ∧ WN wr n4 a4 l4 c4 M ∧ RQ wr 19 s5 d5 l5 c5 s6 d6 l6 c6 1 2 ∧ RN wr s7 d7 l7 c7 M ∧ RN wr s8 d8 l8 c8 1 ∧ RQ wr 19 s9 d9 l9 c9 t9 g9 h9 k9 N1 D1 ∧ B3 wr (w.heap.size) (.bool n) (.slice a1 m1 c1) (.slice d1 k1 g1) ∧ B4 wr (w2.heap.size) (.int .i64 s2) (.slice d2 l2 c2) (.int .i64 t2) (.slice g2 h2 k2) ∧ Bx wr (p) (.bool n3) (.slice a3 l3 c3) ∧ Bx wr (q) (.bool n4) (.slice a4 l4 c4) ∧ B4 wr (w6.heap.size) (.int .i64 s5) (.slice d5 l5 c5) (.int .i64 s6) (.slice d6 l6 c6) ∧ B4 wr pd (.int .i64 s9) (.slice d9 l9 c9) (.int .i64 t9) (.slice g9 h9 k9) ∧ Below w.heap.size w wr ∧ V2.heap.size ≤ wr.heap.size ∧ (V2.heap.size ≤ pd ∧ pd < wr.heap.size) := ⟨_, rfl⟩
  have HQQ : Hid _ := hQQ
  clear hQQ
  refine wp_mono (Q := QQ) ?_ ?_
  · refine wp_region_held_drew (S := (fun w' => w'.cell? ⟨q, 0, none⟩ = some (.bool n4) ∧ w'.cell? ⟨q, 1, none⟩ = some (.slice a4 l4 c4) ∧ w'.cell? ⟨w2.heap.size, 0, none⟩ = some (.int .i64 s2) ∧ w'.cell? ⟨w2.heap.size, 1, none⟩ = some (.slice d2 l2 c2) ∧ w'.cell? ⟨w2.heap.size, 2, none⟩ = some (.int .i64 t2) ∧ w'.cell? ⟨w2.heap.size, 3, none⟩ = some (.slice g2 h2 k2) ∧ Below w.heap.size w w')) (by kernel_rfl) ?_ (fun hHeld => ?_)
    · exact ⟨x_n.c0, x_n.c1, x_x.c0, x_x.c1, x_x.c2, x_x.c3, BB.drew⟩
    refine take_yes (i := 0) (v := ?vfb0x1) rfl (by kernel_rfl) (by kernel_rfl) (by kernel_rfl) (fun _ _ _ h => by rw [HQQ.out] at h; exact Exit.noConfusion h.1) (by rfl) (by assumption) ?hyfb0x1 ?restfb0x1
    case hyfb0x1 => (intro w hSw; (try dsimp only at hSw); first | (go_simp; done) | (go_simp; with_reducible rfl))
    simp only [Act.put, List.setIfInBounds_toArray, List.set_cons_zero, List.set_cons_succ]
    refine take_yes (i := 4) (v := ?vfb4x2) rfl (by kernel_rfl) (by kernel_rfl) (by kernel_rfl) (fun _ _ _ h => by rw [HQQ.out] at h; exact Exit.noConfusion h.1) (by rfl) (by assumption) ?hyfb4x2 ?restfb4x2
    case hyfb4x2 => (intro w hSw; (try dsimp only at hSw); first | (go_simp; done) | (go_simp; with_reducible rfl))
    simp only [Act.put, List.setIfInBounds_toArray, List.set_cons_zero, List.set_cons_succ]
    have b0 : Below V2.heap.size V2 V2.drew := (Below.refl _ _).drew
    have BU := b0
    generalize V2.drew = X0 at b0 BU hHeld ⊢
    replace q1 := q1.below b0
    replace x2 := x2.below b0
    replace h3 := h3.below b0
    replace h4 := h4.below b0
    replace hh := hh.below b0
    replace x_a := x_a.on b0
    replace x_x := x_x.on b0
    replace x_f := x_f.on b0
    replace x_n := x_n.on b0
    replace x_h := x_h.on b0
    replace BB := also BB b0
    refine wpAnyH_ready (rs := [1, 6]) (by kernel_rfl) (by simp) (AllReadyH.cons (i := 1) rfl (fun Kc hK => ?_) (AllReadyH.cons (i := 6) rfl (fun Kc hK => ?_) AllReadyH.nil))
    · skip
      go_simp
      (go_at_call 26; refine (rwOf n4 a4 l4 c4 M _ (h4.wi 9 (by decide) HMs.out)).mono ?_; rintro e X1 ⟨s7, d7, l7, c7, rfl, r7, f7, e1⟩)
      refine hK.out _ _ ⟨cell_on e1 hHeld.1, cell_on e1 hHeld.2.1, cell_on e1 hHeld.2.2.1, cell_on e1 hHeld.2.2.2.1, cell_on e1 hHeld.2.2.2.2.1, cell_on e1 hHeld.2.2.2.2.2.1, also hHeld.2.2.2.2.2.2 e1⟩ (fun hHeld => ?_)
      clear hK Kc
      replace q1 := q1.below e1
      replace x2 := x2.below e1
      replace h3 := h3.below e1
      replace h4 := h4.below e1
      replace hh := hh.below e1
      replace x_a := x_a.on e1
      replace x_x := x_x.on e1
      replace x_f := x_f.on e1
      replace x_n := x_n.on e1
      replace x_h := x_h.on e1
      replace BB := also BB e1
      replace BU := also BU e1
      refine wpAnyH_ready (rs := [2, 6]) (by kernel_rfl) (by simp) (AllReadyH.cons (i := 2) rfl (fun Kc hK => ?_) (AllReadyH.cons (i := 6) rfl (fun Kc hK => ?_) AllReadyH.nil))
      · skip
        go_simp
        (go_at_call 25; refine (rwLong 1 _ (by decide) (by decide)).mono ?_; rintro e X2 ⟨s8, d8, l8, c8, rfl, r8, f8, e2⟩)
        refine hK.out _ _ ⟨cell_on e2 hHeld.1, cell_on e2 hHeld.2.1, cell_on e2 hHeld.2.2.1, cell_on e2 hHeld.2.2.2.1, cell_on e2 hHeld.2.2.2.2.1, cell_on e2 hHeld.2.2.2.2.2.1, also hHeld.2.2.2.2.2.2 e2⟩ (fun hHeld => ?_)
        clear hK Kc
        replace q1 := q1.below e2
        replace x2 := x2.below e2
        replace h3 := h3.below e2
        replace h4 := h4.below e2
        replace hh := hh.below e2
        replace r7 := r7.below e2
        replace x_a := x_a.on e2
        replace x_x := x_x.on e2
        replace x_f := x_f.on e2
        replace x_n := x_n.on e2
        replace x_h := x_h.on e2
        replace BB := also BB e2
        replace BU := also BU e2
        refine take_yes (i := 3) (v := ?vfb3x3) rfl (by kernel_rfl) (by kernel_rfl) (by kernel_rfl) (fun _ _ _ h => by rw [HQQ.out] at h; exact Exit.noConfusion h.1) (by rfl) (by assumption) ?hyfb3x3 ?restfb3x3
        case hyfb3x3 => (intro w hSw; (try dsimp only at hSw); first | (go_simp; done) | (go_simp; with_reducible rfl))
        simp only [Act.put, List.setIfInBounds_toArray, List.set_cons_zero, List.set_cons_succ]
        refine wpAnyH_ready (rs := [5, 6]) (by kernel_rfl) (by simp) (AllReadyH.cons (i := 5) rfl (fun Kc hK => ?_) (AllReadyH.cons (i := 6) rfl (fun Kc hK => ?_) AllReadyH.nil))
        · skip
          go_simp
          (go_at_call 13; refine (rqSub s7 d7 l7 c7 s8 d8 l8 c8 M 1 s2 d2 l2 c2 t2 g2 h2 k2 (pN Z y1) (pD y1) 9 _ ⟨r7, r8, by decide, HMs.out, by decide +kernel, by decide⟩ (x2.more (by decide) (by decide)) (by decide) N1 D1 HN1.out HD1.out).mono ?_; rintro e X3 ⟨s9, d9, l9, c9, t9, g9, h9, k9, rfl, x9, r9, e3⟩)
          refine hK.out _ _ ⟨cell_on e3 hHeld.1, cell_on e3 hHeld.2.1, cell_on e3 hHeld.2.2.1, cell_on e3 hHeld.2.2.2.1, cell_on e3 hHeld.2.2.2.2.1, cell_on e3 hHeld.2.2.2.2.2.1, also hHeld.2.2.2.2.2.2 e3⟩ (fun hHeld => ?_)
          clear hK Kc
          replace q1 := q1.below e3
          replace x2 := x2.below e3
          replace h3 := h3.below e3
          replace h4 := h4.below e3
          replace hh := hh.below e3
          replace r7 := r7.below e3
          replace r8 := r8.below e3
          replace x_a := x_a.on e3
          replace x_x := x_x.on e3
          replace x_f := x_f.on e3
          replace x_n := x_n.on e3
          replace x_h := x_h.on e3
          replace BB := also BB e3
          replace BU := also BU e3
          refine take_call (i := 6) rfl (by kernel_rfl) (fun Kc hK => ?_)
          go_simp
          refine hK.out _ _ ⟨cell_on ((Below.refl _ _).alloc (Nat.le_refl _) _) hHeld.1, cell_on ((Below.refl _ _).alloc (Nat.le_refl _) _) hHeld.2.1, cell_on ((Below.refl _ _).alloc (Nat.le_refl _) _) hHeld.2.2.1, cell_on ((Below.refl _ _).alloc (Nat.le_refl _) _) hHeld.2.2.2.1, cell_on ((Below.refl _ _).alloc (Nat.le_refl _) _) hHeld.2.2.2.2.1, cell_on ((Below.refl _ _).alloc (Nat.le_refl _) _) hHeld.2.2.2.2.2.1, also hHeld.2.2.2.2.2.2 ((Below.refl _ _).alloc (Nat.le_refl _) _)⟩ (fun hHeld => ?_)
          clear hK Kc
          have y_pd := b4_new X3 (.int .i64 0) (.slice none 0 0) (.int .i64 0) (.slice none 0 0) 34
          have e4 : Below X3.heap.size X3 (X3.alloc (.cells #[.int .i64 0, .slice none 0 0, .int .i64 0, .slice none 0 0] 34)) := (Below.refl _ _).alloc (Nat.le_refl _) _
          have lpd : X3.heap.size < (X3.alloc (.cells #[.int .i64 0, .slice none 0 0, .int .i64 0, .slice none 0 0] 34)).heap.size := by simp
          have gpd : V2.heap.size ≤ X3.heap.size := BU.size
          have n_q1_0_pd : NA X3.heap.size a1 m1 := q1.wi.ni.sl.na (Nat.le_refl _)
          have n_q1_1_pd : NA X3.heap.size d1 k1 := q1.ni.sl.na (Nat.le_refl _)
          have n_x2_0_pd : NA X3.heap.size d2 l2 := x2.rn.hd.sl.na (Nat.le_refl _)
          have n_x2_1_pd : NA X3.heap.size g2 h2 := x2.rd.hd.sl.na (Nat.le_refl _)
          have n_h3_0_pd : NA X3.heap.size a3 l3 := h3.nd.sl.na (Nat.le_refl _)
          have n_h4_0_pd : NA X3.heap.size a4 l4 := h4.nd.sl.na (Nat.le_refl _)
          have n_hh_0_pd : NA X3.heap.size d5 l5 := hh.rn.hd.sl.na (Nat.le_refl _)
          have n_hh_1_pd : NA X3.heap.size d6 l6 := hh.rd.hd.sl.na (Nat.le_refl _)
          have n_r7_0_pd : NA X3.heap.size d7 l7 := r7.hd.sl.na (Nat.le_refl _)
          have n_r8_0_pd : NA X3.heap.size d8 l8 := r8.hd.sl.na (Nat.le_refl _)
          have n_x9_0_pd : NA X3.heap.size d9 l9 := x9.rn.hd.sl.na (Nat.le_refl _)
          have n_x9_1_pd : NA X3.heap.size g9 h9 := x9.rd.hd.sl.na (Nat.le_refl _)
          generalize X3.alloc (.cells #[.int .i64 0, .slice none 0 0, .int .i64 0, .slice none 0 0] 34) = X4 at y_pd e4 lpd hHeld ⊢
          replace q1 := q1.below e4
          replace x2 := x2.below e4
          replace h3 := h3.below e4
          replace h4 := h4.below e4
          replace hh := hh.below e4
          replace r7 := r7.below e4
          replace r8 := r8.below e4
          replace x9 := x9.below e4
          replace x_a := x_a.on e4
          replace x_x := x_x.on e4
          replace x_f := x_f.on e4
          replace x_n := x_n.on e4
          replace x_h := x_h.on e4
          replace BB := also BB e4
          replace BU := also BU e4
          generalize X3.heap.size = pd at y_pd lpd gpd n_q1_0_pd n_q1_1_pd n_x2_0_pd n_x2_1_pd n_h3_0_pd n_h4_0_pd n_hh_0_pd n_hh_1_pd n_r7_0_pd n_r8_0_pd n_x9_0_pd n_x9_1_pd ⊢
          have ⟨c_pd_0, c_pd_1, c_pd_2, c_pd_3, c_pd_4, c_pd_5, c_pd_6, c_pd_7⟩ : B4 X4 pd (.int .i64 0) (.slice none 0 0) (.int .i64 0) (.slice none 0 0) := y_pd
          refine take_call (i := 7) rfl (by kernel_rfl) (fun Kc hK => ?_)
          go_simp
          refine hK.out _ _ ⟨cell_put4 hHeld.1 (by omega) _ _ _ _, cell_put4 hHeld.2.1 (by omega) _ _ _ _, cell_put4 hHeld.2.2.1 (by omega) _ _ _ _, cell_put4 hHeld.2.2.2.1 (by omega) _ _ _ _, cell_put4 hHeld.2.2.2.2.1 (by omega) _ _ _ _, cell_put4 hHeld.2.2.2.2.2.1 (by omega) _ _ _ _, below_put4 hHeld.2.2.2.2.2.2 (by omega) _ _ _ _⟩ (fun hHeld => ?_)
          clear hK Kc
          refine wpAnyH_done (by kernel_rfl) ?_ _
          rw [HQQ.out]
          exact ⟨rfl, pd, s7, d7, l7, c7, s8, d8, l8, c8, s9, d9, l9, c9, t9, g9, h9, k9, rfl, ((((q1.put n_q1_0_pd n_q1_1_pd 0 _).put n_q1_0_pd n_q1_1_pd 1 _).put n_q1_0_pd n_q1_1_pd 2 _).put n_q1_0_pd n_q1_1_pd 3 _), ((((x2.put n_x2_0_pd n_x2_1_pd 0 _).put n_x2_0_pd n_x2_1_pd 1 _).put n_x2_0_pd n_x2_1_pd 2 _).put n_x2_0_pd n_x2_1_pd 3 _), ((((h3.put n_h3_0_pd 0 _).put n_h3_0_pd 1 _).put n_h3_0_pd 2 _).put n_h3_0_pd 3 _), ((((h4.put n_h4_0_pd 0 _).put n_h4_0_pd 1 _).put n_h4_0_pd 2 _).put n_h4_0_pd 3 _), ((((hh.put n_hh_0_pd n_hh_1_pd 0 _).put n_hh_0_pd n_hh_1_pd 1 _).put n_hh_0_pd n_hh_1_pd 2 _).put n_hh_0_pd n_hh_1_pd 3 _), ((((r7.put n_r7_0_pd 0 _).put n_r7_0_pd 1 _).put n_r7_0_pd 2 _).put n_r7_0_pd 3 _), ((((r8.put n_r8_0_pd 0 _).put n_r8_0_pd 1 _).put n_r8_0_pd 2 _).put n_r8_0_pd 3 _), ((((x9.put n_x9_0_pd n_x9_1_pd 0 _).put n_x9_0_pd n_x9_1_pd 1 _).put n_x9_0_pd n_x9_1_pd 2 _).put n_x9_0_pd n_x9_1_pd 3 _), ((((x_a.put (by omega)).put (by omega)).put (by omega)).put (by omega)), ((((x_x.put (by omega)).put (by omega)).put (by omega)).put (by omega)), ((((x_f.put (by omega)).put (by omega)).put (by omega)).put (by omega)), ((((x_n.put (by omega)).put (by omega)).put (by omega)).put (by omega)), ((((x_h.put (by omega)).put (by omega)).put (by omega)).put (by omega)), y_pd.set, (below_put4 BB (by omega) _ _ _ _), by have := BU.size; simp only [World.size_setCell]; omega, ⟨gpd, by simp only [World.size_setCell]; omega⟩⟩
        · skip
          go_simp
          refine hK.out _ _ ⟨cell_on ((Below.refl _ _).alloc (Nat.le_refl _) _) hHeld.1, cell_on ((Below.refl _ _).alloc (Nat.le_refl _) _) hHeld.2.1, cell_on ((Below.refl _ _).alloc (Nat.le_refl _) _) hHeld.2.2.1, cell_on ((Below.refl _ _).alloc (Nat.le_refl _) _) hHeld.2.2.2.1, cell_on ((Below.refl _ _).alloc (Nat.le_refl _) _) hHeld.2.2.2.2.1, cell_on ((Below.refl _ _).alloc (Nat.le_refl _) _) hHeld.2.2.2.2.2.1, also hHeld.2.2.2.2.2.2 ((Below.refl _ _).alloc (Nat.le_refl _) _)⟩ (fun hHeld => ?_)
          clear hK Kc
          have y_pd := b4_new X2 (.int .i64 0) (.slice none 0 0) (.int .i64 0) (.slice none 0 0) 34
          have e5 : Below X2.heap.size X2 (X2.alloc (.cells #[.int .i64 0, .slice none 0 0, .int .i64 0, .slice none 0 0] 34)) := (Below.refl _ _).alloc (Nat.le_refl _) _
          have lpd : X2.heap.size < (X2.alloc (.cells #[.int .i64 0, .slice none 0 0, .int .i64 0, .slice none 0 0] 34)).heap.size := by simp
          have gpd : V2.heap.size ≤ X2.heap.size := BU.size
          have n_q1_0_pd : NA X2.heap.size a1 m1 := q1.wi.ni.sl.na (Nat.le_refl _)
          have n_q1_1_pd : NA X2.heap.size d1 k1 := q1.ni.sl.na (Nat.le_refl _)
          have n_x2_0_pd : NA X2.heap.size d2 l2 := x2.rn.hd.sl.na (Nat.le_refl _)
          have n_x2_1_pd : NA X2.heap.size g2 h2 := x2.rd.hd.sl.na (Nat.le_refl _)
          have n_h3_0_pd : NA X2.heap.size a3 l3 := h3.nd.sl.na (Nat.le_refl _)
          have n_h4_0_pd : NA X2.heap.size a4 l4 := h4.nd.sl.na (Nat.le_refl _)
          have n_hh_0_pd : NA X2.heap.size d5 l5 := hh.rn.hd.sl.na (Nat.le_refl _)
          have n_hh_1_pd : NA X2.heap.size d6 l6 := hh.rd.hd.sl.na (Nat.le_refl _)
          have n_r7_0_pd : NA X2.heap.size d7 l7 := r7.hd.sl.na (Nat.le_refl _)
          have n_r8_0_pd : NA X2.heap.size d8 l8 := r8.hd.sl.na (Nat.le_refl _)
          generalize X2.alloc (.cells #[.int .i64 0, .slice none 0 0, .int .i64 0, .slice none 0 0] 34) = X5 at y_pd e5 lpd hHeld ⊢
          replace q1 := q1.below e5
          replace x2 := x2.below e5
          replace h3 := h3.below e5
          replace h4 := h4.below e5
          replace hh := hh.below e5
          replace r7 := r7.below e5
          replace r8 := r8.below e5
          replace x_a := x_a.on e5
          replace x_x := x_x.on e5
          replace x_f := x_f.on e5
          replace x_n := x_n.on e5
          replace x_h := x_h.on e5
          replace BB := also BB e5
          replace BU := also BU e5
          generalize X2.heap.size = pd at y_pd lpd gpd n_q1_0_pd n_q1_1_pd n_x2_0_pd n_x2_1_pd n_h3_0_pd n_h4_0_pd n_hh_0_pd n_hh_1_pd n_r7_0_pd n_r8_0_pd ⊢
          refine take_call (i := 5) rfl (by kernel_rfl) (fun Kc hK => ?_)
          go_simp
          (go_at_call 13; refine (rqSub s7 d7 l7 c7 s8 d8 l8 c8 M 1 s2 d2 l2 c2 t2 g2 h2 k2 (pN Z y1) (pD y1) 9 _ ⟨r7, r8, by decide, HMs.out, by decide +kernel, by decide⟩ (x2.more (by decide) (by decide)) (by decide) N1 D1 HN1.out HD1.out).mono ?_; rintro e X6 ⟨s9, d9, l9, c9, t9, g9, h9, k9, rfl, x9, r9, e6⟩)
          refine hK.out _ _ ⟨cell_on e6 hHeld.1, cell_on e6 hHeld.2.1, cell_on e6 hHeld.2.2.1, cell_on e6 hHeld.2.2.2.1, cell_on e6 hHeld.2.2.2.2.1, cell_on e6 hHeld.2.2.2.2.2.1, also hHeld.2.2.2.2.2.2 e6⟩ (fun hHeld => ?_)
          clear hK Kc
          have n_x9_0_pd : NA pd d9 l9 := (r9 pd lpd trivial).1
          have n_x9_1_pd : NA pd g9 h9 := (r9 pd lpd trivial).2
          replace q1 := q1.below e6
          replace x2 := x2.below e6
          replace h3 := h3.below e6
          replace h4 := h4.below e6
          replace hh := hh.below e6
          replace r7 := r7.below e6
          replace r8 := r8.below e6
          replace x_a := x_a.on e6
          replace x_x := x_x.on e6
          replace x_f := x_f.on e6
          replace x_n := x_n.on e6
          replace x_h := x_h.on e6
          replace BB := also BB e6
          replace BU := also BU e6
          replace y_pd := y_pd.on e6
          replace lpd := Nat.lt_of_lt_of_le lpd e6.size
          have ⟨c_pd_0, c_pd_1, c_pd_2, c_pd_3, c_pd_4, c_pd_5, c_pd_6, c_pd_7⟩ : B4 X6 pd (.int .i64 0) (.slice none 0 0) (.int .i64 0) (.slice none 0 0) := y_pd
          refine take_call (i := 7) rfl (by kernel_rfl) (fun Kc hK => ?_)
          go_simp
          refine hK.out _ _ ⟨cell_put4 hHeld.1 (by omega) _ _ _ _, cell_put4 hHeld.2.1 (by omega) _ _ _ _, cell_put4 hHeld.2.2.1 (by omega) _ _ _ _, cell_put4 hHeld.2.2.2.1 (by omega) _ _ _ _, cell_put4 hHeld.2.2.2.2.1 (by omega) _ _ _ _, cell_put4 hHeld.2.2.2.2.2.1 (by omega) _ _ _ _, below_put4 hHeld.2.2.2.2.2.2 (by omega) _ _ _ _⟩ (fun hHeld => ?_)
          clear hK Kc
          refine wpAnyH_done (by kernel_rfl) ?_ _
          rw [HQQ.out]
          exact ⟨rfl, pd, s7, d7, l7, c7, s8, d8, l8, c8, s9, d9, l9, c9, t9, g9, h9, k9, rfl, ((((q1.put n_q1_0_pd n_q1_1_pd 0 _).put n_q1_0_pd n_q1_1_pd 1 _).put n_q1_0_pd n_q1_1_pd 2 _).put n_q1_0_pd n_q1_1_pd 3 _), ((((x2.put n_x2_0_pd n_x2_1_pd 0 _).put n_x2_0_pd n_x2_1_pd 1 _).put n_x2_0_pd n_x2_1_pd 2 _).put n_x2_0_pd n_x2_1_pd 3 _), ((((h3.put n_h3_0_pd 0 _).put n_h3_0_pd 1 _).put n_h3_0_pd 2 _).put n_h3_0_pd 3 _), ((((h4.put n_h4_0_pd 0 _).put n_h4_0_pd 1 _).put n_h4_0_pd 2 _).put n_h4_0_pd 3 _), ((((hh.put n_hh_0_pd n_hh_1_pd 0 _).put n_hh_0_pd n_hh_1_pd 1 _).put n_hh_0_pd n_hh_1_pd 2 _).put n_hh_0_pd n_hh_1_pd 3 _), ((((r7.put n_r7_0_pd 0 _).put n_r7_0_pd 1 _).put n_r7_0_pd 2 _).put n_r7_0_pd 3 _), ((((r8.put n_r8_0_pd 0 _).put n_r8_0_pd 1 _).put n_r8_0_pd 2 _).put n_r8_0_pd 3 _), ((((x9.put n_x9_0_pd n_x9_1_pd 0 _).put n_x9_0_pd n_x9_1_pd 1 _).put n_x9_0_pd n_x9_1_pd 2 _).put n_x9_0_pd n_x9_1_pd 3 _), ((((x_a.put (by omega)).put (by omega)).put (by omega)).put (by omega)), ((((x_x.put (by omega)).put (by omega)).put (by omega)).put (by omega)), ((((x_f.put (by omega)).put (by omega)).put (by omega)).put (by omega)), ((((x_n.put (by omega)).put (by omega)).put (by omega)).put (by omega)), ((((x_h.put (by omega)).put (by omega)).put (by omega)).put (by omega)), y_pd.set, (below_put4 BB (by omega) _ _ _ _), by have := BU.size; simp only [World.size_setCell]; omega, ⟨gpd, by simp only [World.size_setCell]; omega⟩⟩
      · skip
        go_simp
        refine hK.out _ _ ⟨cell_on ((Below.refl _ _).alloc (Nat.le_refl _) _) hHeld.1, cell_on ((Below.refl _ _).alloc (Nat.le_refl _) _) hHeld.2.1, cell_on ((Below.refl _ _).alloc (Nat.le_refl _) _) hHeld.2.2.1, cell_on ((Below.refl _ _).alloc (Nat.le_refl _) _) hHeld.2.2.2.1, cell_on ((Below.refl _ _).alloc (Nat.le_refl _) _) hHeld.2.2.2.2.1, cell_on ((Below.refl _ _).alloc (Nat.le_refl _) _) hHeld.2.2.2.2.2.1, also hHeld.2.2.2.2.2.2 ((Below.refl _ _).alloc (Nat.le_refl _) _)⟩ (fun hHeld => ?_)
        clear hK Kc
        have y_pd := b4_new X1 (.int .i64 0) (.slice none 0 0) (.int .i64 0) (.slice none 0 0) 34
        have e7 : Below X1.heap.size X1 (X1.alloc (.cells #[.int .i64 0, .slice none 0 0, .int .i64 0, .slice none 0 0] 34)) := (Below.refl _ _).alloc (Nat.le_refl _) _
        have lpd : X1.heap.size < (X1.alloc (.cells #[.int .i64 0, .slice none 0 0, .int .i64 0, .slice none 0 0] 34)).heap.size := by simp
        have gpd : V2.heap.size ≤ X1.heap.size := BU.size
        have n_q1_0_pd : NA X1.heap.size a1 m1 := q1.wi.ni.sl.na (Nat.le_refl _)
        have n_q1_1_pd : NA X1.heap.size d1 k1 := q1.ni.sl.na (Nat.le_refl _)
        have n_x2_0_pd : NA X1.heap.size d2 l2 := x2.rn.hd.sl.na (Nat.le_refl _)
        have n_x2_1_pd : NA X1.heap.size g2 h2 := x2.rd.hd.sl.na (Nat.le_refl _)
        have n_h3_0_pd : NA X1.heap.size a3 l3 := h3.nd.sl.na (Nat.le_refl _)
        have n_h4_0_pd : NA X1.heap.size a4 l4 := h4.nd.sl.na (Nat.le_refl _)
        have n_hh_0_pd : NA X1.heap.size d5 l5 := hh.rn.hd.sl.na (Nat.le_refl _)
        have n_hh_1_pd : NA X1.heap.size d6 l6 := hh.rd.hd.sl.na (Nat.le_refl _)
        have n_r7_0_pd : NA X1.heap.size d7 l7 := r7.hd.sl.na (Nat.le_refl _)
        generalize X1.alloc (.cells #[.int .i64 0, .slice none 0 0, .int .i64 0, .slice none 0 0] 34) = X7 at y_pd e7 lpd hHeld ⊢
        replace q1 := q1.below e7
        replace x2 := x2.below e7
        replace h3 := h3.below e7
        replace h4 := h4.below e7
        replace hh := hh.below e7
        replace r7 := r7.below e7
        replace x_a := x_a.on e7
        replace x_x := x_x.on e7
        replace x_f := x_f.on e7
        replace x_n := x_n.on e7
        replace x_h := x_h.on e7
        replace BB := also BB e7
        replace BU := also BU e7
        generalize X1.heap.size = pd at y_pd lpd gpd n_q1_0_pd n_q1_1_pd n_x2_0_pd n_x2_1_pd n_h3_0_pd n_h4_0_pd n_hh_0_pd n_hh_1_pd n_r7_0_pd ⊢
        refine take_call (i := 2) rfl (by kernel_rfl) (fun Kc hK => ?_)
        go_simp
        (go_at_call 25; refine (rwLong 1 _ (by decide) (by decide)).mono ?_; rintro e X8 ⟨s8, d8, l8, c8, rfl, r8, f8, e8⟩)
        refine hK.out _ _ ⟨cell_on e8 hHeld.1, cell_on e8 hHeld.2.1, cell_on e8 hHeld.2.2.1, cell_on e8 hHeld.2.2.2.1, cell_on e8 hHeld.2.2.2.2.1, cell_on e8 hHeld.2.2.2.2.2.1, also hHeld.2.2.2.2.2.2 e8⟩ (fun hHeld => ?_)
        clear hK Kc
        have n_r8_0_pd : NA pd d8 l8 := f8 pd lpd trivial
        replace q1 := q1.below e8
        replace x2 := x2.below e8
        replace h3 := h3.below e8
        replace h4 := h4.below e8
        replace hh := hh.below e8
        replace r7 := r7.below e8
        replace x_a := x_a.on e8
        replace x_x := x_x.on e8
        replace x_f := x_f.on e8
        replace x_n := x_n.on e8
        replace x_h := x_h.on e8
        replace BB := also BB e8
        replace BU := also BU e8
        replace y_pd := y_pd.on e8
        replace lpd := Nat.lt_of_lt_of_le lpd e8.size
        refine take_yes (i := 3) (v := ?vfb3x4) rfl (by kernel_rfl) (by kernel_rfl) (by kernel_rfl) (fun _ _ _ h => by rw [HQQ.out] at h; exact Exit.noConfusion h.1) (by rfl) (by assumption) ?hyfb3x4 ?restfb3x4
        case hyfb3x4 => (intro w hSw; (try dsimp only at hSw); first | (go_simp; done) | (go_simp; with_reducible rfl))
        simp only [Act.put, List.setIfInBounds_toArray, List.set_cons_zero, List.set_cons_succ]
        refine take_call (i := 5) rfl (by kernel_rfl) (fun Kc hK => ?_)
        go_simp
        (go_at_call 13; refine (rqSub s7 d7 l7 c7 s8 d8 l8 c8 M 1 s2 d2 l2 c2 t2 g2 h2 k2 (pN Z y1) (pD y1) 9 _ ⟨r7, r8, by decide, HMs.out, by decide +kernel, by decide⟩ (x2.more (by decide) (by decide)) (by decide) N1 D1 HN1.out HD1.out).mono ?_; rintro e X9 ⟨s9, d9, l9, c9, t9, g9, h9, k9, rfl, x9, r9, e9⟩)
        refine hK.out _ _ ⟨cell_on e9 hHeld.1, cell_on e9 hHeld.2.1, cell_on e9 hHeld.2.2.1, cell_on e9 hHeld.2.2.2.1, cell_on e9 hHeld.2.2.2.2.1, cell_on e9 hHeld.2.2.2.2.2.1, also hHeld.2.2.2.2.2.2 e9⟩ (fun hHeld => ?_)
        clear hK Kc
        have n_x9_0_pd : NA pd d9 l9 := (r9 pd lpd trivial).1
        have n_x9_1_pd : NA pd g9 h9 := (r9 pd lpd trivial).2
        replace q1 := q1.below e9
        replace x2 := x2.below e9
        replace h3 := h3.below e9
        replace h4 := h4.below e9
        replace hh := hh.below e9
        replace r7 := r7.below e9
        replace r8 := r8.below e9
        replace x_a := x_a.on e9
        replace x_x := x_x.on e9
        replace x_f := x_f.on e9
        replace x_n := x_n.on e9
        replace x_h := x_h.on e9
        replace BB := also BB e9
        replace BU := also BU e9
        replace y_pd := y_pd.on e9
        replace lpd := Nat.lt_of_lt_of_le lpd e9.size
        have ⟨c_pd_0, c_pd_1, c_pd_2, c_pd_3, c_pd_4, c_pd_5, c_pd_6, c_pd_7⟩ : B4 X9 pd (.int .i64 0) (.slice none 0 0) (.int .i64 0) (.slice none 0 0) := y_pd
        refine take_call (i := 7) rfl (by kernel_rfl) (fun Kc hK => ?_)
        go_simp
        refine hK.out _ _ ⟨cell_put4 hHeld.1 (by omega) _ _ _ _, cell_put4 hHeld.2.1 (by omega) _ _ _ _, cell_put4 hHeld.2.2.1 (by omega) _ _ _ _, cell_put4 hHeld.2.2.2.1 (by omega) _ _ _ _, cell_put4 hHeld.2.2.2.2.1 (by omega) _ _ _ _, cell_put4 hHeld.2.2.2.2.2.1 (by omega) _ _ _ _, below_put4 hHeld.2.2.2.2.2.2 (by omega) _ _ _ _⟩ (fun hHeld => ?_)
        clear hK Kc
        refine wpAnyH_done (by kernel_rfl) ?_ _
        rw [HQQ.out]
        exact ⟨rfl, pd, s7, d7, l7, c7, s8, d8, l8, c8, s9, d9, l9, c9, t9, g9, h9, k9, rfl, ((((q1.put n_q1_0_pd n_q1_1_pd 0 _).put n_q1_0_pd n_q1_1_pd 1 _).put n_q1_0_pd n_q1_1_pd 2 _).put n_q1_0_pd n_q1_1_pd 3 _), ((((x2.put n_x2_0_pd n_x2_1_pd 0 _).put n_x2_0_pd n_x2_1_pd 1 _).put n_x2_0_pd n_x2_1_pd 2 _).put n_x2_0_pd n_x2_1_pd 3 _), ((((h3.put n_h3_0_pd 0 _).put n_h3_0_pd 1 _).put n_h3_0_pd 2 _).put n_h3_0_pd 3 _), ((((h4.put n_h4_0_pd 0 _).put n_h4_0_pd 1 _).put n_h4_0_pd 2 _).put n_h4_0_pd 3 _), ((((hh.put n_hh_0_pd n_hh_1_pd 0 _).put n_hh_0_pd n_hh_1_pd 1 _).put n_hh_0_pd n_hh_1_pd 2 _).put n_hh_0_pd n_hh_1_pd 3 _), ((((r7.put n_r7_0_pd 0 _).put n_r7_0_pd 1 _).put n_r7_0_pd 2 _).put n_r7_0_pd 3 _), ((((r8.put n_r8_0_pd 0 _).put n_r8_0_pd 1 _).put n_r8_0_pd 2 _).put n_r8_0_pd 3 _), ((((x9.put n_x9_0_pd n_x9_1_pd 0 _).put n_x9_0_pd n_x9_1_pd 1 _).put n_x9_0_pd n_x9_1_pd 2 _).put n_x9_0_pd n_x9_1_pd 3 _), ((((x_a.put (by omega)).put (by omega)).put (by omega)).put (by omega)), ((((x_x.put (by omega)).put (by omega)).put (by omega)).put (by omega)), ((((x_f.put (by omega)).put (by omega)).put (by omega)).put (by omega)), ((((x_n.put (by omega)).put (by omega)).put (by omega)).put (by omega)), ((((x_h.put (by omega)).put (by omega)).put (by omega)).put (by omega)), y_pd.set, (below_put4 BB (by omega) _ _ _ _), by have := BU.size; simp only [World.size_setCell]; omega, ⟨gpd, by simp only [World.size_setCell]; omega⟩⟩
    · skip
      go_simp
      refine hK.out _ _ ⟨cell_on ((Below.refl _ _).alloc (Nat.le_refl _) _) hHeld.1, cell_on ((Below.refl _ _).alloc (Nat.le_refl _) _) hHeld.2.1, cell_on ((Below.refl _ _).alloc (Nat.le_refl _) _) hHeld.2.2.1, cell_on ((Below.refl _ _).alloc (Nat.le_refl _) _) hHeld.2.2.2.1, cell_on ((Below.refl _ _).alloc (Nat.le_refl _) _) hHeld.2.2.2.2.1, cell_on ((Below.refl _ _).alloc (Nat.le_refl _) _) hHeld.2.2.2.2.2.1, also hHeld.2.2.2.2.2.2 ((Below.refl _ _).alloc (Nat.le_refl _) _)⟩ (fun hHeld => ?_)
      clear hK Kc
      have y_pd := b4_new X0 (.int .i64 0) (.slice none 0 0) (.int .i64 0) (.slice none 0 0) 34
      have e10 : Below X0.heap.size X0 (X0.alloc (.cells #[.int .i64 0, .slice none 0 0, .int .i64 0, .slice none 0 0] 34)) := (Below.refl _ _).alloc (Nat.le_refl _) _
      have lpd : X0.heap.size < (X0.alloc (.cells #[.int .i64 0, .slice none 0 0, .int .i64 0, .slice none 0 0] 34)).heap.size := by simp
      have gpd : V2.heap.size ≤ X0.heap.size := BU.size
      have n_q1_0_pd : NA X0.heap.size a1 m1 := q1.wi.ni.sl.na (Nat.le_refl _)
      have n_q1_1_pd : NA X0.heap.size d1 k1 := q1.ni.sl.na (Nat.le_refl _)
      have n_x2_0_pd : NA X0.heap.size d2 l2 := x2.rn.hd.sl.na (Nat.le_refl _)
      have n_x2_1_pd : NA X0.heap.size g2 h2 := x2.rd.hd.sl.na (Nat.le_refl _)
      have n_h3_0_pd : NA X0.heap.size a3 l3 := h3.nd.sl.na (Nat.le_refl _)
      have n_h4_0_pd : NA X0.heap.size a4 l4 := h4.nd.sl.na (Nat.le_refl _)
      have n_hh_0_pd : NA X0.heap.size d5 l5 := hh.rn.hd.sl.na (Nat.le_refl _)
      have n_hh_1_pd : NA X0.heap.size d6 l6 := hh.rd.hd.sl.na (Nat.le_refl _)
      generalize X0.alloc (.cells #[.int .i64 0, .slice none 0 0, .int .i64 0, .slice none 0 0] 34) = X10 at y_pd e10 lpd hHeld ⊢
      replace q1 := q1.below e10
      replace x2 := x2.below e10
      replace h3 := h3.below e10
      replace h4 := h4.below e10
      replace hh := hh.below e10
      replace x_a := x_a.on e10
      replace x_x := x_x.on e10
      replace x_f := x_f.on e10
      replace x_n := x_n.on e10
      replace x_h := x_h.on e10
      replace BB := also BB e10
      replace BU := also BU e10
      generalize X0.heap.size = pd at y_pd lpd gpd n_q1_0_pd n_q1_1_pd n_x2_0_pd n_x2_1_pd n_h3_0_pd n_h4_0_pd n_hh_0_pd n_hh_1_pd ⊢
      refine take_call (i := 1) rfl (by kernel_rfl) (fun Kc hK => ?_)
      go_simp
      (go_at_call 26; refine (rwOf n4 a4 l4 c4 M _ (h4.wi 9 (by decide) HMs.out)).mono ?_; rintro e X11 ⟨s7, d7, l7, c7, rfl, r7, f7, e11⟩)
      refine hK.out _ _ ⟨cell_on e11 hHeld.1, cell_on e11 hHeld.2.1, cell_on e11 hHeld.2.2.1, cell_on e11 hHeld.2.2.2.1, cell_on e11 hHeld.2.2.2.2.1, cell_on e11 hHeld.2.2.2.2.2.1, also hHeld.2.2.2.2.2.2 e11⟩ (fun hHeld => ?_)
      clear hK Kc
      have n_r7_0_pd : NA pd d7 l7 := f7 pd lpd trivial
      replace q1 := q1.below e11
      replace x2 := x2.below e11
      replace h3 := h3.below e11
      replace h4 := h4.below e11
      replace hh := hh.below e11
      replace x_a := x_a.on e11
      replace x_x := x_x.on e11
      replace x_f := x_f.on e11
      replace x_n := x_n.on e11
      replace x_h := x_h.on e11
      replace BB := also BB e11
      replace BU := also BU e11
      replace y_pd := y_pd.on e11
      replace lpd := Nat.lt_of_lt_of_le lpd e11.size
      refine take_call (i := 2) rfl (by kernel_rfl) (fun Kc hK => ?_)
      go_simp
      (go_at_call 25; refine (rwLong 1 _ (by decide) (by decide)).mono ?_; rintro e X12 ⟨s8, d8, l8, c8, rfl, r8, f8, e12⟩)
      refine hK.out _ _ ⟨cell_on e12 hHeld.1, cell_on e12 hHeld.2.1, cell_on e12 hHeld.2.2.1, cell_on e12 hHeld.2.2.2.1, cell_on e12 hHeld.2.2.2.2.1, cell_on e12 hHeld.2.2.2.2.2.1, also hHeld.2.2.2.2.2.2 e12⟩ (fun hHeld => ?_)
      clear hK Kc
      have n_r8_0_pd : NA pd d8 l8 := f8 pd lpd trivial
      replace q1 := q1.below e12
      replace x2 := x2.below e12
      replace h3 := h3.below e12
      replace h4 := h4.below e12
      replace hh := hh.below e12
      replace r7 := r7.below e12
      replace x_a := x_a.on e12
      replace x_x := x_x.on e12
      replace x_f := x_f.on e12
      replace x_n := x_n.on e12
      replace x_h := x_h.on e12
      replace BB := also BB e12
      replace BU := also BU e12
      replace y_pd := y_pd.on e12
      replace lpd := Nat.lt_of_lt_of_le lpd e12.size
      refine take_yes (i := 3) (v := ?vfb3x5) rfl (by kernel_rfl) (by kernel_rfl) (by kernel_rfl) (fun _ _ _ h => by rw [HQQ.out] at h; exact Exit.noConfusion h.1) (by rfl) (by assumption) ?hyfb3x5 ?restfb3x5
      case hyfb3x5 => (intro w hSw; (try dsimp only at hSw); first | (go_simp; done) | (go_simp; with_reducible rfl))
      simp only [Act.put, List.setIfInBounds_toArray, List.set_cons_zero, List.set_cons_succ]
      refine take_call (i := 5) rfl (by kernel_rfl) (fun Kc hK => ?_)
      go_simp
      (go_at_call 13; refine (rqSub s7 d7 l7 c7 s8 d8 l8 c8 M 1 s2 d2 l2 c2 t2 g2 h2 k2 (pN Z y1) (pD y1) 9 _ ⟨r7, r8, by decide, HMs.out, by decide +kernel, by decide⟩ (x2.more (by decide) (by decide)) (by decide) N1 D1 HN1.out HD1.out).mono ?_; rintro e X13 ⟨s9, d9, l9, c9, t9, g9, h9, k9, rfl, x9, r9, e13⟩)
      refine hK.out _ _ ⟨cell_on e13 hHeld.1, cell_on e13 hHeld.2.1, cell_on e13 hHeld.2.2.1, cell_on e13 hHeld.2.2.2.1, cell_on e13 hHeld.2.2.2.2.1, cell_on e13 hHeld.2.2.2.2.2.1, also hHeld.2.2.2.2.2.2 e13⟩ (fun hHeld => ?_)
      clear hK Kc
      have n_x9_0_pd : NA pd d9 l9 := (r9 pd lpd trivial).1
      have n_x9_1_pd : NA pd g9 h9 := (r9 pd lpd trivial).2
      replace q1 := q1.below e13
      replace x2 := x2.below e13
      replace h3 := h3.below e13
      replace h4 := h4.below e13
      replace hh := hh.below e13
      replace r7 := r7.below e13
      replace r8 := r8.below e13
      replace x_a := x_a.on e13
      replace x_x := x_x.on e13
      replace x_f := x_f.on e13
      replace x_n := x_n.on e13
      replace x_h := x_h.on e13
      replace BB := also BB e13
      replace BU := also BU e13
      replace y_pd := y_pd.on e13
      replace lpd := Nat.lt_of_lt_of_le lpd e13.size
      have ⟨c_pd_0, c_pd_1, c_pd_2, c_pd_3, c_pd_4, c_pd_5, c_pd_6, c_pd_7⟩ : B4 X13 pd (.int .i64 0) (.slice none 0 0) (.int .i64 0) (.slice none 0 0) := y_pd
      refine take_call (i := 7) rfl (by kernel_rfl) (fun Kc hK => ?_)
      go_simp
      refine hK.out _ _ ⟨cell_put4 hHeld.1 (by omega) _ _ _ _, cell_put4 hHeld.2.1 (by omega) _ _ _ _, cell_put4 hHeld.2.2.1 (by omega) _ _ _ _, cell_put4 hHeld.2.2.2.1 (by omega) _ _ _ _, cell_put4 hHeld.2.2.2.2.1 (by omega) _ _ _ _, cell_put4 hHeld.2.2.2.2.2.1 (by omega) _ _ _ _, below_put4 hHeld.2.2.2.2.2.2 (by omega) _ _ _ _⟩ (fun hHeld => ?_)
      clear hK Kc
      refine wpAnyH_done (by kernel_rfl) ?_ _
      rw [HQQ.out]
      exact ⟨rfl, pd, s7, d7, l7, c7, s8, d8, l8, c8, s9, d9, l9, c9, t9, g9, h9, k9, rfl, ((((q1.put n_q1_0_pd n_q1_1_pd 0 _).put n_q1_0_pd n_q1_1_pd 1 _).put n_q1_0_pd n_q1_1_pd 2 _).put n_q1_0_pd n_q1_1_pd 3 _), ((((x2.put n_x2_0_pd n_x2_1_pd 0 _).put n_x2_0_pd n_x2_1_pd 1 _).put n_x2_0_pd n_x2_1_pd 2 _).put n_x2_0_pd n_x2_1_pd 3 _), ((((h3.put n_h3_0_pd 0 _).put n_h3_0_pd 1 _).put n_h3_0_pd 2 _).put n_h3_0_pd 3 _), ((((h4.put n_h4_0_pd 0 _).put n_h4_0_pd 1 _).put n_h4_0_pd 2 _).put n_h4_0_pd 3 _), ((((hh.put n_hh_0_pd n_hh_1_pd 0 _).put n_hh_0_pd n_hh_1_pd 1 _).put n_hh_0_pd n_hh_1_pd 2 _).put n_hh_0_pd n_hh_1_pd 3 _), ((((r7.put n_r7_0_pd 0 _).put n_r7_0_pd 1 _).put n_r7_0_pd 2 _).put n_r7_0_pd 3 _), ((((r8.put n_r8_0_pd 0 _).put n_r8_0_pd 1 _).put n_r8_0_pd 2 _).put n_r8_0_pd 3 _), ((((x9.put n_x9_0_pd n_x9_1_pd 0 _).put n_x9_0_pd n_x9_1_pd 1 _).put n_x9_0_pd n_x9_1_pd 2 _).put n_x9_0_pd n_x9_1_pd 3 _), ((((x_a.put (by omega)).put (by omega)).put (by omega)).put (by omega)), ((((x_x.put (by omega)).put (by omega)).put (by omega)).put (by omega)), ((((x_f.put (by omega)).put (by omega)).put (by omega)).put (by omega)), ((((x_n.put (by omega)).put (by omega)).put (by omega)).put (by omega)), ((((x_h.put (by omega)).put (by omega)).put (by omega)).put (by omega)), y_pd.set, (below_put4 BB (by omega) _ _ _ _), by have := BU.size; simp only [World.size_setCell]; omega, ⟨gpd, by simp only [World.size_setCell]; omega⟩⟩
  rw [HQQ.out]
  rintro e act Y2 ⟨rfl, pd, s7, d7, l7, c7, s8, d8, l8, c8, s9, d9, l9, c9, t9, g9, h9, k9, rfl, q1, x2, h3, h4, hh, r7, r8, x9, x_a, x_x, x_f, x_n, x_h, x_dd, BB, z_Y2, z_Y2_pd⟩
  clear HQQ QQ
  dsimp only
  clear r7 r8
  go_wp2
  obtain ⟨QQ, hQQ⟩ : ∃ QQ : Exit → Act → World → Prop, QQ = fun e act wr => e = .normal ∧ ∃ (pe : Nat) (s10 : Int) (d10 : Option Addr) (l10 c10 : Nat) (s11 : Int) (d11 : Option Addr) (l11 c11 : Nat) (s12 : Int) (d12 : Option Addr) (l12 c12 : Nat) (t12 : Int) (g12 : Option Addr) (h12 k12 : Nat), act = ⟨#[.agg #[.bool n, .slice a la ca, .slice d ld cd], .pointer (some ⟨w.heap.size, 0, none⟩), .bool false, .pointer (some ⟨w2.heap.size, 0, none⟩), .pointer (some ⟨p, 0, none⟩), .pointer (some ⟨q, 0, none⟩), .pointer (some ⟨w6.heap.size, 0, none⟩), .pointer (some ⟨pd, 0, none⟩), .pointer (some ⟨pe, 0, none⟩), .agg #[.bool n, .slice a la ca, .slice d ld cd], .agg #[.bool n, .slice a1 m1 c1, .slice d1 k1 g1], .agg #[.bool n, .slice a1 m1 c1, .slice d1 k1 g1], .agg #[.int .i64 s2, .slice d2 l2 c2, .int .i64 t2, .slice g2 h2 k2], .agg #[.bool n, .slice a1 m1 c1, .slice d1 k1 g1], .agg #[.bool n3, .slice a3 l3 c3], .agg #[.bool n, .slice a1 m1 c1, .slice d1 k1 g1], .agg #[.bool n4, .slice a4 l4 c4], .agg #[.int .i64 s5, .slice d5 l5 c5], .agg #[.int .i64 s6, .slice d6 l6 c6], .agg #[.int .i64 s5, .slice d5 l5 c5, .int .i64 s6, .slice d6 l6 c6], .agg #[.bool n4, .slice a4 l4 c4], .agg #[.int .i64 s7, .slice d7 l7 c7], .agg #[.int .i64 s8, .slice d8 l8 c8], .agg #[.int .i64 s7, .slice d7 l7 c7, .int .i64 s8, .slice d8 l8 c8], .agg #[.int .i64 s2, .slice d2 l2 c2, .int .i64 t2, .slice g2 h2 k2], .agg #[.int .i64 s9, .slice d9 l9 c9, .int .i64 t9, .slice g9 h9 k9], .agg #[.int .i64 s2, .slice d2 l2 c2, .int .i64 t2, .slice g2 h2 k2], .agg #[.bool n3, .slice a3 l3 c3], .agg #[.int .i64 s10, .slice d10 l10 c10], .agg #[.int .i64 s11, .slice d11 l11 c11], .agg #[.int .i64 s10, .slice d10 l10 c10, .int .i64 s11, .slice d11 l11 c11], .agg #[.int .i64 s12, .slice d12 l12 c12, .int .i64 t12, .slice g12 h12 k12], undef, undef, undef, undef, undef, undef, undef, undef, undef, undef, undef, undef, undef, undef, undef, undef, undef, undef, undef, undef, undef, undef, undef, undef, undef, undef, undef, undef, undef, undef, undef, undef, undef, undef, undef, undef, undef, undef], []⟩ ∧ QI wr 6 n a1 m1 c1 d1 k1 g1 Z y1 ∧ RQ wr 6 s2 d2 l2 c2 t2 g2 h2 k2 (pN Z y1) (pD y1) ∧ WN wr n3 a3 l3 c3 F ∧ WN wr n4 a4 l4 c4 M ∧ RQ wr 19 s5 d5 l5 c5 s6 d6 l6 c6 1 2 ∧ RQ wr 19 s9 d9 l9 c9 t9 g9 h9 k9 N1 D1 ∧ RN wr s10 d10 l10 c10 F ∧ RN wr s11 d11 l11 c11 1 ∧ RQ wr 19 s12 d12 l12 c12 t12 g12 h12 k12 N2 D2 ∧ B3 wr (w.heap.size) (.bool n) (.slice a1 m1 c1) (.slice d1 k1 g1) ∧ B4 wr (w2.heap.size) (.int .i64 s2) (.slice d2 l2 c2) (.int .i64 t2) (.slice g2 h2 k2) ∧ Bx wr (p) (.bool n3) (.slice a3 l3 c3) ∧ Bx wr (q) (.bool n4) (.slice a4 l4 c4) ∧ B4 wr (w6.heap.size) (.int .i64 s5) (.slice d5 l5 c5) (.int .i64 s6) (.slice d6 l6 c6) ∧ B4 wr (pd) (.int .i64 s9) (.slice d9 l9 c9) (.int .i64 t9) (.slice g9 h9 k9) ∧ B4 wr pe (.int .i64 s12) (.slice d12 l12 c12) (.int .i64 t12) (.slice g12 h12 k12) ∧ Below w.heap.size w wr ∧ Y2.heap.size ≤ wr.heap.size ∧ (Y2.heap.size ≤ pe ∧ pe < wr.heap.size) := ⟨_, rfl⟩
  have HQQ : Hid _ := hQQ
  clear hQQ
  refine wp_mono (Q := QQ) ?_ ?_
  · refine wp_region_held_drew (S := (fun w' => w'.cell? ⟨w2.heap.size, 0, none⟩ = some (.int .i64 s2) ∧ w'.cell? ⟨w2.heap.size, 1, none⟩ = some (.slice d2 l2 c2) ∧ w'.cell? ⟨w2.heap.size, 2, none⟩ = some (.int .i64 t2) ∧ w'.cell? ⟨w2.heap.size, 3, none⟩ = some (.slice g2 h2 k2) ∧ w'.cell? ⟨p, 0, none⟩ = some (.bool n3) ∧ w'.cell? ⟨p, 1, none⟩ = some (.slice a3 l3 c3) ∧ Below w.heap.size w w')) (by kernel_rfl) ?_ (fun hHeld => ?_)
    · exact ⟨x_x.c0, x_x.c1, x_x.c2, x_x.c3, x_f.c0, x_f.c1, BB.drew⟩
    refine take_yes (i := 0) (v := ?vfc0x1) rfl (by kernel_rfl) (by kernel_rfl) (by kernel_rfl) (fun _ _ _ h => by rw [HQQ.out] at h; exact Exit.noConfusion h.1) (by rfl) (by assumption) ?hyfc0x1 ?restfc0x1
    case hyfc0x1 => (intro w hSw; (try dsimp only at hSw); first | (go_simp; done) | (go_simp; with_reducible rfl))
    simp only [Act.put, List.setIfInBounds_toArray, List.set_cons_zero, List.set_cons_succ]
    refine take_yes (i := 1) (v := ?vfc1x2) rfl (by kernel_rfl) (by kernel_rfl) (by kernel_rfl) (fun _ _ _ h => by rw [HQQ.out] at h; exact Exit.noConfusion h.1) (by rfl) (by assumption) ?hyfc1x2 ?restfc1x2
    case hyfc1x2 => (intro w hSw; (try dsimp only at hSw); first | (go_simp; done) | (go_simp; with_reducible rfl))
    simp only [Act.put, List.setIfInBounds_toArray, List.set_cons_zero, List.set_cons_succ]
    have b0 : Below Y2.heap.size Y2 Y2.drew := (Below.refl _ _).drew
    have BU := b0
    generalize Y2.drew = X0 at b0 BU hHeld ⊢
    replace q1 := q1.below b0
    replace x2 := x2.below b0
    replace h3 := h3.below b0
    replace h4 := h4.below b0
    replace hh := hh.below b0
    replace x9 := x9.below b0
    replace x_a := x_a.on b0
    replace x_x := x_x.on b0
    replace x_f := x_f.on b0
    replace x_n := x_n.on b0
    replace x_h := x_h.on b0
    replace x_dd := x_dd.on b0
    replace BB := also BB b0
    refine wpAnyH_ready (rs := [2, 6]) (by kernel_rfl) (by simp) (AllReadyH.cons (i := 2) rfl (fun Kc hK => ?_) (AllReadyH.cons (i := 6) rfl (fun Kc hK => ?_) AllReadyH.nil))
    · skip
      go_simp
      (go_at_call 26; refine (rwOf n3 a3 l3 c3 F _ (h3.wi 9 (by decide) HFs.out)).mono ?_; rintro e X1 ⟨s10, d10, l10, c10, rfl, r10, f10, e1⟩)
      refine hK.out _ _ ⟨cell_on e1 hHeld.1, cell_on e1 hHeld.2.1, cell_on e1 hHeld.2.2.1, cell_on e1 hHeld.2.2.2.1, cell_on e1 hHeld.2.2.2.2.1, cell_on e1 hHeld.2.2.2.2.2.1, also hHeld.2.2.2.2.2.2 e1⟩ (fun hHeld => ?_)
      clear hK Kc
      replace q1 := q1.below e1
      replace x2 := x2.below e1
      replace h3 := h3.below e1
      replace h4 := h4.below e1
      replace hh := hh.below e1
      replace x9 := x9.below e1
      replace x_a := x_a.on e1
      replace x_x := x_x.on e1
      replace x_f := x_f.on e1
      replace x_n := x_n.on e1
      replace x_h := x_h.on e1
      replace x_dd := x_dd.on e1
      replace BB := also BB e1
      replace BU := also BU e1
      refine wpAnyH_ready (rs := [3, 6]) (by kernel_rfl) (by simp) (AllReadyH.cons (i := 3) rfl (fun Kc hK => ?_) (AllReadyH.cons (i := 6) rfl (fun Kc hK => ?_) AllReadyH.nil))
      · skip
        go_simp
        (go_at_call 25; refine (rwLong 1 _ (by decide) (by decide)).mono ?_; rintro e X2 ⟨s11, d11, l11, c11, rfl, r11, f11, e2⟩)
        refine hK.out _ _ ⟨cell_on e2 hHeld.1, cell_on e2 hHeld.2.1, cell_on e2 hHeld.2.2.1, cell_on e2 hHeld.2.2.2.1, cell_on e2 hHeld.2.2.2.2.1, cell_on e2 hHeld.2.2.2.2.2.1, also hHeld.2.2.2.2.2.2 e2⟩ (fun hHeld => ?_)
        clear hK Kc
        replace q1 := q1.below e2
        replace x2 := x2.below e2
        replace h3 := h3.below e2
        replace h4 := h4.below e2
        replace hh := hh.below e2
        replace x9 := x9.below e2
        replace r10 := r10.below e2
        replace x_a := x_a.on e2
        replace x_x := x_x.on e2
        replace x_f := x_f.on e2
        replace x_n := x_n.on e2
        replace x_h := x_h.on e2
        replace x_dd := x_dd.on e2
        replace BB := also BB e2
        replace BU := also BU e2
        refine take_yes (i := 4) (v := ?vfc4x3) rfl (by kernel_rfl) (by kernel_rfl) (by kernel_rfl) (fun _ _ _ h => by rw [HQQ.out] at h; exact Exit.noConfusion h.1) (by rfl) (by assumption) ?hyfc4x3 ?restfc4x3
        case hyfc4x3 => (intro w hSw; (try dsimp only at hSw); first | (go_simp; done) | (go_simp; with_reducible rfl))
        simp only [Act.put, List.setIfInBounds_toArray, List.set_cons_zero, List.set_cons_succ]
        refine wpAnyH_ready (rs := [5, 6]) (by kernel_rfl) (by simp) (AllReadyH.cons (i := 5) rfl (fun Kc hK => ?_) (AllReadyH.cons (i := 6) rfl (fun Kc hK => ?_) AllReadyH.nil))
        · skip
          go_simp
          (go_at_call 13; refine (rqSub s2 d2 l2 c2 t2 g2 h2 k2 (pN Z y1) (pD y1) s10 d10 l10 c10 s11 d11 l11 c11 F 1 9 _ (x2.more (by decide) (by decide)) ⟨r10, r11, by decide, HFs.out, by decide +kernel, by decide⟩ (by decide) N2 D2 HN2.out HD2.out).mono ?_; rintro e X3 ⟨s12, d12, l12, c12, t12, g12, h12, k12, rfl, x12, r12, e3⟩)
          refine hK.out _ _ ⟨cell_on e3 hHeld.1, cell_on e3 hHeld.2.1, cell_on e3 hHeld.2.2.1, cell_on e3 hHeld.2.2.2.1, cell_on e3 hHeld.2.2.2.2.1, cell_on e3 hHeld.2.2.2.2.2.1, also hHeld.2.2.2.2.2.2 e3⟩ (fun hHeld => ?_)
          clear hK Kc
          replace q1 := q1.below e3
          replace x2 := x2.below e3
          replace h3 := h3.below e3
          replace h4 := h4.below e3
          replace hh := hh.below e3
          replace x9 := x9.below e3
          replace r10 := r10.below e3
          replace r11 := r11.below e3
          replace x_a := x_a.on e3
          replace x_x := x_x.on e3
          replace x_f := x_f.on e3
          replace x_n := x_n.on e3
          replace x_h := x_h.on e3
          replace x_dd := x_dd.on e3
          replace BB := also BB e3
          replace BU := also BU e3
          refine take_call (i := 6) rfl (by kernel_rfl) (fun Kc hK => ?_)
          go_simp
          refine hK.out _ _ ⟨cell_on ((Below.refl _ _).alloc (Nat.le_refl _) _) hHeld.1, cell_on ((Below.refl _ _).alloc (Nat.le_refl _) _) hHeld.2.1, cell_on ((Below.refl _ _).alloc (Nat.le_refl _) _) hHeld.2.2.1, cell_on ((Below.refl _ _).alloc (Nat.le_refl _) _) hHeld.2.2.2.1, cell_on ((Below.refl _ _).alloc (Nat.le_refl _) _) hHeld.2.2.2.2.1, cell_on ((Below.refl _ _).alloc (Nat.le_refl _) _) hHeld.2.2.2.2.2.1, also hHeld.2.2.2.2.2.2 ((Below.refl _ _).alloc (Nat.le_refl _) _)⟩ (fun hHeld => ?_)
          clear hK Kc
          have y_pe := b4_new X3 (.int .i64 0) (.slice none 0 0) (.int .i64 0) (.slice none 0 0) 34
          have e4 : Below X3.heap.size X3 (X3.alloc (.cells #[.int .i64 0, .slice none 0 0, .int .i64 0, .slice none 0 0] 34)) := (Below.refl _ _).alloc (Nat.le_refl _) _
          have lpe : X3.heap.size < (X3.alloc (.cells #[.int .i64 0, .slice none 0 0, .int .i64 0, .slice none 0 0] 34)).heap.size := by simp
          have gpe : Y2.heap.size ≤ X3.heap.size := BU.size
          have n_q1_0_pe : NA X3.heap.size a1 m1 := q1.wi.ni.sl.na (Nat.le_refl _)
          have n_q1_1_pe : NA X3.heap.size d1 k1 := q1.ni.sl.na (Nat.le_refl _)
          have n_x2_0_pe : NA X3.heap.size d2 l2 := x2.rn.hd.sl.na (Nat.le_refl _)
          have n_x2_1_pe : NA X3.heap.size g2 h2 := x2.rd.hd.sl.na (Nat.le_refl _)
          have n_h3_0_pe : NA X3.heap.size a3 l3 := h3.nd.sl.na (Nat.le_refl _)
          have n_h4_0_pe : NA X3.heap.size a4 l4 := h4.nd.sl.na (Nat.le_refl _)
          have n_hh_0_pe : NA X3.heap.size d5 l5 := hh.rn.hd.sl.na (Nat.le_refl _)
          have n_hh_1_pe : NA X3.heap.size d6 l6 := hh.rd.hd.sl.na (Nat.le_refl _)
          have n_x9_0_pe : NA X3.heap.size d9 l9 := x9.rn.hd.sl.na (Nat.le_refl _)
          have n_x9_1_pe : NA X3.heap.size g9 h9 := x9.rd.hd.sl.na (Nat.le_refl _)
          have n_r10_0_pe : NA X3.heap.size d10 l10 := r10.hd.sl.na (Nat.le_refl _)
          have n_r11_0_pe : NA X3.heap.size d11 l11 := r11.hd.sl.na (Nat.le_refl _)
          have n_x12_0_pe : NA X3.heap.size d12 l12 := x12.rn.hd.sl.na (Nat.le_refl _)
          have n_x12_1_pe : NA X3.heap.size g12 h12 := x12.rd.hd.sl.na (Nat.le_refl _)
          generalize X3.alloc (.cells #[.int .i64 0, .slice none 0 0, .int .i64 0, .slice none 0 0] 34) = X4 at y_pe e4 lpe hHeld ⊢
          replace q1 := q1.below e4
          replace x2 := x2.below e4
          replace h3 := h3.below e4
          replace h4 := h4.below e4
          replace hh := hh.below e4
          replace x9 := x9.below e4
          replace r10 := r10.below e4
          replace r11 := r11.below e4
          replace x12 := x12.below e4
          replace x_a := x_a.on e4
          replace x_x := x_x.on e4
          replace x_f := x_f.on e4
          replace x_n := x_n.on e4
          replace x_h := x_h.on e4
          replace x_dd := x_dd.on e4
          replace BB := also BB e4
          replace BU := also BU e4
          generalize X3.heap.size = pe at y_pe lpe gpe n_q1_0_pe n_q1_1_pe n_x2_0_pe n_x2_1_pe n_h3_0_pe n_h4_0_pe n_hh_0_pe n_hh_1_pe n_x9_0_pe n_x9_1_pe n_r10_0_pe n_r11_0_pe n_x12_0_pe n_x12_1_pe ⊢
          have ⟨c_pe_0, c_pe_1, c_pe_2, c_pe_3, c_pe_4, c_pe_5, c_pe_6, c_pe_7⟩ : B4 X4 pe (.int .i64 0) (.slice none 0 0) (.int .i64 0) (.slice none 0 0) := y_pe
          refine take_call (i := 7) rfl (by kernel_rfl) (fun Kc hK => ?_)
          go_simp
          refine hK.out _ _ ⟨cell_put4 hHeld.1 (by omega) _ _ _ _, cell_put4 hHeld.2.1 (by omega) _ _ _ _, cell_put4 hHeld.2.2.1 (by omega) _ _ _ _, cell_put4 hHeld.2.2.2.1 (by omega) _ _ _ _, cell_put4 hHeld.2.2.2.2.1 (by omega) _ _ _ _, cell_put4 hHeld.2.2.2.2.2.1 (by omega) _ _ _ _, below_put4 hHeld.2.2.2.2.2.2 (by omega) _ _ _ _⟩ (fun hHeld => ?_)
          clear hK Kc
          refine wpAnyH_done (by kernel_rfl) ?_ _
          rw [HQQ.out]
          exact ⟨rfl, pe, s10, d10, l10, c10, s11, d11, l11, c11, s12, d12, l12, c12, t12, g12, h12, k12, rfl, ((((q1.put n_q1_0_pe n_q1_1_pe 0 _).put n_q1_0_pe n_q1_1_pe 1 _).put n_q1_0_pe n_q1_1_pe 2 _).put n_q1_0_pe n_q1_1_pe 3 _), ((((x2.put n_x2_0_pe n_x2_1_pe 0 _).put n_x2_0_pe n_x2_1_pe 1 _).put n_x2_0_pe n_x2_1_pe 2 _).put n_x2_0_pe n_x2_1_pe 3 _), ((((h3.put n_h3_0_pe 0 _).put n_h3_0_pe 1 _).put n_h3_0_pe 2 _).put n_h3_0_pe 3 _), ((((h4.put n_h4_0_pe 0 _).put n_h4_0_pe 1 _).put n_h4_0_pe 2 _).put n_h4_0_pe 3 _), ((((hh.put n_hh_0_pe n_hh_1_pe 0 _).put n_hh_0_pe n_hh_1_pe 1 _).put n_hh_0_pe n_hh_1_pe 2 _).put n_hh_0_pe n_hh_1_pe 3 _), ((((x9.put n_x9_0_pe n_x9_1_pe 0 _).put n_x9_0_pe n_x9_1_pe 1 _).put n_x9_0_pe n_x9_1_pe 2 _).put n_x9_0_pe n_x9_1_pe 3 _), ((((r10.put n_r10_0_pe 0 _).put n_r10_0_pe 1 _).put n_r10_0_pe 2 _).put n_r10_0_pe 3 _), ((((r11.put n_r11_0_pe 0 _).put n_r11_0_pe 1 _).put n_r11_0_pe 2 _).put n_r11_0_pe 3 _), ((((x12.put n_x12_0_pe n_x12_1_pe 0 _).put n_x12_0_pe n_x12_1_pe 1 _).put n_x12_0_pe n_x12_1_pe 2 _).put n_x12_0_pe n_x12_1_pe 3 _), ((((x_a.put (by omega)).put (by omega)).put (by omega)).put (by omega)), ((((x_x.put (by omega)).put (by omega)).put (by omega)).put (by omega)), ((((x_f.put (by omega)).put (by omega)).put (by omega)).put (by omega)), ((((x_n.put (by omega)).put (by omega)).put (by omega)).put (by omega)), ((((x_h.put (by omega)).put (by omega)).put (by omega)).put (by omega)), ((((x_dd.put (by omega)).put (by omega)).put (by omega)).put (by omega)), y_pe.set, (below_put4 BB (by omega) _ _ _ _), by have := BU.size; simp only [World.size_setCell]; omega, ⟨gpe, by simp only [World.size_setCell]; omega⟩⟩
        · skip
          go_simp
          refine hK.out _ _ ⟨cell_on ((Below.refl _ _).alloc (Nat.le_refl _) _) hHeld.1, cell_on ((Below.refl _ _).alloc (Nat.le_refl _) _) hHeld.2.1, cell_on ((Below.refl _ _).alloc (Nat.le_refl _) _) hHeld.2.2.1, cell_on ((Below.refl _ _).alloc (Nat.le_refl _) _) hHeld.2.2.2.1, cell_on ((Below.refl _ _).alloc (Nat.le_refl _) _) hHeld.2.2.2.2.1, cell_on ((Below.refl _ _).alloc (Nat.le_refl _) _) hHeld.2.2.2.2.2.1, also hHeld.2.2.2.2.2.2 ((Below.refl _ _).alloc (Nat.le_refl _) _)⟩ (fun hHeld => ?_)
          clear hK Kc
          have y_pe := b4_new X2 (.int .i64 0) (.slice none 0 0) (.int .i64 0) (.slice none 0 0) 34
          have e5 : Below X2.heap.size X2 (X2.alloc (.cells #[.int .i64 0, .slice none 0 0, .int .i64 0, .slice none 0 0] 34)) := (Below.refl _ _).alloc (Nat.le_refl _) _
          have lpe : X2.heap.size < (X2.alloc (.cells #[.int .i64 0, .slice none 0 0, .int .i64 0, .slice none 0 0] 34)).heap.size := by simp
          have gpe : Y2.heap.size ≤ X2.heap.size := BU.size
          have n_q1_0_pe : NA X2.heap.size a1 m1 := q1.wi.ni.sl.na (Nat.le_refl _)
          have n_q1_1_pe : NA X2.heap.size d1 k1 := q1.ni.sl.na (Nat.le_refl _)
          have n_x2_0_pe : NA X2.heap.size d2 l2 := x2.rn.hd.sl.na (Nat.le_refl _)
          have n_x2_1_pe : NA X2.heap.size g2 h2 := x2.rd.hd.sl.na (Nat.le_refl _)
          have n_h3_0_pe : NA X2.heap.size a3 l3 := h3.nd.sl.na (Nat.le_refl _)
          have n_h4_0_pe : NA X2.heap.size a4 l4 := h4.nd.sl.na (Nat.le_refl _)
          have n_hh_0_pe : NA X2.heap.size d5 l5 := hh.rn.hd.sl.na (Nat.le_refl _)
          have n_hh_1_pe : NA X2.heap.size d6 l6 := hh.rd.hd.sl.na (Nat.le_refl _)
          have n_x9_0_pe : NA X2.heap.size d9 l9 := x9.rn.hd.sl.na (Nat.le_refl _)
          have n_x9_1_pe : NA X2.heap.size g9 h9 := x9.rd.hd.sl.na (Nat.le_refl _)
          have n_r10_0_pe : NA X2.heap.size d10 l10 := r10.hd.sl.na (Nat.le_refl _)
          have n_r11_0_pe : NA X2.heap.size d11 l11 := r11.hd.sl.na (Nat.le_refl _)
          generalize X2.alloc (.cells #[.int .i64 0, .slice none 0 0, .int .i64 0, .slice none 0 0] 34) = X5 at y_pe e5 lpe hHeld ⊢
          replace q1 := q1.below e5
          replace x2 := x2.below e5
          replace h3 := h3.below e5
          replace h4 := h4.below e5
          replace hh := hh.below e5
          replace x9 := x9.below e5
          replace r10 := r10.below e5
          replace r11 := r11.below e5
          replace x_a := x_a.on e5
          replace x_x := x_x.on e5
          replace x_f := x_f.on e5
          replace x_n := x_n.on e5
          replace x_h := x_h.on e5
          replace x_dd := x_dd.on e5
          replace BB := also BB e5
          replace BU := also BU e5
          generalize X2.heap.size = pe at y_pe lpe gpe n_q1_0_pe n_q1_1_pe n_x2_0_pe n_x2_1_pe n_h3_0_pe n_h4_0_pe n_hh_0_pe n_hh_1_pe n_x9_0_pe n_x9_1_pe n_r10_0_pe n_r11_0_pe ⊢
          refine take_call (i := 5) rfl (by kernel_rfl) (fun Kc hK => ?_)
          go_simp
          (go_at_call 13; refine (rqSub s2 d2 l2 c2 t2 g2 h2 k2 (pN Z y1) (pD y1) s10 d10 l10 c10 s11 d11 l11 c11 F 1 9 _ (x2.more (by decide) (by decide)) ⟨r10, r11, by decide, HFs.out, by decide +kernel, by decide⟩ (by decide) N2 D2 HN2.out HD2.out).mono ?_; rintro e X6 ⟨s12, d12, l12, c12, t12, g12, h12, k12, rfl, x12, r12, e6⟩)
          refine hK.out _ _ ⟨cell_on e6 hHeld.1, cell_on e6 hHeld.2.1, cell_on e6 hHeld.2.2.1, cell_on e6 hHeld.2.2.2.1, cell_on e6 hHeld.2.2.2.2.1, cell_on e6 hHeld.2.2.2.2.2.1, also hHeld.2.2.2.2.2.2 e6⟩ (fun hHeld => ?_)
          clear hK Kc
          have n_x12_0_pe : NA pe d12 l12 := (r12 pe lpe trivial).1
          have n_x12_1_pe : NA pe g12 h12 := (r12 pe lpe trivial).2
          replace q1 := q1.below e6
          replace x2 := x2.below e6
          replace h3 := h3.below e6
          replace h4 := h4.below e6
          replace hh := hh.below e6
          replace x9 := x9.below e6
          replace r10 := r10.below e6
          replace r11 := r11.below e6
          replace x_a := x_a.on e6
          replace x_x := x_x.on e6
          replace x_f := x_f.on e6
          replace x_n := x_n.on e6
          replace x_h := x_h.on e6
          replace x_dd := x_dd.on e6
          replace BB := also BB e6
          replace BU := also BU e6
          replace y_pe := y_pe.on e6
          replace lpe := Nat.lt_of_lt_of_le lpe e6.size
          have ⟨c_pe_0, c_pe_1, c_pe_2, c_pe_3, c_pe_4, c_pe_5, c_pe_6, c_pe_7⟩ : B4 X6 pe (.int .i64 0) (.slice none 0 0) (.int .i64 0) (.slice none 0 0) := y_pe
          refine take_call (i := 7) rfl (by kernel_rfl) (fun Kc hK => ?_)
          go_simp
          refine hK.out _ _ ⟨cell_put4 hHeld.1 (by omega) _ _ _ _, cell_put4 hHeld.2.1 (by omega) _ _ _ _, cell_put4 hHeld.2.2.1 (by omega) _ _ _ _, cell_put4 hHeld.2.2.2.1 (by omega) _ _ _ _, cell_put4 hHeld.2.2.2.2.1 (by omega) _ _ _ _, cell_put4 hHeld.2.2.2.2.2.1 (by omega) _ _ _ _, below_put4 hHeld.2.2.2.2.2.2 (by omega) _ _ _ _⟩ (fun hHeld => ?_)
          clear hK Kc
          refine wpAnyH_done (by kernel_rfl) ?_ _
          rw [HQQ.out]
          exact ⟨rfl, pe, s10, d10, l10, c10, s11, d11, l11, c11, s12, d12, l12, c12, t12, g12, h12, k12, rfl, ((((q1.put n_q1_0_pe n_q1_1_pe 0 _).put n_q1_0_pe n_q1_1_pe 1 _).put n_q1_0_pe n_q1_1_pe 2 _).put n_q1_0_pe n_q1_1_pe 3 _), ((((x2.put n_x2_0_pe n_x2_1_pe 0 _).put n_x2_0_pe n_x2_1_pe 1 _).put n_x2_0_pe n_x2_1_pe 2 _).put n_x2_0_pe n_x2_1_pe 3 _), ((((h3.put n_h3_0_pe 0 _).put n_h3_0_pe 1 _).put n_h3_0_pe 2 _).put n_h3_0_pe 3 _), ((((h4.put n_h4_0_pe 0 _).put n_h4_0_pe 1 _).put n_h4_0_pe 2 _).put n_h4_0_pe 3 _), ((((hh.put n_hh_0_pe n_hh_1_pe 0 _).put n_hh_0_pe n_hh_1_pe 1 _).put n_hh_0_pe n_hh_1_pe 2 _).put n_hh_0_pe n_hh_1_pe 3 _), ((((x9.put n_x9_0_pe n_x9_1_pe 0 _).put n_x9_0_pe n_x9_1_pe 1 _).put n_x9_0_pe n_x9_1_pe 2 _).put n_x9_0_pe n_x9_1_pe 3 _), ((((r10.put n_r10_0_pe 0 _).put n_r10_0_pe 1 _).put n_r10_0_pe 2 _).put n_r10_0_pe 3 _), ((((r11.put n_r11_0_pe 0 _).put n_r11_0_pe 1 _).put n_r11_0_pe 2 _).put n_r11_0_pe 3 _), ((((x12.put n_x12_0_pe n_x12_1_pe 0 _).put n_x12_0_pe n_x12_1_pe 1 _).put n_x12_0_pe n_x12_1_pe 2 _).put n_x12_0_pe n_x12_1_pe 3 _), ((((x_a.put (by omega)).put (by omega)).put (by omega)).put (by omega)), ((((x_x.put (by omega)).put (by omega)).put (by omega)).put (by omega)), ((((x_f.put (by omega)).put (by omega)).put (by omega)).put (by omega)), ((((x_n.put (by omega)).put (by omega)).put (by omega)).put (by omega)), ((((x_h.put (by omega)).put (by omega)).put (by omega)).put (by omega)), ((((x_dd.put (by omega)).put (by omega)).put (by omega)).put (by omega)), y_pe.set, (below_put4 BB (by omega) _ _ _ _), by have := BU.size; simp only [World.size_setCell]; omega, ⟨gpe, by simp only [World.size_setCell]; omega⟩⟩
      · skip
        go_simp
        refine hK.out _ _ ⟨cell_on ((Below.refl _ _).alloc (Nat.le_refl _) _) hHeld.1, cell_on ((Below.refl _ _).alloc (Nat.le_refl _) _) hHeld.2.1, cell_on ((Below.refl _ _).alloc (Nat.le_refl _) _) hHeld.2.2.1, cell_on ((Below.refl _ _).alloc (Nat.le_refl _) _) hHeld.2.2.2.1, cell_on ((Below.refl _ _).alloc (Nat.le_refl _) _) hHeld.2.2.2.2.1, cell_on ((Below.refl _ _).alloc (Nat.le_refl _) _) hHeld.2.2.2.2.2.1, also hHeld.2.2.2.2.2.2 ((Below.refl _ _).alloc (Nat.le_refl _) _)⟩ (fun hHeld => ?_)
        clear hK Kc
        have y_pe := b4_new X1 (.int .i64 0) (.slice none 0 0) (.int .i64 0) (.slice none 0 0) 34
        have e7 : Below X1.heap.size X1 (X1.alloc (.cells #[.int .i64 0, .slice none 0 0, .int .i64 0, .slice none 0 0] 34)) := (Below.refl _ _).alloc (Nat.le_refl _) _
        have lpe : X1.heap.size < (X1.alloc (.cells #[.int .i64 0, .slice none 0 0, .int .i64 0, .slice none 0 0] 34)).heap.size := by simp
        have gpe : Y2.heap.size ≤ X1.heap.size := BU.size
        have n_q1_0_pe : NA X1.heap.size a1 m1 := q1.wi.ni.sl.na (Nat.le_refl _)
        have n_q1_1_pe : NA X1.heap.size d1 k1 := q1.ni.sl.na (Nat.le_refl _)
        have n_x2_0_pe : NA X1.heap.size d2 l2 := x2.rn.hd.sl.na (Nat.le_refl _)
        have n_x2_1_pe : NA X1.heap.size g2 h2 := x2.rd.hd.sl.na (Nat.le_refl _)
        have n_h3_0_pe : NA X1.heap.size a3 l3 := h3.nd.sl.na (Nat.le_refl _)
        have n_h4_0_pe : NA X1.heap.size a4 l4 := h4.nd.sl.na (Nat.le_refl _)
        have n_hh_0_pe : NA X1.heap.size d5 l5 := hh.rn.hd.sl.na (Nat.le_refl _)
        have n_hh_1_pe : NA X1.heap.size d6 l6 := hh.rd.hd.sl.na (Nat.le_refl _)
        have n_x9_0_pe : NA X1.heap.size d9 l9 := x9.rn.hd.sl.na (Nat.le_refl _)
        have n_x9_1_pe : NA X1.heap.size g9 h9 := x9.rd.hd.sl.na (Nat.le_refl _)
        have n_r10_0_pe : NA X1.heap.size d10 l10 := r10.hd.sl.na (Nat.le_refl _)
        generalize X1.alloc (.cells #[.int .i64 0, .slice none 0 0, .int .i64 0, .slice none 0 0] 34) = X7 at y_pe e7 lpe hHeld ⊢
        replace q1 := q1.below e7
        replace x2 := x2.below e7
        replace h3 := h3.below e7
        replace h4 := h4.below e7
        replace hh := hh.below e7
        replace x9 := x9.below e7
        replace r10 := r10.below e7
        replace x_a := x_a.on e7
        replace x_x := x_x.on e7
        replace x_f := x_f.on e7
        replace x_n := x_n.on e7
        replace x_h := x_h.on e7
        replace x_dd := x_dd.on e7
        replace BB := also BB e7
        replace BU := also BU e7
        generalize X1.heap.size = pe at y_pe lpe gpe n_q1_0_pe n_q1_1_pe n_x2_0_pe n_x2_1_pe n_h3_0_pe n_h4_0_pe n_hh_0_pe n_hh_1_pe n_x9_0_pe n_x9_1_pe n_r10_0_pe ⊢
        refine take_call (i := 3) rfl (by kernel_rfl) (fun Kc hK => ?_)
        go_simp
        (go_at_call 25; refine (rwLong 1 _ (by decide) (by decide)).mono ?_; rintro e X8 ⟨s11, d11, l11, c11, rfl, r11, f11, e8⟩)
        refine hK.out _ _ ⟨cell_on e8 hHeld.1, cell_on e8 hHeld.2.1, cell_on e8 hHeld.2.2.1, cell_on e8 hHeld.2.2.2.1, cell_on e8 hHeld.2.2.2.2.1, cell_on e8 hHeld.2.2.2.2.2.1, also hHeld.2.2.2.2.2.2 e8⟩ (fun hHeld => ?_)
        clear hK Kc
        have n_r11_0_pe : NA pe d11 l11 := f11 pe lpe trivial
        replace q1 := q1.below e8
        replace x2 := x2.below e8
        replace h3 := h3.below e8
        replace h4 := h4.below e8
        replace hh := hh.below e8
        replace x9 := x9.below e8
        replace r10 := r10.below e8
        replace x_a := x_a.on e8
        replace x_x := x_x.on e8
        replace x_f := x_f.on e8
        replace x_n := x_n.on e8
        replace x_h := x_h.on e8
        replace x_dd := x_dd.on e8
        replace BB := also BB e8
        replace BU := also BU e8
        replace y_pe := y_pe.on e8
        replace lpe := Nat.lt_of_lt_of_le lpe e8.size
        refine take_yes (i := 4) (v := ?vfc4x4) rfl (by kernel_rfl) (by kernel_rfl) (by kernel_rfl) (fun _ _ _ h => by rw [HQQ.out] at h; exact Exit.noConfusion h.1) (by rfl) (by assumption) ?hyfc4x4 ?restfc4x4
        case hyfc4x4 => (intro w hSw; (try dsimp only at hSw); first | (go_simp; done) | (go_simp; with_reducible rfl))
        simp only [Act.put, List.setIfInBounds_toArray, List.set_cons_zero, List.set_cons_succ]
        refine take_call (i := 5) rfl (by kernel_rfl) (fun Kc hK => ?_)
        go_simp
        (go_at_call 13; refine (rqSub s2 d2 l2 c2 t2 g2 h2 k2 (pN Z y1) (pD y1) s10 d10 l10 c10 s11 d11 l11 c11 F 1 9 _ (x2.more (by decide) (by decide)) ⟨r10, r11, by decide, HFs.out, by decide +kernel, by decide⟩ (by decide) N2 D2 HN2.out HD2.out).mono ?_; rintro e X9 ⟨s12, d12, l12, c12, t12, g12, h12, k12, rfl, x12, r12, e9⟩)
        refine hK.out _ _ ⟨cell_on e9 hHeld.1, cell_on e9 hHeld.2.1, cell_on e9 hHeld.2.2.1, cell_on e9 hHeld.2.2.2.1, cell_on e9 hHeld.2.2.2.2.1, cell_on e9 hHeld.2.2.2.2.2.1, also hHeld.2.2.2.2.2.2 e9⟩ (fun hHeld => ?_)
        clear hK Kc
        have n_x12_0_pe : NA pe d12 l12 := (r12 pe lpe trivial).1
        have n_x12_1_pe : NA pe g12 h12 := (r12 pe lpe trivial).2
        replace q1 := q1.below e9
        replace x2 := x2.below e9
        replace h3 := h3.below e9
        replace h4 := h4.below e9
        replace hh := hh.below e9
        replace x9 := x9.below e9
        replace r10 := r10.below e9
        replace r11 := r11.below e9
        replace x_a := x_a.on e9
        replace x_x := x_x.on e9
        replace x_f := x_f.on e9
        replace x_n := x_n.on e9
        replace x_h := x_h.on e9
        replace x_dd := x_dd.on e9
        replace BB := also BB e9
        replace BU := also BU e9
        replace y_pe := y_pe.on e9
        replace lpe := Nat.lt_of_lt_of_le lpe e9.size
        have ⟨c_pe_0, c_pe_1, c_pe_2, c_pe_3, c_pe_4, c_pe_5, c_pe_6, c_pe_7⟩ : B4 X9 pe (.int .i64 0) (.slice none 0 0) (.int .i64 0) (.slice none 0 0) := y_pe
        refine take_call (i := 7) rfl (by kernel_rfl) (fun Kc hK => ?_)
        go_simp
        refine hK.out _ _ ⟨cell_put4 hHeld.1 (by omega) _ _ _ _, cell_put4 hHeld.2.1 (by omega) _ _ _ _, cell_put4 hHeld.2.2.1 (by omega) _ _ _ _, cell_put4 hHeld.2.2.2.1 (by omega) _ _ _ _, cell_put4 hHeld.2.2.2.2.1 (by omega) _ _ _ _, cell_put4 hHeld.2.2.2.2.2.1 (by omega) _ _ _ _, below_put4 hHeld.2.2.2.2.2.2 (by omega) _ _ _ _⟩ (fun hHeld => ?_)
        clear hK Kc
        refine wpAnyH_done (by kernel_rfl) ?_ _
        rw [HQQ.out]
        exact ⟨rfl, pe, s10, d10, l10, c10, s11, d11, l11, c11, s12, d12, l12, c12, t12, g12, h12, k12, rfl, ((((q1.put n_q1_0_pe n_q1_1_pe 0 _).put n_q1_0_pe n_q1_1_pe 1 _).put n_q1_0_pe n_q1_1_pe 2 _).put n_q1_0_pe n_q1_1_pe 3 _), ((((x2.put n_x2_0_pe n_x2_1_pe 0 _).put n_x2_0_pe n_x2_1_pe 1 _).put n_x2_0_pe n_x2_1_pe 2 _).put n_x2_0_pe n_x2_1_pe 3 _), ((((h3.put n_h3_0_pe 0 _).put n_h3_0_pe 1 _).put n_h3_0_pe 2 _).put n_h3_0_pe 3 _), ((((h4.put n_h4_0_pe 0 _).put n_h4_0_pe 1 _).put n_h4_0_pe 2 _).put n_h4_0_pe 3 _), ((((hh.put n_hh_0_pe n_hh_1_pe 0 _).put n_hh_0_pe n_hh_1_pe 1 _).put n_hh_0_pe n_hh_1_pe 2 _).put n_hh_0_pe n_hh_1_pe 3 _), ((((x9.put n_x9_0_pe n_x9_1_pe 0 _).put n_x9_0_pe n_x9_1_pe 1 _).put n_x9_0_pe n_x9_1_pe 2 _).put n_x9_0_pe n_x9_1_pe 3 _), ((((r10.put n_r10_0_pe 0 _).put n_r10_0_pe 1 _).put n_r10_0_pe 2 _).put n_r10_0_pe 3 _), ((((r11.put n_r11_0_pe 0 _).put n_r11_0_pe 1 _).put n_r11_0_pe 2 _).put n_r11_0_pe 3 _), ((((x12.put n_x12_0_pe n_x12_1_pe 0 _).put n_x12_0_pe n_x12_1_pe 1 _).put n_x12_0_pe n_x12_1_pe 2 _).put n_x12_0_pe n_x12_1_pe 3 _), ((((x_a.put (by omega)).put (by omega)).put (by omega)).put (by omega)), ((((x_x.put (by omega)).put (by omega)).put (by omega)).put (by omega)), ((((x_f.put (by omega)).put (by omega)).put (by omega)).put (by omega)), ((((x_n.put (by omega)).put (by omega)).put (by omega)).put (by omega)), ((((x_h.put (by omega)).put (by omega)).put (by omega)).put (by omega)), ((((x_dd.put (by omega)).put (by omega)).put (by omega)).put (by omega)), y_pe.set, (below_put4 BB (by omega) _ _ _ _), by have := BU.size; simp only [World.size_setCell]; omega, ⟨gpe, by simp only [World.size_setCell]; omega⟩⟩
    · skip
      go_simp
      refine hK.out _ _ ⟨cell_on ((Below.refl _ _).alloc (Nat.le_refl _) _) hHeld.1, cell_on ((Below.refl _ _).alloc (Nat.le_refl _) _) hHeld.2.1, cell_on ((Below.refl _ _).alloc (Nat.le_refl _) _) hHeld.2.2.1, cell_on ((Below.refl _ _).alloc (Nat.le_refl _) _) hHeld.2.2.2.1, cell_on ((Below.refl _ _).alloc (Nat.le_refl _) _) hHeld.2.2.2.2.1, cell_on ((Below.refl _ _).alloc (Nat.le_refl _) _) hHeld.2.2.2.2.2.1, also hHeld.2.2.2.2.2.2 ((Below.refl _ _).alloc (Nat.le_refl _) _)⟩ (fun hHeld => ?_)
      clear hK Kc
      have y_pe := b4_new X0 (.int .i64 0) (.slice none 0 0) (.int .i64 0) (.slice none 0 0) 34
      have e10 : Below X0.heap.size X0 (X0.alloc (.cells #[.int .i64 0, .slice none 0 0, .int .i64 0, .slice none 0 0] 34)) := (Below.refl _ _).alloc (Nat.le_refl _) _
      have lpe : X0.heap.size < (X0.alloc (.cells #[.int .i64 0, .slice none 0 0, .int .i64 0, .slice none 0 0] 34)).heap.size := by simp
      have gpe : Y2.heap.size ≤ X0.heap.size := BU.size
      have n_q1_0_pe : NA X0.heap.size a1 m1 := q1.wi.ni.sl.na (Nat.le_refl _)
      have n_q1_1_pe : NA X0.heap.size d1 k1 := q1.ni.sl.na (Nat.le_refl _)
      have n_x2_0_pe : NA X0.heap.size d2 l2 := x2.rn.hd.sl.na (Nat.le_refl _)
      have n_x2_1_pe : NA X0.heap.size g2 h2 := x2.rd.hd.sl.na (Nat.le_refl _)
      have n_h3_0_pe : NA X0.heap.size a3 l3 := h3.nd.sl.na (Nat.le_refl _)
      have n_h4_0_pe : NA X0.heap.size a4 l4 := h4.nd.sl.na (Nat.le_refl _)
      have n_hh_0_pe : NA X0.heap.size d5 l5 := hh.rn.hd.sl.na (Nat.le_refl _)
      have n_hh_1_pe : NA X0.heap.size d6 l6 := hh.rd.hd.sl.na (Nat.le_refl _)
      have n_x9_0_pe : NA X0.heap.size d9 l9 := x9.rn.hd.sl.na (Nat.le_refl _)
      have n_x9_1_pe : NA X0.heap.size g9 h9 := x9.rd.hd.sl.na (Nat.le_refl _)
      generalize X0.alloc (.cells #[.int .i64 0, .slice none 0 0, .int .i64 0, .slice none 0 0] 34) = X10 at y_pe e10 lpe hHeld ⊢
      replace q1 := q1.below e10
      replace x2 := x2.below e10
      replace h3 := h3.below e10
      replace h4 := h4.below e10
      replace hh := hh.below e10
      replace x9 := x9.below e10
      replace x_a := x_a.on e10
      replace x_x := x_x.on e10
      replace x_f := x_f.on e10
      replace x_n := x_n.on e10
      replace x_h := x_h.on e10
      replace x_dd := x_dd.on e10
      replace BB := also BB e10
      replace BU := also BU e10
      generalize X0.heap.size = pe at y_pe lpe gpe n_q1_0_pe n_q1_1_pe n_x2_0_pe n_x2_1_pe n_h3_0_pe n_h4_0_pe n_hh_0_pe n_hh_1_pe n_x9_0_pe n_x9_1_pe ⊢
      refine take_call (i := 2) rfl (by kernel_rfl) (fun Kc hK => ?_)
      go_simp
      (go_at_call 26; refine (rwOf n3 a3 l3 c3 F _ (h3.wi 9 (by decide) HFs.out)).mono ?_; rintro e X11 ⟨s10, d10, l10, c10, rfl, r10, f10, e11⟩)
      refine hK.out _ _ ⟨cell_on e11 hHeld.1, cell_on e11 hHeld.2.1, cell_on e11 hHeld.2.2.1, cell_on e11 hHeld.2.2.2.1, cell_on e11 hHeld.2.2.2.2.1, cell_on e11 hHeld.2.2.2.2.2.1, also hHeld.2.2.2.2.2.2 e11⟩ (fun hHeld => ?_)
      clear hK Kc
      have n_r10_0_pe : NA pe d10 l10 := f10 pe lpe trivial
      replace q1 := q1.below e11
      replace x2 := x2.below e11
      replace h3 := h3.below e11
      replace h4 := h4.below e11
      replace hh := hh.below e11
      replace x9 := x9.below e11
      replace x_a := x_a.on e11
      replace x_x := x_x.on e11
      replace x_f := x_f.on e11
      replace x_n := x_n.on e11
      replace x_h := x_h.on e11
      replace x_dd := x_dd.on e11
      replace BB := also BB e11
      replace BU := also BU e11
      replace y_pe := y_pe.on e11
      replace lpe := Nat.lt_of_lt_of_le lpe e11.size
      refine take_call (i := 3) rfl (by kernel_rfl) (fun Kc hK => ?_)
      go_simp
      (go_at_call 25; refine (rwLong 1 _ (by decide) (by decide)).mono ?_; rintro e X12 ⟨s11, d11, l11, c11, rfl, r11, f11, e12⟩)
      refine hK.out _ _ ⟨cell_on e12 hHeld.1, cell_on e12 hHeld.2.1, cell_on e12 hHeld.2.2.1, cell_on e12 hHeld.2.2.2.1, cell_on e12 hHeld.2.2.2.2.1, cell_on e12 hHeld.2.2.2.2.2.1, also hHeld.2.2.2.2.2.2 e12⟩ (fun hHeld => ?_)
      clear hK Kc
      have n_r11_0_pe : NA pe d11 l11 := f11 pe lpe trivial
      replace q1 := q1.below e12
      replace x2 := x2.below e12
      replace h3 := h3.below e12
      replace h4 := h4.below e12
      replace hh := hh.below e12
      replace x9 := x9.below e12
      replace r10 := r10.below e12
      replace x_a := x_a.on e12
      replace x_x := x_x.on e12
      replace x_f := x_f.on e12
      replace x_n := x_n.on e12
      replace x_h := x_h.on e12
      replace x_dd := x_dd.on e12
      replace BB := also BB e12
      replace BU := also BU e12
      replace y_pe := y_pe.on e12
      replace lpe := Nat.lt_of_lt_of_le lpe e12.size
      refine take_yes (i := 4) (v := ?vfc4x5) rfl (by kernel_rfl) (by kernel_rfl) (by kernel_rfl) (fun _ _ _ h => by rw [HQQ.out] at h; exact Exit.noConfusion h.1) (by rfl) (by assumption) ?hyfc4x5 ?restfc4x5
      case hyfc4x5 => (intro w hSw; (try dsimp only at hSw); first | (go_simp; done) | (go_simp; with_reducible rfl))
      simp only [Act.put, List.setIfInBounds_toArray, List.set_cons_zero, List.set_cons_succ]
      refine take_call (i := 5) rfl (by kernel_rfl) (fun Kc hK => ?_)
      go_simp
      (go_at_call 13; refine (rqSub s2 d2 l2 c2 t2 g2 h2 k2 (pN Z y1) (pD y1) s10 d10 l10 c10 s11 d11 l11 c11 F 1 9 _ (x2.more (by decide) (by decide)) ⟨r10, r11, by decide, HFs.out, by decide +kernel, by decide⟩ (by decide) N2 D2 HN2.out HD2.out).mono ?_; rintro e X13 ⟨s12, d12, l12, c12, t12, g12, h12, k12, rfl, x12, r12, e13⟩)
      refine hK.out _ _ ⟨cell_on e13 hHeld.1, cell_on e13 hHeld.2.1, cell_on e13 hHeld.2.2.1, cell_on e13 hHeld.2.2.2.1, cell_on e13 hHeld.2.2.2.2.1, cell_on e13 hHeld.2.2.2.2.2.1, also hHeld.2.2.2.2.2.2 e13⟩ (fun hHeld => ?_)
      clear hK Kc
      have n_x12_0_pe : NA pe d12 l12 := (r12 pe lpe trivial).1
      have n_x12_1_pe : NA pe g12 h12 := (r12 pe lpe trivial).2
      replace q1 := q1.below e13
      replace x2 := x2.below e13
      replace h3 := h3.below e13
      replace h4 := h4.below e13
      replace hh := hh.below e13
      replace x9 := x9.below e13
      replace r10 := r10.below e13
      replace r11 := r11.below e13
      replace x_a := x_a.on e13
      replace x_x := x_x.on e13
      replace x_f := x_f.on e13
      replace x_n := x_n.on e13
      replace x_h := x_h.on e13
      replace x_dd := x_dd.on e13
      replace BB := also BB e13
      replace BU := also BU e13
      replace y_pe := y_pe.on e13
      replace lpe := Nat.lt_of_lt_of_le lpe e13.size
      have ⟨c_pe_0, c_pe_1, c_pe_2, c_pe_3, c_pe_4, c_pe_5, c_pe_6, c_pe_7⟩ : B4 X13 pe (.int .i64 0) (.slice none 0 0) (.int .i64 0) (.slice none 0 0) := y_pe
      refine take_call (i := 7) rfl (by kernel_rfl) (fun Kc hK => ?_)
      go_simp
      refine hK.out _ _ ⟨cell_put4 hHeld.1 (by omega) _ _ _ _, cell_put4 hHeld.2.1 (by omega) _ _ _ _, cell_put4 hHeld.2.2.1 (by omega) _ _ _ _, cell_put4 hHeld.2.2.2.1 (by omega) _ _ _ _, cell_put4 hHeld.2.2.2.2.1 (by omega) _ _ _ _, cell_put4 hHeld.2.2.2.2.2.1 (by omega) _ _ _ _, below_put4 hHeld.2.2.2.2.2.2 (by omega) _ _ _ _⟩ (fun hHeld => ?_)
      clear hK Kc
      refine wpAnyH_done (by kernel_rfl) ?_ _
      rw [HQQ.out]
      exact ⟨rfl, pe, s10, d10, l10, c10, s11, d11, l11, c11, s12, d12, l12, c12, t12, g12, h12, k12, rfl, ((((q1.put n_q1_0_pe n_q1_1_pe 0 _).put n_q1_0_pe n_q1_1_pe 1 _).put n_q1_0_pe n_q1_1_pe 2 _).put n_q1_0_pe n_q1_1_pe 3 _), ((((x2.put n_x2_0_pe n_x2_1_pe 0 _).put n_x2_0_pe n_x2_1_pe 1 _).put n_x2_0_pe n_x2_1_pe 2 _).put n_x2_0_pe n_x2_1_pe 3 _), ((((h3.put n_h3_0_pe 0 _).put n_h3_0_pe 1 _).put n_h3_0_pe 2 _).put n_h3_0_pe 3 _), ((((h4.put n_h4_0_pe 0 _).put n_h4_0_pe 1 _).put n_h4_0_pe 2 _).put n_h4_0_pe 3 _), ((((hh.put n_hh_0_pe n_hh_1_pe 0 _).put n_hh_0_pe n_hh_1_pe 1 _).put n_hh_0_pe n_hh_1_pe 2 _).put n_hh_0_pe n_hh_1_pe 3 _), ((((x9.put n_x9_0_pe n_x9_1_pe 0 _).put n_x9_0_pe n_x9_1_pe 1 _).put n_x9_0_pe n_x9_1_pe 2 _).put n_x9_0_pe n_x9_1_pe 3 _), ((((r10.put n_r10_0_pe 0 _).put n_r10_0_pe 1 _).put n_r10_0_pe 2 _).put n_r10_0_pe 3 _), ((((r11.put n_r11_0_pe 0 _).put n_r11_0_pe 1 _).put n_r11_0_pe 2 _).put n_r11_0_pe 3 _), ((((x12.put n_x12_0_pe n_x12_1_pe 0 _).put n_x12_0_pe n_x12_1_pe 1 _).put n_x12_0_pe n_x12_1_pe 2 _).put n_x12_0_pe n_x12_1_pe 3 _), ((((x_a.put (by omega)).put (by omega)).put (by omega)).put (by omega)), ((((x_x.put (by omega)).put (by omega)).put (by omega)).put (by omega)), ((((x_f.put (by omega)).put (by omega)).put (by omega)).put (by omega)), ((((x_n.put (by omega)).put (by omega)).put (by omega)).put (by omega)), ((((x_h.put (by omega)).put (by omega)).put (by omega)).put (by omega)), ((((x_dd.put (by omega)).put (by omega)).put (by omega)).put (by omega)), y_pe.set, (below_put4 BB (by omega) _ _ _ _), by have := BU.size; simp only [World.size_setCell]; omega, ⟨gpe, by simp only [World.size_setCell]; omega⟩⟩
  rw [HQQ.out]
  rintro e act Y3 ⟨rfl, pe, s10, d10, l10, c10, s11, d11, l11, c11, s12, d12, l12, c12, t12, g12, h12, k12, rfl, q1, x2, h3, h4, hh, x9, r10, r11, x12, x_a, x_x, x_f, x_n, x_h, x_dd, x_ee, BB, z_Y3, z_Y3_pe⟩
  clear HQQ QQ
  dsimp only
  clear r10 r11
  have nr1 := T1.out
  have nr2 := T2.out
  have nr4 := T4.out
  have nr3 : 0 ≤ s12 := by rw [x12.rn.sg]; exact T3.out
  go_wp2
  have dd1 : Below Y3.heap.size Y3 Y3.drew := (Below.refl _ _).drew
  have zdd1 := dd1.size
  replace BB := also BB dd1
  replace x_a := x_a.on dd1
  replace q1 := q1.below dd1
  replace x2 := x2.below dd1
  replace x_x := x_x.on dd1
  replace h3 := h3.below dd1
  replace h4 := h4.below dd1
  replace x_f := x_f.on dd1
  replace x_n := x_n.on dd1
  replace x_h := x_h.on dd1
  replace hh := hh.below dd1
  replace x9 := x9.below dd1
  replace x_dd := x_dd.on dd1
  replace x12 := x12.below dd1
  replace x_ee := x_ee.on dd1
  refine wp_region_held_drew (S := (fun w' => w'.cell? ⟨p, 0, none⟩ = some (.bool n3) ∧ w'.cell? ⟨p, 1, none⟩ = some (.slice a3 l3 c3) ∧ w'.cell? ⟨w2.heap.size, 0, none⟩ = some (.int .i64 s2) ∧ w'.cell? ⟨w2.heap.size, 1, none⟩ = some (.slice d2 l2 c2) ∧ w'.cell? ⟨w2.heap.size, 2, none⟩ = some (.int .i64 t2) ∧ w'.cell? ⟨w2.heap.size, 3, none⟩ = some (.slice g2 h2 k2) ∧ w'.cell? ⟨q, 0, none⟩ = some (.bool n4) ∧ w'.cell? ⟨q, 1, none⟩ = some (.slice a4 l4 c4) ∧ w'.cell? ⟨pd, 0, none⟩ = some (.int .i64 s9) ∧ w'.cell? ⟨pd, 1, none⟩ = some (.slice d9 l9 c9) ∧ w'.cell? ⟨pd, 2, none⟩ = some (.int .i64 t9) ∧ w'.cell? ⟨pd, 3, none⟩ = some (.slice g9 h9 k9) ∧ w'.cell? ⟨w6.heap.size, 0, none⟩ = some (.int .i64 s5) ∧ w'.cell? ⟨w6.heap.size, 1, none⟩ = some (.slice d5 l5 c5) ∧ w'.cell? ⟨w6.heap.size, 2, none⟩ = some (.int .i64 s6) ∧ w'.cell? ⟨w6.heap.size, 3, none⟩ = some (.slice d6 l6 c6) ∧ w'.cell? ⟨pe, 0, none⟩ = some (.int .i64 s12) ∧ w'.cell? ⟨pe, 1, none⟩ = some (.slice d12 l12 c12) ∧ w'.cell? ⟨pe, 2, none⟩ = some (.int .i64 t12) ∧ w'.cell? ⟨pe, 3, none⟩ = some (.slice g12 h12 k12) ∧ Below w.heap.size w w')) (by kernel_rfl) ?_ (fun hHeld => ?_)
  · first | exact ⟨x_f.c0, x_f.c1, x_x.c0, x_x.c1, x_x.c2, x_x.c3, x_n.c0, x_n.c1, x_dd.c0, x_dd.c1, x_dd.c2, x_dd.c3, x_h.c0, x_h.c1, x_h.c2, x_h.c3, x_ee.c0, x_ee.c1, x_ee.c2, x_ee.c3, BB⟩ | exact ⟨cell_on bw36 hHeld.1, cell_on bw36 hHeld.2.1, cell_on bw36 hHeld.2.2.1, cell_on bw36 hHeld.2.2.2.1, cell_on bw36 hHeld.2.2.2.2.1, cell_on bw36 hHeld.2.2.2.2.2.1, cell_on bw36 hHeld.2.2.2.2.2.2.1, cell_on bw36 hHeld.2.2.2.2.2.2.2.1, cell_on bw36 hHeld.2.2.2.2.2.2.2.2.1, cell_on bw36 hHeld.2.2.2.2.2.2.2.2.2.1, cell_on bw36 hHeld.2.2.2.2.2.2.2.2.2.2.1, cell_on bw36 hHeld.2.2.2.2.2.2.2.2.2.2.2.1, cell_on bw36 hHeld.2.2.2.2.2.2.2.2.2.2.2.2.1, cell_on bw36 hHeld.2.2.2.2.2.2.2.2.2.2.2.2.2.1, cell_on bw36 hHeld.2.2.2.2.2.2.2.2.2.2.2.2.2.2.1, cell_on bw36 hHeld.2.2.2.2.2.2.2.2.2.2.2.2.2.2.2.1, cell_on bw36 hHeld.2.2.2.2.2.2.2.2.2.2.2.2.2.2.2.2.1, cell_on bw36 hHeld.2.2.2.2.2.2.2.2.2.2.2.2.2.2.2.2.2.1, cell_on bw36 hHeld.2.2.2.2.2.2.2.2.2.2.2.2.2.2.2.2.2.2.1, cell_on bw36 hHeld.2.2.2.2.2.2.2.2.2.2.2.2.2.2.2.2.2.2.2.1, also hHeld.2.2.2.2.2.2.2.2.2.2.2.2.2.2.2.2.2.2.2.2 bw36⟩ | exact ⟨cell_on bw32 hHeld.1, cell_on bw32 hHeld.2.1, cell_on bw32 hHeld.2.2.1, cell_on bw32 hHeld.2.2.2.1, cell_on bw32 hHeld.2.2.2.2.1, cell_on bw32 hHeld.2.2.2.2.2.1, cell_on bw32 hHeld.2.2.2.2.2.2.1, cell_on bw32 hHeld.2.2.2.2.2.2.2.1, cell_on bw32 hHeld.2.2.2.2.2.2.2.2.1, cell_on bw32 hHeld.2.2.2.2.2.2.2.2.2.1, cell_on bw32 hHeld.2.2.2.2.2.2.2.2.2.2.1, cell_on bw32 hHeld.2.2.2.2.2.2.2.2.2.2.2.1, cell_on bw32 hHeld.2.2.2.2.2.2.2.2.2.2.2.2.1, cell_on bw32 hHeld.2.2.2.2.2.2.2.2.2.2.2.2.2.1, cell_on bw32 hHeld.2.2.2.2.2.2.2.2.2.2.2.2.2.2.1, cell_on bw32 hHeld.2.2.2.2.2.2.2.2.2.2.2.2.2.2.2.1, cell_on bw32 hHeld.2.2.2.2.2.2.2.2.2.2.2.2.2.2.2.2.1, cell_on bw32 hHeld.2.2.2.2.2.2.2.2.2.2.2.2.2.2.2.2.2.1, cell_on bw32 hHeld.2.2.2.2.2.2.2.2.2.2.2.2.2.2.2.2.2.2.1, cell_on bw32 hHeld.2.2.2.2.2.2.2.2.2.2.2.2.2.2.2.2.2.2.2.1, also hHeld.2.2.2.2.2.2.2.2.2.2.2.2.2.2.2.2.2.2.2.2 bw32⟩ | exact ⟨cell_on bw31 hHeld.1, cell_on bw31 hHeld.2.1, cell_on bw31 hHeld.2.2.1, cell_on bw31 hHeld.2.2.2.1, cell_on bw31 hHeld.2.2.2.2.1, cell_on bw31 hHeld.2.2.2.2.2.1, cell_on bw31 hHeld.2.2.2.2.2.2.1, cell_on bw31 hHeld.2.2.2.2.2.2.2.1, cell_on bw31 hHeld.2.2.2.2.2.2.2.2.1, cell_on bw31 hHeld.2.2.2.2.2.2.2.2.2.1, cell_on bw31 hHeld.2.2.2.2.2.2.2.2.2.2.1, cell_on bw31 hHeld.2.2.2.2.2.2.2.2.2.2.2.1, cell_on bw31 hHeld.2.2.2.2.2.2.2.2.2.2.2.2.1, cell_on bw31 hHeld.2.2.2.2.2.2.2.2.2.2.2.2.2.1, cell_on bw31 hHeld.2.2.2.2.2.2.2.2.2.2.2.2.2.2.1, cell_on bw31 hHeld.2.2.2.2.2.2.2.2.2.2.2.2.2.2.2.1, cell_on bw31 hHeld.2.2.2.2.2.2.2.2.2.2.2.2.2.2.2.2.1, cell_on bw31 hHeld.2.2.2.2.2.2.2.2.2.2.2.2.2.2.2.2.2.1, cell_on bw31 hHeld.2.2.2.2.2.2.2.2.2.2.2.2.2.2.2.2.2.2.1, cell_on bw31 hHeld.2.2.2.2.2.2.2.2.2.2.2.2.2.2.2.2.2.2.2.1, also hHeld.2.2.2.2.2.2.2.2.2.2.2.2.2.2.2.2.2.2.2.2 bw31⟩ | exact ⟨cell_on bw21 hHeld.1, cell_on bw21 hHeld.2.1, cell_on bw21 hHeld.2.2.1, cell_on bw21 hHeld.2.2.2.1, cell_on bw21 hHeld.2.2.2.2.1, cell_on bw21 hHeld.2.2.2.2.2.1, cell_on bw21 hHeld.2.2.2.2.2.2.1, cell_on bw21 hHeld.2.2.2.2.2.2.2.1, cell_on bw21 hHeld.2.2.2.2.2.2.2.2.1, cell_on bw21 hHeld.2.2.2.2.2.2.2.2.2.1, cell_on bw21 hHeld.2.2.2.2.2.2.2.2.2.2.1, cell_on bw21 hHeld.2.2.2.2.2.2.2.2.2.2.2.1, cell_on bw21 hHeld.2.2.2.2.2.2.2.2.2.2.2.2.1, cell_on bw21 hHeld.2.2.2.2.2.2.2.2.2.2.2.2.2.1, cell_on bw21 hHeld.2.2.2.2.2.2.2.2.2.2.2.2.2.2.1, cell_on bw21 hHeld.2.2.2.2.2.2.2.2.2.2.2.2.2.2.2.1, cell_on bw21 hHeld.2.2.2.2.2.2.2.2.2.2.2.2.2.2.2.2.1, cell_on bw21 hHeld.2.2.2.2.2.2.2.2.2.2.2.2.2.2.2.2.2.1, cell_on bw21 hHeld.2.2.2.2.2.2.2.2.2.2.2.2.2.2.2.2.2.2.1, cell_on bw21 hHeld.2.2.2.2.2.2.2.2.2.2.2.2.2.2.2.2.2.2.2.1, also hHeld.2.2.2.2.2.2.2.2.2.2.2.2.2.2.2.2.2.2.2.2 bw21⟩ | exact ⟨cell_on bw20 hHeld.1, cell_on bw20 hHeld.2.1, cell_on bw20 hHeld.2.2.1, cell_on bw20 hHeld.2.2.2.1, cell_on bw20 hHeld.2.2.2.2.1, cell_on bw20 hHeld.2.2.2.2.2.1, cell_on bw20 hHeld.2.2.2.2.2.2.1, cell_on bw20 hHeld.2.2.2.2.2.2.2.1, cell_on bw20 hHeld.2.2.2.2.2.2.2.2.1, cell_on bw20 hHeld.2.2.2.2.2.2.2.2.2.1, cell_on bw20 hHeld.2.2.2.2.2.2.2.2.2.2.1, cell_on bw20 hHeld.2.2.2.2.2.2.2.2.2.2.2.1, cell_on bw20 hHeld.2.2.2.2.2.2.2.2.2.2.2.2.1, cell_on bw20 hHeld.2.2.2.2.2.2.2.2.2.2.2.2.2.1, cell_on bw20 hHeld.2.2.2.2.2.2.2.2.2.2.2.2.2.2.1, cell_on bw20 hHeld.2.2.2.2.2.2.2.2.2.2.2.2.2.2.2.1, cell_on bw20 hHeld.2.2.2.2.2.2.2.2.2.2.2.2.2.2.2.2.1, cell_on bw20 hHeld.2.2.2.2.2.2.2.2.2.2.2.2.2.2.2.2.2.1, cell_on bw20 hHeld.2.2.2.2.2.2.2.2.2.2.2.2.2.2.2.2.2.2.1, cell_on bw20 hHeld.2.2.2.2.2.2.2.2.2.2.2.2.2.2.2.2.2.2.2.1, also hHeld.2.2.2.2.2.2.2.2.2.2.2.2.2.2.2.2.2.2.2.2 bw20⟩ | exact ⟨cell_on bw17 hHeld.1, cell_on bw17 hHeld.2.1, cell_on bw17 hHeld.2.2.1, cell_on bw17 hHeld.2.2.2.1, cell_on bw17 hHeld.2.2.2.2.1, cell_on bw17 hHeld.2.2.2.2.2.1, cell_on bw17 hHeld.2.2.2.2.2.2.1, cell_on bw17 hHeld.2.2.2.2.2.2.2.1, cell_on bw17 hHeld.2.2.2.2.2.2.2.2.1, cell_on bw17 hHeld.2.2.2.2.2.2.2.2.2.1, cell_on bw17 hHeld.2.2.2.2.2.2.2.2.2.2.1, cell_on bw17 hHeld.2.2.2.2.2.2.2.2.2.2.2.1, cell_on bw17 hHeld.2.2.2.2.2.2.2.2.2.2.2.2.1, cell_on bw17 hHeld.2.2.2.2.2.2.2.2.2.2.2.2.2.1, cell_on bw17 hHeld.2.2.2.2.2.2.2.2.2.2.2.2.2.2.1, cell_on bw17 hHeld.2.2.2.2.2.2.2.2.2.2.2.2.2.2.2.1, cell_on bw17 hHeld.2.2.2.2.2.2.2.2.2.2.2.2.2.2.2.2.1, cell_on bw17 hHeld.2.2.2.2.2.2.2.2.2.2.2.2.2.2.2.2.2.1, cell_on bw17 hHeld.2.2.2.2.2.2.2.2.2.2.2.2.2.2.2.2.2.2.1, cell_on bw17 hHeld.2.2.2.2.2.2.2.2.2.2.2.2.2.2.2.2.2.2.2.1, also hHeld.2.2.2.2.2.2.2.2.2.2.2.2.2.2.2.2.2.2.2.2 bw17⟩ | exact ⟨cell_on bw16 hHeld.1, cell_on bw16 hHeld.2.1, cell_on bw16 hHeld.2.2.1, cell_on bw16 hHeld.2.2.2.1, cell_on bw16 hHeld.2.2.2.2.1, cell_on bw16 hHeld.2.2.2.2.2.1, cell_on bw16 hHeld.2.2.2.2.2.2.1, cell_on bw16 hHeld.2.2.2.2.2.2.2.1, cell_on bw16 hHeld.2.2.2.2.2.2.2.2.1, cell_on bw16 hHeld.2.2.2.2.2.2.2.2.2.1, cell_on bw16 hHeld.2.2.2.2.2.2.2.2.2.2.1, cell_on bw16 hHeld.2.2.2.2.2.2.2.2.2.2.2.1, cell_on bw16 hHeld.2.2.2.2.2.2.2.2.2.2.2.2.1, cell_on bw16 hHeld.2.2.2.2.2.2.2.2.2.2.2.2.2.1, cell_on bw16 hHeld.2.2.2.2.2.2.2.2.2.2.2.2.2.2.1, cell_on bw16 hHeld.2.2.2.2.2.2.2.2.2.2.2.2.2.2.2.1, cell_on bw16 hHeld.2.2.2.2.2.2.2.2.2.2.2.2.2.2.2.2.1, cell_on bw16 hHeld.2.2.2.2.2.2.2.2.2.2.2.2.2.2.2.2.2.1, cell_on bw16 hHeld.2.2.2.2.2.2.2.2.2.2.2.2.2.2.2.2.2.2.1, cell_on bw16 hHeld.2.2.2.2.2.2.2.2.2.2.2.2.2.2.2.2.2.2.2.1, also hHeld.2.2.2.2.2.2.2.2.2.2.2.2.2.2.2.2.2.2.2.2 bw16⟩ | exact ⟨cell_on bw15 hHeld.1, cell_on bw15 hHeld.2.1, cell_on bw15 hHeld.2.2.1, cell_on bw15 hHeld.2.2.2.1, cell_on bw15 hHeld.2.2.2.2.1, cell_on bw15 hHeld.2.2.2.2.2.1, cell_on bw15 hHeld.2.2.2.2.2.2.1, cell_on bw15 hHeld.2.2.2.2.2.2.2.1, cell_on bw15 hHeld.2.2.2.2.2.2.2.2.1, cell_on bw15 hHeld.2.2.2.2.2.2.2.2.2.1, cell_on bw15 hHeld.2.2.2.2.2.2.2.2.2.2.1, cell_on bw15 hHeld.2.2.2.2.2.2.2.2.2.2.2.1, cell_on bw15 hHeld.2.2.2.2.2.2.2.2.2.2.2.2.1, cell_on bw15 hHeld.2.2.2.2.2.2.2.2.2.2.2.2.2.1, cell_on bw15 hHeld.2.2.2.2.2.2.2.2.2.2.2.2.2.2.1, cell_on bw15 hHeld.2.2.2.2.2.2.2.2.2.2.2.2.2.2.2.1, cell_on bw15 hHeld.2.2.2.2.2.2.2.2.2.2.2.2.2.2.2.2.1, cell_on bw15 hHeld.2.2.2.2.2.2.2.2.2.2.2.2.2.2.2.2.2.1, cell_on bw15 hHeld.2.2.2.2.2.2.2.2.2.2.2.2.2.2.2.2.2.2.1, cell_on bw15 hHeld.2.2.2.2.2.2.2.2.2.2.2.2.2.2.2.2.2.2.2.1, also hHeld.2.2.2.2.2.2.2.2.2.2.2.2.2.2.2.2.2.2.2.2 bw15⟩ | exact ⟨cell_on bw14 hHeld.1, cell_on bw14 hHeld.2.1, cell_on bw14 hHeld.2.2.1, cell_on bw14 hHeld.2.2.2.1, cell_on bw14 hHeld.2.2.2.2.1, cell_on bw14 hHeld.2.2.2.2.2.1, cell_on bw14 hHeld.2.2.2.2.2.2.1, cell_on bw14 hHeld.2.2.2.2.2.2.2.1, cell_on bw14 hHeld.2.2.2.2.2.2.2.2.1, cell_on bw14 hHeld.2.2.2.2.2.2.2.2.2.1, cell_on bw14 hHeld.2.2.2.2.2.2.2.2.2.2.1, cell_on bw14 hHeld.2.2.2.2.2.2.2.2.2.2.2.1, cell_on bw14 hHeld.2.2.2.2.2.2.2.2.2.2.2.2.1, cell_on bw14 hHeld.2.2.2.2.2.2.2.2.2.2.2.2.2.1, cell_on bw14 hHeld.2.2.2.2.2.2.2.2.2.2.2.2.2.2.1, cell_on bw14 hHeld.2.2.2.2.2.2.2.2.2.2.2.2.2.2.2.1, cell_on bw14 hHeld.2.2.2.2.2.2.2.2.2.2.2.2.2.2.2.2.1, cell_on bw14 hHeld.2.2.2.2.2.2.2.2.2.2.2.2.2.2.2.2.2.1, cell_on bw14 hHeld.2.2.2.2.2.2.2.2.2.2.2.2.2.2.2.2.2.2.1, cell_on bw14 hHeld.2.2.2.2.2.2.2.2.2.2.2.2.2.2.2.2.2.2.2.1, also hHeld.2.2.2.2.2.2.2.2.2.2.2.2.2.2.2.2.2.2.2.2 bw14⟩ | exact ⟨cell_on bw13 hHeld.1, cell_on bw13 hHeld.2.1, cell_on bw13 hHeld.2.2.1, cell_on bw13 hHeld.2.2.2.1, cell_on bw13 hHeld.2.2.2.2.1, cell_on bw13 hHeld.2.2.2.2.2.1, cell_on bw13 hHeld.2.2.2.2.2.2.1, cell_on bw13 hHeld.2.2.2.2.2.2.2.1, cell_on bw13 hHeld.2.2.2.2.2.2.2.2.1, cell_on bw13 hHeld.2.2.2.2.2.2.2.2.2.1, cell_on bw13 hHeld.2.2.2.2.2.2.2.2.2.2.1, cell_on bw13 hHeld.2.2.2.2.2.2.2.2.2.2.2.1, cell_on bw13 hHeld.2.2.2.2.2.2.2.2.2.2.2.2.1, cell_on bw13 hHeld.2.2.2.2.2.2.2.2.2.2.2.2.2.1, cell_on bw13 hHeld.2.2.2.2.2.2.2.2.2.2.2.2.2.2.1, cell_on bw13 hHeld.2.2.2.2.2.2.2.2.2.2.2.2.2.2.2.1, cell_on bw13 hHeld.2.2.2.2.2.2.2.2.2.2.2.2.2.2.2.2.1, cell_on bw13 hHeld.2.2.2.2.2.2.2.2.2.2.2.2.2.2.2.2.2.1, cell_on bw13 hHeld.2.2.2.2.2.2.2.2.2.2.2.2.2.2.2.2.2.2.1, cell_on bw13 hHeld.2.2.2.2.2.2.2.2.2.2.2.2.2.2.2.2.2.2.2.1, also hHeld.2.2.2.2.2.2.2.2.2.2.2.2.2.2.2.2.2.2.2.2 bw13⟩
  refine take_yes (i := 0) (v := ?vw0) rfl (by kernel_rfl) (by kernel_rfl) (by kernel_rfl) (fun _ _ _ h => h) (by rfl) (by assumption) ?hyw0 ?restw0
  case hyw0 => (intro w hSw; (try dsimp only at hSw); first | (go_simp; done) | (go_simp; with_reducible rfl))
  simp only [Act.put, List.setIfInBounds_toArray, List.set_cons_zero, List.set_cons_succ]
  refine take_yes (i := 1) (v := ?vw1) rfl (by kernel_rfl) (by kernel_rfl) (by kernel_rfl) (fun _ _ _ h => h) (by rfl) (by assumption) ?hyw1 ?restw1
  case hyw1 => (intro w hSw; (try dsimp only at hSw); first | (go_simp; done) | (go_simp; with_reducible rfl))
  simp only [Act.put, List.setIfInBounds_toArray, List.set_cons_zero, List.set_cons_succ]
  refine take_call (i := 2) rfl (by kernel_rfl) (fun Kc hK => ?_)
  go_simp
  (go_at_call 28; refine (rqFloor s2 d2 l2 c2 t2 g2 h2 k2 (pN Z y1) (pD y1) 6 _ x2 (by decide) F HF.out).mono ?_; rintro e w13 ⟨s13, d13, l13, c13, rfl, r13, f13, bw13⟩)
  refine hK.out _ _ ?_ (fun hHeld => ?_)
  · first | exact ⟨x_f.c0, x_f.c1, x_x.c0, x_x.c1, x_x.c2, x_x.c3, x_n.c0, x_n.c1, x_dd.c0, x_dd.c1, x_dd.c2, x_dd.c3, x_h.c0, x_h.c1, x_h.c2, x_h.c3, x_ee.c0, x_ee.c1, x_ee.c2, x_ee.c3, BB⟩ | exact ⟨cell_on bw36 hHeld.1, cell_on bw36 hHeld.2.1, cell_on bw36 hHeld.2.2.1, cell_on bw36 hHeld.2.2.2.1, cell_on bw36 hHeld.2.2.2.2.1, cell_on bw36 hHeld.2.2.2.2.2.1, cell_on bw36 hHeld.2.2.2.2.2.2.1, cell_on bw36 hHeld.2.2.2.2.2.2.2.1, cell_on bw36 hHeld.2.2.2.2.2.2.2.2.1, cell_on bw36 hHeld.2.2.2.2.2.2.2.2.2.1, cell_on bw36 hHeld.2.2.2.2.2.2.2.2.2.2.1, cell_on bw36 hHeld.2.2.2.2.2.2.2.2.2.2.2.1, cell_on bw36 hHeld.2.2.2.2.2.2.2.2.2.2.2.2.1, cell_on bw36 hHeld.2.2.2.2.2.2.2.2.2.2.2.2.2.1, cell_on bw36 hHeld.2.2.2.2.2.2.2.2.2.2.2.2.2.2.1, cell_on bw36 hHeld.2.2.2.2.2.2.2.2.2.2.2.2.2.2.2.1, cell_on bw36 hHeld.2.2.2.2.2.2.2.2.2.2.2.2.2.2.2.2.1, cell_on bw36 hHeld.2.2.2.2.2.2.2.2.2.2.2.2.2.2.2.2.2.1, cell_on bw36 hHeld.2.2.2.2.2.2.2.2.2.2.2.2.2.2.2.2.2.2.1, cell_on bw36 hHeld.2.2.2.2.2.2.2.2.2.2.2.2.2.2.2.2.2.2.2.1, also hHeld.2.2.2.2.2.2.2.2.2.2.2.2.2.2.2.2.2.2.2.2 bw36⟩ | exact ⟨cell_on bw32 hHeld.1, cell_on bw32 hHeld.2.1, cell_on bw32 hHeld.2.2.1, cell_on bw32 hHeld.2.2.2.1, cell_on bw32 hHeld.2.2.2.2.1, cell_on bw32 hHeld.2.2.2.2.2.1, cell_on bw32 hHeld.2.2.2.2.2.2.1, cell_on bw32 hHeld.2.2.2.2.2.2.2.1, cell_on bw32 hHeld.2.2.2.2.2.2.2.2.1, cell_on bw32 hHeld.2.2.2.2.2.2.2.2.2.1, cell_on bw32 hHeld.2.2.2.2.2.2.2.2.2.2.1, cell_on bw32 hHeld.2.2.2.2.2.2.2.2.2.2.2.1, cell_on bw32 hHeld.2.2.2.2.2.2.2.2.2.2.2.2.1, cell_on bw32 hHeld.2.2.2.2.2.2.2.2.2.2.2.2.2.1, cell_on bw32 hHeld.2.2.2.2.2.2.2.2.2.2.2.2.2.2.1, cell_on bw32 hHeld.2.2.2.2.2.2.2.2.2.2.2.2.2.2.2.1, cell_on bw32 hHeld.2.2.2.2.2.2.2.2.2.2.2.2.2.2.2.2.1, cell_on bw32 hHeld.2.2.2.2.2.2.2.2.2.2.2.2.2.2.2.2.2.1, cell_on bw32 hHeld.2.2.2.2.2.2.2.2.2.2.2.2.2.2.2.2.2.2.1, cell_on bw32 hHeld.2.2.2.2.2.2.2.2.2.2.2.2.2.2.2.2.2.2.2.1, also hHeld.2.2.2.2.2.2.2.2.2.2.2.2.2.2.2.2.2.2.2.2 bw32⟩ | exact ⟨cell_on bw31 hHeld.1, cell_on bw31 hHeld.2.1, cell_on bw31 hHeld.2.2.1, cell_on bw31 hHeld.2.2.2.1, cell_on bw31 hHeld.2.2.2.2.1, cell_on bw31 hHeld.2.2.2.2.2.1, cell_on bw31 hHeld.2.2.2.2.2.2.1, cell_on bw31 hHeld.2.2.2.2.2.2.2.1, cell_on bw31 hHeld.2.2.2.2.2.2.2.2.1, cell_on bw31 hHeld.2.2.2.2.2.2.2.2.2.1, cell_on bw31 hHeld.2.2.2.2.2.2.2.2.2.2.1, cell_on bw31 hHeld.2.2.2.2.2.2.2.2.2.2.2.1, cell_on bw31 hHeld.2.2.2.2.2.2.2.2.2.2.2.2.1, cell_on bw31 hHeld.2.2.2.2.2.2.2.2.2.2.2.2.2.1, cell_on bw31 hHeld.2.2.2.2.2.2.2.2.2.2.2.2.2.2.1, cell_on bw31 hHeld.2.2.2.2.2.2.2.2.2.2.2.2.2.2.2.1, cell_on bw31 hHeld.2.2.2.2.2.2.2.2.2.2.2.2.2.2.2.2.1, cell_on bw31 hHeld.2.2.2.2.2.2.2.2.2.2.2.2.2.2.2.2.2.1, cell_on bw31 hHeld.2.2.2.2.2.2.2.2.2.2.2.2.2.2.2.2.2.2.1, cell_on bw31 hHeld.2.2.2.2.2.2.2.2.2.2.2.2.2.2.2.2.2.2.2.1, also hHeld.2.2.2.2.2.2.2.2.2.2.2.2.2.2.2.2.2.2.2.2 bw31⟩ | exact ⟨cell_on bw21 hHeld.1, cell_on bw21 hHeld.2.1, cell_on bw21 hHeld.2.2.1, cell_on bw21 hHeld.2.2.2.1, cell_on bw21 hHeld.2.2.2.2.1, cell_on bw21 hHeld.2.2.2.2.2.1, cell_on bw21 hHeld.2.2.2.2.2.2.1, cell_on bw21 hHeld.2.2.2.2.2.2.2.1, cell_on bw21 hHeld.2.2.2.2.2.2.2.2.1, cell_on bw21 hHeld.2.2.2.2.2.2.2.2.2.1, cell_on bw21 hHeld.2.2.2.2.2.2.2.2.2.2.1, cell_on bw21 hHeld.2.2.2.2.2.2.2.2.2.2.2.1, cell_on bw21 hHeld.2.2.2.2.2.2.2.2.2.2.2.2.1, cell_on bw21 hHeld.2.2.2.2.2.2.2.2.2.2.2.2.2.1, cell_on bw21 hHeld.2.2.2.2.2.2.2.2.2.2.2.2.2.2.1, cell_on bw21 hHeld.2.2.2.2.2.2.2.2.2.2.2.2.2.2.2.1, cell_on bw21 hHeld.2.2.2.2.2.2.2.2.2.2.2.2.2.2.2.2.1, cell_on bw21 hHeld.2.2.2.2.2.2.2.2.2.2.2.2.2.2.2.2.2.1, cell_on bw21 hHeld.2.2.2.2.2.2.2.2.2.2.2.2.2.2.2.2.2.2.1, cell_on bw21 hHeld.2.2.2.2.2.2.2.2.2.2.2.2.2.2.2.2.2.2.2.1, also hHeld.2.2.2.2.2.2.2.2.2.2.2.2.2.2.2.2.2.2.2.2 bw21⟩ | exact ⟨cell_on bw20 hHeld.1, cell_on bw20 hHeld.2.1, cell_on bw20 hHeld.2.2.1, cell_on bw20 hHeld.2.2.2.1, cell_on bw20 hHeld.2.2.2.2.1, cell_on bw20 hHeld.2.2.2.2.2.1, cell_on bw20 hHeld.2.2.2.2.2.2.1, cell_on bw20 hHeld.2.2.2.2.2.2.2.1, cell_on bw20 hHeld.2.2.2.2.2.2.2.2.1, cell_on bw20 hHeld.2.2.2.2.2.2.2.2.2.1, cell_on bw20 hHeld.2.2.2.2.2.2.2.2.2.2.1, cell_on bw20 hHeld.2.2.2.2.2.2.2.2.2.2.2.1, cell_on bw20 hHeld.2.2.2.2.2.2.2.2.2.2.2.2.1, cell_on bw20 hHeld.2.2.2.2.2.2.2.2.2.2.2.2.2.1, cell_on bw20 hHeld.2.2.2.2.2.2.2.2.2.2.2.2.2.2.1, cell_on bw20 hHeld.2.2.2.2.2.2.2.2.2.2.2.2.2.2.2.1, cell_on bw20 hHeld.2.2.2.2.2.2.2.2.2.2.2.2.2.2.2.2.1, cell_on bw20 hHeld.2.2.2.2.2.2.2.2.2.2.2.2.2.2.2.2.2.1, cell_on bw20 hHeld.2.2.2.2.2.2.2.2.2.2.2.2.2.2.2.2.2.2.1, cell_on bw20 hHeld.2.2.2.2.2.2.2.2.2.2.2.2.2.2.2.2.2.2.2.1, also hHeld.2.2.2.2.2.2.2.2.2.2.2.2.2.2.2.2.2.2.2.2 bw20⟩ | exact ⟨cell_on bw17 hHeld.1, cell_on bw17 hHeld.2.1, cell_on bw17 hHeld.2.2.1, cell_on bw17 hHeld.2.2.2.1, cell_on bw17 hHeld.2.2.2.2.1, cell_on bw17 hHeld.2.2.2.2.2.1, cell_on bw17 hHeld.2.2.2.2.2.2.1, cell_on bw17 hHeld.2.2.2.2.2.2.2.1, cell_on bw17 hHeld.2.2.2.2.2.2.2.2.1, cell_on bw17 hHeld.2.2.2.2.2.2.2.2.2.1, cell_on bw17 hHeld.2.2.2.2.2.2.2.2.2.2.1, cell_on bw17 hHeld.2.2.2.2.2.2.2.2.2.2.2.1, cell_on bw17 hHeld.2.2.2.2.2.2.2.2.2.2.2.2.1, cell_on bw17 hHeld.2.2.2.2.2.2.2.2.2.2.2.2.2.1, cell_on bw17 hHeld.2.2.2.2.2.2.2.2.2.2.2.2.2.2.1, cell_on bw17 hHeld.2.2.2.2.2.2.2.2.2.2.2.2.2.2.2.1, cell_on bw17 hHeld.2.2.2.2.2.2.2.2.2.2.2.2.2.2.2.2.1, cell_on bw17 hHeld.2.2.2.2.2.2.2.2.2.2.2.2.2.2.2.2.2.1, cell_on bw17 hHeld.2.2.2.2.2.2.2.2.2.2.2.2.2.2.2.2.2.2.1, cell_on bw17 hHeld.2.2.2.2.2.2.2.2.2.2.2.2.2.2.2.2.2.2.2.1, also hHeld.2.2.2.2.2.2.2.2.2.2.2.2.2.2.2.2.2.2.2.2 bw17⟩ | exact ⟨cell_on bw16 hHeld.1, cell_on bw16 hHeld.2.1, cell_on bw16 hHeld.2.2.1, cell_on bw16 hHeld.2.2.2.1, cell_on bw16 hHeld.2.2.2.2.1, cell_on bw16 hHeld.2.2.2.2.2.1, cell_on bw16 hHeld.2.2.2.2.2.2.1, cell_on bw16 hHeld.2.2.2.2.2.2.2.1, cell_on bw16 hHeld.2.2.2.2.2.2.2.2.1, cell_on bw16 hHeld.2.2.2.2.2.2.2.2.2.1, cell_on bw16 hHeld.2.2.2.2.2.2.2.2.2.2.1, cell_on bw16 hHeld.2.2.2.2.2.2.2.2.2.2.2.1, cell_on bw16 hHeld.2.2.2.2.2.2.2.2.2.2.2.2.1, cell_on bw16 hHeld.2.2.2.2.2.2.2.2.2.2.2.2.2.1, cell_on bw16 hHeld.2.2.2.2.2.2.2.2.2.2.2.2.2.2.1, cell_on bw16 hHeld.2.2.2.2.2.2.2.2.2.2.2.2.2.2.2.1, cell_on bw16 hHeld.2.2.2.2.2.2.2.2.2.2.2.2.2.2.2.2.1, cell_on bw16 hHeld.2.2.2.2.2.2.2.2.2.2.2.2.2.2.2.2.2.1, cell_on bw16 hHeld.2.2.2.2.2.2.2.2.2.2.2.2.2.2.2.2.2.2.1, cell_on bw16 hHeld.2.2.2.2.2.2.2.2.2.2.2.2.2.2.2.2.2.2.2.1, also hHeld.2.2.2.2.2.2.2.2.2.2.2.2.2.2.2.2.2.2.2.2 bw16⟩ | exact ⟨cell_on bw15 hHeld.1, cell_on bw15 hHeld.2.1, cell_on bw15 hHeld.2.2.1, cell_on bw15 hHeld.2.2.2.1, cell_on bw15 hHeld.2.2.2.2.1, cell_on bw15 hHeld.2.2.2.2.2.1, cell_on bw15 hHeld.2.2.2.2.2.2.1, cell_on bw15 hHeld.2.2.2.2.2.2.2.1, cell_on bw15 hHeld.2.2.2.2.2.2.2.2.1, cell_on bw15 hHeld.2.2.2.2.2.2.2.2.2.1, cell_on bw15 hHeld.2.2.2.2.2.2.2.2.2.2.1, cell_on bw15 hHeld.2.2.2.2.2.2.2.2.2.2.2.1, cell_on bw15 hHeld.2.2.2.2.2.2.2.2.2.2.2.2.1, cell_on bw15 hHeld.2.2.2.2.2.2.2.2.2.2.2.2.2.1, cell_on bw15 hHeld.2.2.2.2.2.2.2.2.2.2.2.2.2.2.1, cell_on bw15 hHeld.2.2.2.2.2.2.2.2.2.2.2.2.2.2.2.1, cell_on bw15 hHeld.2.2.2.2.2.2.2.2.2.2.2.2.2.2.2.2.1, cell_on bw15 hHeld.2.2.2.2.2.2.2.2.2.2.2.2.2.2.2.2.2.1, cell_on bw15 hHeld.2.2.2.2.2.2.2.2.2.2.2.2.2.2.2.2.2.2.1, cell_on bw15 hHeld.2.2.2.2.2.2.2.2.2.2.2.2.2.2.2.2.2.2.2.1, also hHeld.2.2.2.2.2.2.2.2.2.2.2.2.2.2.2.2.2.2.2.2 bw15⟩ | exact ⟨cell_on bw14 hHeld.1, cell_on bw14 hHeld.2.1, cell_on bw14 hHeld.2.2.1, cell_on bw14 hHeld.2.2.2.1, cell_on bw14 hHeld.2.2.2.2.1, cell_on bw14 hHeld.2.2.2.2.2.1, cell_on bw14 hHeld.2.2.2.2.2.2.1, cell_on bw14 hHeld.2.2.2.2.2.2.2.1, cell_on bw14 hHeld.2.2.2.2.2.2.2.2.1, cell_on bw14 hHeld.2.2.2.2.2.2.2.2.2.1, cell_on bw14 hHeld.2.2.2.2.2.2.2.2.2.2.1, cell_on bw14 hHeld.2.2.2.2.2.2.2.2.2.2.2.1, cell_on bw14 hHeld.2.2.2.2.2.2.2.2.2.2.2.2.1, cell_on bw14 hHeld.2.2.2.2.2.2.2.2.2.2.2.2.2.1, cell_on bw14 hHeld.2.2.2.2.2.2.2.2.2.2.2.2.2.2.1, cell_on bw14 hHeld.2.2.2.2.2.2.2.2.2.2.2.2.2.2.2.1, cell_on bw14 hHeld.2.2.2.2.2.2.2.2.2.2.2.2.2.2.2.2.1, cell_on bw14 hHeld.2.2.2.2.2.2.2.2.2.2.2.2.2.2.2.2.2.1, cell_on bw14 hHeld.2.2.2.2.2.2.2.2.2.2.2.2.2.2.2.2.2.2.1, cell_on bw14 hHeld.2.2.2.2.2.2.2.2.2.2.2.2.2.2.2.2.2.2.2.1, also hHeld.2.2.2.2.2.2.2.2.2.2.2.2.2.2.2.2.2.2.2.2 bw14⟩ | exact ⟨cell_on bw13 hHeld.1, cell_on bw13 hHeld.2.1, cell_on bw13 hHeld.2.2.1, cell_on bw13 hHeld.2.2.2.1, cell_on bw13 hHeld.2.2.2.2.1, cell_on bw13 hHeld.2.2.2.2.2.1, cell_on bw13 hHeld.2.2.2.2.2.2.1, cell_on bw13 hHeld.2.2.2.2.2.2.2.1, cell_on bw13 hHeld.2.2.2.2.2.2.2.2.1, cell_on bw13 hHeld.2.2.2.2.2.2.2.2.2.1, cell_on bw13 hHeld.2.2.2.2.2.2.2.2.2.2.1, cell_on bw13 hHeld.2.2.2.2.2.2.2.2.2.2.2.1, cell_on bw13 hHeld.2.2.2.2.2.2.2.2.2.2.2.2.1, cell_on bw13 hHeld.2.2.2.2.2.2.2.2.2.2.2.2.2.1, cell_on bw13 hHeld.2.2.2.2.2.2.2.2.2.2.2.2.2.2.1, cell_on bw13 hHeld.2.2.2.2.2.2.2.2.2.2.2.2.2.2.2.1, cell_on bw13 hHeld.2.2.2.2.2.2.2.2.2.2.2.2.2.2.2.2.1, cell_on bw13 hHeld.2.2.2.2.2.2.2.2.2.2.2.2.2.2.2.2.2.1, cell_on bw13 hHeld.2.2.2.2.2.2.2.2.2.2.2.2.2.2.2.2.2.2.1, cell_on bw13 hHeld.2.2.2.2.2.2.2.2.2.2.2.2.2.2.2.2.2.2.2.1, also hHeld.2.2.2.2.2.2.2.2.2.2.2.2.2.2.2.2.2.2.2.2 bw13⟩
  clear hK Kc
  have zbw13 := bw13.size
  replace BB := also BB bw13
  replace x_a := x_a.on bw13
  replace q1 := q1.below bw13
  replace x2 := x2.below bw13
  replace x_x := x_x.on bw13
  replace h3 := h3.below bw13
  replace h4 := h4.below bw13
  replace x_f := x_f.on bw13
  replace x_n := x_n.on bw13
  replace x_h := x_h.on bw13
  replace hh := hh.below bw13
  replace x9 := x9.below bw13
  replace x_dd := x_dd.on bw13
  replace x12 := x12.below bw13
  replace x_ee := x_ee.on bw13
  refine take_call (i := 3) rfl (by kernel_rfl) (fun Kc hK => ?_)
  go_simp
  (go_at_call 27; refine (rwSame n3 s13 a3 d13 l3 c3 l13 c13 F _ h3 r13 HFf.out).mono ?_; rintro e w14 ⟨rfl, bw14⟩)
  refine hK.out _ _ ?_ (fun hHeld => ?_)
  · first | exact ⟨x_f.c0, x_f.c1, x_x.c0, x_x.c1, x_x.c2, x_x.c3, x_n.c0, x_n.c1, x_dd.c0, x_dd.c1, x_dd.c2, x_dd.c3, x_h.c0, x_h.c1, x_h.c2, x_h.c3, x_ee.c0, x_ee.c1, x_ee.c2, x_ee.c3, BB⟩ | exact ⟨cell_on bw36 hHeld.1, cell_on bw36 hHeld.2.1, cell_on bw36 hHeld.2.2.1, cell_on bw36 hHeld.2.2.2.1, cell_on bw36 hHeld.2.2.2.2.1, cell_on bw36 hHeld.2.2.2.2.2.1, cell_on bw36 hHeld.2.2.2.2.2.2.1, cell_on bw36 hHeld.2.2.2.2.2.2.2.1, cell_on bw36 hHeld.2.2.2.2.2.2.2.2.1, cell_on bw36 hHeld.2.2.2.2.2.2.2.2.2.1, cell_on bw36 hHeld.2.2.2.2.2.2.2.2.2.2.1, cell_on bw36 hHeld.2.2.2.2.2.2.2.2.2.2.2.1, cell_on bw36 hHeld.2.2.2.2.2.2.2.2.2.2.2.2.1, cell_on bw36 hHeld.2.2.2.2.2.2.2.2.2.2.2.2.2.1, cell_on bw36 hHeld.2.2.2.2.2.2.2.2.2.2.2.2.2.2.1, cell_on bw36 hHeld.2.2.2.2.2.2.2.2.2.2.2.2.2.2.2.1, cell_on bw36 hHeld.2.2.2.2.2.2.2.2.2.2.2.2.2.2.2.2.1, cell_on bw36 hHeld.2.2.2.2.2.2.2.2.2.2.2.2.2.2.2.2.2.1, cell_on bw36 hHeld.2.2.2.2.2.2.2.2.2.2.2.2.2.2.2.2.2.2.1, cell_on bw36 hHeld.2.2.2.2.2.2.2.2.2.2.2.2.2.2.2.2.2.2.2.1, also hHeld.2.2.2.2.2.2.2.2.2.2.2.2.2.2.2.2.2.2.2.2 bw36⟩ | exact ⟨cell_on bw32 hHeld.1, cell_on bw32 hHeld.2.1, cell_on bw32 hHeld.2.2.1, cell_on bw32 hHeld.2.2.2.1, cell_on bw32 hHeld.2.2.2.2.1, cell_on bw32 hHeld.2.2.2.2.2.1, cell_on bw32 hHeld.2.2.2.2.2.2.1, cell_on bw32 hHeld.2.2.2.2.2.2.2.1, cell_on bw32 hHeld.2.2.2.2.2.2.2.2.1, cell_on bw32 hHeld.2.2.2.2.2.2.2.2.2.1, cell_on bw32 hHeld.2.2.2.2.2.2.2.2.2.2.1, cell_on bw32 hHeld.2.2.2.2.2.2.2.2.2.2.2.1, cell_on bw32 hHeld.2.2.2.2.2.2.2.2.2.2.2.2.1, cell_on bw32 hHeld.2.2.2.2.2.2.2.2.2.2.2.2.2.1, cell_on bw32 hHeld.2.2.2.2.2.2.2.2.2.2.2.2.2.2.1, cell_on bw32 hHeld.2.2.2.2.2.2.2.2.2.2.2.2.2.2.2.1, cell_on bw32 hHeld.2.2.2.2.2.2.2.2.2.2.2.2.2.2.2.2.1, cell_on bw32 hHeld.2.2.2.2.2.2.2.2.2.2.2.2.2.2.2.2.2.1, cell_on bw32 hHeld.2.2.2.2.2.2.2.2.2.2.2.2.2.2.2.2.2.2.1, cell_on bw32 hHeld.2.2.2.2.2.2.2.2.2.2.2.2.2.2.2.2.2.2.2.1, also hHeld.2.2.2.2.2.2.2.2.2.2.2.2.2.2.2.2.2.2.2.2 bw32⟩ | exact ⟨cell_on bw31 hHeld.1, cell_on bw31 hHeld.2.1, cell_on bw31 hHeld.2.2.1, cell_on bw31 hHeld.2.2.2.1, cell_on bw31 hHeld.2.2.2.2.1, cell_on bw31 hHeld.2.2.2.2.2.1, cell_on bw31 hHeld.2.2.2.2.2.2.1, cell_on bw31 hHeld.2.2.2.2.2.2.2.1, cell_on bw31 hHeld.2.2.2.2.2.2.2.2.1, cell_on bw31 hHeld.2.2.2.2.2.2.2.2.2.1, cell_on bw31 hHeld.2.2.2.2.2.2.2.2.2.2.1, cell_on bw31 hHeld.2.2.2.2.2.2.2.2.2.2.2.1, cell_on bw31 hHeld.2.2.2.2.2.2.2.2.2.2.2.2.1, cell_on bw31 hHeld.2.2.2.2.2.2.2.2.2.2.2.2.2.1, cell_on bw31 hHeld.2.2.2.2.2.2.2.2.2.2.2.2.2.2.1, cell_on bw31 hHeld.2.2.2.2.2.2.2.2.2.2.2.2.2.2.2.1, cell_on bw31 hHeld.2.2.2.2.2.2.2.2.2.2.2.2.2.2.2.2.1, cell_on bw31 hHeld.2.2.2.2.2.2.2.2.2.2.2.2.2.2.2.2.2.1, cell_on bw31 hHeld.2.2.2.2.2.2.2.2.2.2.2.2.2.2.2.2.2.2.1, cell_on bw31 hHeld.2.2.2.2.2.2.2.2.2.2.2.2.2.2.2.2.2.2.2.1, also hHeld.2.2.2.2.2.2.2.2.2.2.2.2.2.2.2.2.2.2.2.2 bw31⟩ | exact ⟨cell_on bw21 hHeld.1, cell_on bw21 hHeld.2.1, cell_on bw21 hHeld.2.2.1, cell_on bw21 hHeld.2.2.2.1, cell_on bw21 hHeld.2.2.2.2.1, cell_on bw21 hHeld.2.2.2.2.2.1, cell_on bw21 hHeld.2.2.2.2.2.2.1, cell_on bw21 hHeld.2.2.2.2.2.2.2.1, cell_on bw21 hHeld.2.2.2.2.2.2.2.2.1, cell_on bw21 hHeld.2.2.2.2.2.2.2.2.2.1, cell_on bw21 hHeld.2.2.2.2.2.2.2.2.2.2.1, cell_on bw21 hHeld.2.2.2.2.2.2.2.2.2.2.2.1, cell_on bw21 hHeld.2.2.2.2.2.2.2.2.2.2.2.2.1, cell_on bw21 hHeld.2.2.2.2.2.2.2.2.2.2.2.2.2.1, cell_on bw21 hHeld.2.2.2.2.2.2.2.2.2.2.2.2.2.2.1, cell_on bw21 hHeld.2.2.2.2.2.2.2.2.2.2.2.2.2.2.2.1, cell_on bw21 hHeld.2.2.2.2.2.2.2.2.2.2.2.2.2.2.2.2.1, cell_on bw21 hHeld.2.2.2.2.2.2.2.2.2.2.2.2.2.2.2.2.2.1, cell_on bw21 hHeld.2.2.2.2.2.2.2.2.2.2.2.2.2.2.2.2.2.2.1, cell_on bw21 hHeld.2.2.2.2.2.2.2.2.2.2.2.2.2.2.2.2.2.2.2.1, also hHeld.2.2.2.2.2.2.2.2.2.2.2.2.2.2.2.2.2.2.2.2 bw21⟩ | exact ⟨cell_on bw20 hHeld.1, cell_on bw20 hHeld.2.1, cell_on bw20 hHeld.2.2.1, cell_on bw20 hHeld.2.2.2.1, cell_on bw20 hHeld.2.2.2.2.1, cell_on bw20 hHeld.2.2.2.2.2.1, cell_on bw20 hHeld.2.2.2.2.2.2.1, cell_on bw20 hHeld.2.2.2.2.2.2.2.1, cell_on bw20 hHeld.2.2.2.2.2.2.2.2.1, cell_on bw20 hHeld.2.2.2.2.2.2.2.2.2.1, cell_on bw20 hHeld.2.2.2.2.2.2.2.2.2.2.1, cell_on bw20 hHeld.2.2.2.2.2.2.2.2.2.2.2.1, cell_on bw20 hHeld.2.2.2.2.2.2.2.2.2.2.2.2.1, cell_on bw20 hHeld.2.2.2.2.2.2.2.2.2.2.2.2.2.1, cell_on bw20 hHeld.2.2.2.2.2.2.2.2.2.2.2.2.2.2.1, cell_on bw20 hHeld.2.2.2.2.2.2.2.2.2.2.2.2.2.2.2.1, cell_on bw20 hHeld.2.2.2.2.2.2.2.2.2.2.2.2.2.2.2.2.1, cell_on bw20 hHeld.2.2.2.2.2.2.2.2.2.2.2.2.2.2.2.2.2.1, cell_on bw20 hHeld.2.2.2.2.2.2.2.2.2.2.2.2.2.2.2.2.2.2.1, cell_on bw20 hHeld.2.2.2.2.2.2.2.2.2.2.2.2.2.2.2.2.2.2.2.1, also hHeld.2.2.2.2.2.2.2.2.2.2.2.2.2.2.2.2.2.2.2.2 bw20⟩ | exact ⟨cell_on bw17 hHeld.1, cell_on bw17 hHeld.2.1, cell_on bw17 hHeld.2.2.1, cell_on bw17 hHeld.2.2.2.1, cell_on bw17 hHeld.2.2.2.2.1, cell_on bw17 hHeld.2.2.2.2.2.1, cell_on bw17 hHeld.2.2.2.2.2.2.1, cell_on bw17 hHeld.2.2.2.2.2.2.2.1, cell_on bw17 hHeld.2.2.2.2.2.2.2.2.1, cell_on bw17 hHeld.2.2.2.2.2.2.2.2.2.1, cell_on bw17 hHeld.2.2.2.2.2.2.2.2.2.2.1, cell_on bw17 hHeld.2.2.2.2.2.2.2.2.2.2.2.1, cell_on bw17 hHeld.2.2.2.2.2.2.2.2.2.2.2.2.1, cell_on bw17 hHeld.2.2.2.2.2.2.2.2.2.2.2.2.2.1, cell_on bw17 hHeld.2.2.2.2.2.2.2.2.2.2.2.2.2.2.1, cell_on bw17 hHeld.2.2.2.2.2.2.2.2.2.2.2.2.2.2.2.1, cell_on bw17 hHeld.2.2.2.2.2.2.2.2.2.2.2.2.2.2.2.2.1, cell_on bw17 hHeld.2.2.2.2.2.2.2.2.2.2.2.2.2.2.2.2.2.1, cell_on bw17 hHeld.2.2.2.2.2.2.2.2.2.2.2.2.2.2.2.2.2.2.1, cell_on bw17 hHeld.2.2.2.2.2.2.2.2.2.2.2.2.2.2.2.2.2.2.2.1, also hHeld.2.2.2.2.2.2.2.2.2.2.2.2.2.2.2.2.2.2.2.2 bw17⟩ | exact ⟨cell_on bw16 hHeld.1, cell_on bw16 hHeld.2.1, cell_on bw16 hHeld.2.2.1, cell_on bw16 hHeld.2.2.2.1, cell_on bw16 hHeld.2.2.2.2.1, cell_on bw16 hHeld.2.2.2.2.2.1, cell_on bw16 hHeld.2.2.2.2.2.2.1, cell_on bw16 hHeld.2.2.2.2.2.2.2.1, cell_on bw16 hHeld.2.2.2.2.2.2.2.2.1, cell_on bw16 hHeld.2.2.2.2.2.2.2.2.2.1, cell_on bw16 hHeld.2.2.2.2.2.2.2.2.2.2.1, cell_on bw16 hHeld.2.2.2.2.2.2.2.2.2.2.2.1, cell_on bw16 hHeld.2.2.2.2.2.2.2.2.2.2.2.2.1, cell_on bw16 hHeld.2.2.2.2.2.2.2.2.2.2.2.2.2.1, cell_on bw16 hHeld.2.2.2.2.2.2.2.2.2.2.2.2.2.2.1, cell_on bw16 hHeld.2.2.2.2.2.2.2.2.2.2.2.2.2.2.2.1, cell_on bw16 hHeld.2.2.2.2.2.2.2.2.2.2.2.2.2.2.2.2.1, cell_on bw16 hHeld.2.2.2.2.2.2.2.2.2.2.2.2.2.2.2.2.2.1, cell_on bw16 hHeld.2.2.2.2.2.2.2.2.2.2.2.2.2.2.2.2.2.2.1, cell_on bw16 hHeld.2.2.2.2.2.2.2.2.2.2.2.2.2.2.2.2.2.2.2.1, also hHeld.2.2.2.2.2.2.2.2.2.2.2.2.2.2.2.2.2.2.2.2 bw16⟩ | exact ⟨cell_on bw15 hHeld.1, cell_on bw15 hHeld.2.1, cell_on bw15 hHeld.2.2.1, cell_on bw15 hHeld.2.2.2.1, cell_on bw15 hHeld.2.2.2.2.1, cell_on bw15 hHeld.2.2.2.2.2.1, cell_on bw15 hHeld.2.2.2.2.2.2.1, cell_on bw15 hHeld.2.2.2.2.2.2.2.1, cell_on bw15 hHeld.2.2.2.2.2.2.2.2.1, cell_on bw15 hHeld.2.2.2.2.2.2.2.2.2.1, cell_on bw15 hHeld.2.2.2.2.2.2.2.2.2.2.1, cell_on bw15 hHeld.2.2.2.2.2.2.2.2.2.2.2.1, cell_on bw15 hHeld.2.2.2.2.2.2.2.2.2.2.2.2.1, cell_on bw15 hHeld.2.2.2.2.2.2.2.2.2.2.2.2.2.1, cell_on bw15 hHeld.2.2.2.2.2.2.2.2.2.2.2.2.2.2.1, cell_on bw15 hHeld.2.2.2.2.2.2.2.2.2.2.2.2.2.2.2.1, cell_on bw15 hHeld.2.2.2.2.2.2.2.2.2.2.2.2.2.2.2.2.1, cell_on bw15 hHeld.2.2.2.2.2.2.2.2.2.2.2.2.2.2.2.2.2.1, cell_on bw15 hHeld.2.2.2.2.2.2.2.2.2.2.2.2.2.2.2.2.2.2.1, cell_on bw15 hHeld.2.2.2.2.2.2.2.2.2.2.2.2.2.2.2.2.2.2.2.1, also hHeld.2.2.2.2.2.2.2.2.2.2.2.2.2.2.2.2.2.2.2.2 bw15⟩ | exact ⟨cell_on bw14 hHeld.1, cell_on bw14 hHeld.2.1, cell_on bw14 hHeld.2.2.1, cell_on bw14 hHeld.2.2.2.1, cell_on bw14 hHeld.2.2.2.2.1, cell_on bw14 hHeld.2.2.2.2.2.1, cell_on bw14 hHeld.2.2.2.2.2.2.1, cell_on bw14 hHeld.2.2.2.2.2.2.2.1, cell_on bw14 hHeld.2.2.2.2.2.2.2.2.1, cell_on bw14 hHeld.2.2.2.2.2.2.2.2.2.1, cell_on bw14 hHeld.2.2.2.2.2.2.2.2.2.2.1, cell_on bw14 hHeld.2.2.2.2.2.2.2.2.2.2.2.1, cell_on bw14 hHeld.2.2.2.2.2.2.2.2.2.2.2.2.1, cell_on bw14 hHeld.2.2.2.2.2.2.2.2.2.2.2.2.2.1, cell_on bw14 hHeld.2.2.2.2.2.2.2.2.2.2.2.2.2.2.1, cell_on bw14 hHeld.2.2.2.2.2.2.2.2.2.2.2.2.2.2.2.1, cell_on bw14 hHeld.2.2.2.2.2.2.2.2.2.2.2.2.2.2.2.2.1, cell_on bw14 hHeld.2.2.2.2.2.2.2.2.2.2.2.2.2.2.2.2.2.1, cell_on bw14 hHeld.2.2.2.2.2.2.2.2.2.2.2.2.2.2.2.2.2.2.1, cell_on bw14 hHeld.2.2.2.2.2.2.2.2.2.2.2.2.2.2.2.2.2.2.2.1, also hHeld.2.2.2.2.2.2.2.2.2.2.2.2.2.2.2.2.2.2.2.2 bw14⟩ | exact ⟨cell_on bw13 hHeld.1, cell_on bw13 hHeld.2.1, cell_on bw13 hHeld.2.2.1, cell_on bw13 hHeld.2.2.2.1, cell_on bw13 hHeld.2.2.2.2.1, cell_on bw13 hHeld.2.2.2.2.2.1, cell_on bw13 hHeld.2.2.2.2.2.2.1, cell_on bw13 hHeld.2.2.2.2.2.2.2.1, cell_on bw13 hHeld.2.2.2.2.2.2.2.2.1, cell_on bw13 hHeld.2.2.2.2.2.2.2.2.2.1, cell_on bw13 hHeld.2.2.2.2.2.2.2.2.2.2.1, cell_on bw13 hHeld.2.2.2.2.2.2.2.2.2.2.2.1, cell_on bw13 hHeld.2.2.2.2.2.2.2.2.2.2.2.2.1, cell_on bw13 hHeld.2.2.2.2.2.2.2.2.2.2.2.2.2.1, cell_on bw13 hHeld.2.2.2.2.2.2.2.2.2.2.2.2.2.2.1, cell_on bw13 hHeld.2.2.2.2.2.2.2.2.2.2.2.2.2.2.2.1, cell_on bw13 hHeld.2.2.2.2.2.2.2.2.2.2.2.2.2.2.2.2.1, cell_on bw13 hHeld.2.2.2.2.2.2.2.2.2.2.2.2.2.2.2.2.2.1, cell_on bw13 hHeld.2.2.2.2.2.2.2.2.2.2.2.2.2.2.2.2.2.2.1, cell_on bw13 hHeld.2.2.2.2.2.2.2.2.2.2.2.2.2.2.2.2.2.2.2.1, also hHeld.2.2.2.2.2.2.2.2.2.2.2.2.2.2.2.2.2.2.2.2 bw13⟩
  clear hK Kc
  have zbw14 := bw14.size
  replace BB := also BB bw14
  replace x_a := x_a.on bw14
  replace q1 := q1.below bw14
  replace x2 := x2.below bw14
  replace x_x := x_x.on bw14
  replace h3 := h3.below bw14
  replace h4 := h4.below bw14
  replace x_f := x_f.on bw14
  replace x_n := x_n.on bw14
  replace x_h := x_h.on bw14
  replace hh := hh.below bw14
  replace x9 := x9.below bw14
  replace x_dd := x_dd.on bw14
  replace x12 := x12.below bw14
  replace x_ee := x_ee.on bw14
  replace r13 := r13.below bw14
  refine take_yes (i := 4) (v := ?vw4) rfl (by kernel_rfl) (by kernel_rfl) (by kernel_rfl) (fun _ _ _ h => h) (by rfl) (by assumption) ?hyw4 ?restw4
  case hyw4 => (intro w hSw; (try dsimp only at hSw); first | (go_simp; done) | (go_simp; with_reducible rfl))
  simp only [Act.put, List.setIfInBounds_toArray, List.set_cons_zero, List.set_cons_succ]
  refine take_yes (i := 5) (v := ?vw5) rfl (by kernel_rfl) (by kernel_rfl) (by kernel_rfl) (fun _ _ _ h => h) (by rfl) (by assumption) ?hyw5 ?restw5
  case hyw5 => (intro w hSw; (try dsimp only at hSw); first | (go_simp; done) | (go_simp; with_reducible rfl))
  simp only [Act.put, List.setIfInBounds_toArray, List.set_cons_zero, List.set_cons_succ]
  refine take_yes (i := 6) (v := ?vw6) rfl (by kernel_rfl) (by kernel_rfl) (by kernel_rfl) (fun _ _ _ h => h) (by rfl) (by assumption) ?hyw6 ?restw6
  case hyw6 => (intro w hSw; (try dsimp only at hSw); first | (go_simp; done) | (go_simp; with_reducible rfl))
  simp only [Act.put, List.setIfInBounds_toArray, List.set_cons_zero, List.set_cons_succ]
  refine take_call (i := 7) rfl (by kernel_rfl) (fun Kc hK => ?_)
  go_simp
  (go_at_call 29; refine (rqRound s2 d2 l2 c2 t2 g2 h2 k2 (pN Z y1) (pD y1) 6 _ x2 (by decide) (by decide) M HM2.out).mono ?_; rintro e w15 ⟨s15, d15, l15, c15, rfl, r15, f15, bw15⟩)
  refine hK.out _ _ ?_ (fun hHeld => ?_)
  · first | exact ⟨x_f.c0, x_f.c1, x_x.c0, x_x.c1, x_x.c2, x_x.c3, x_n.c0, x_n.c1, x_dd.c0, x_dd.c1, x_dd.c2, x_dd.c3, x_h.c0, x_h.c1, x_h.c2, x_h.c3, x_ee.c0, x_ee.c1, x_ee.c2, x_ee.c3, BB⟩ | exact ⟨cell_on bw36 hHeld.1, cell_on bw36 hHeld.2.1, cell_on bw36 hHeld.2.2.1, cell_on bw36 hHeld.2.2.2.1, cell_on bw36 hHeld.2.2.2.2.1, cell_on bw36 hHeld.2.2.2.2.2.1, cell_on bw36 hHeld.2.2.2.2.2.2.1, cell_on bw36 hHeld.2.2.2.2.2.2.2.1, cell_on bw36 hHeld.2.2.2.2.2.2.2.2.1, cell_on bw36 hHeld.2.2.2.2.2.2.2.2.2.1, cell_on bw36 hHeld.2.2.2.2.2.2.2.2.2.2.1, cell_on bw36 hHeld.2.2.2.2.2.2.2.2.2.2.2.1, cell_on bw36 hHeld.2.2.2.2.2.2.2.2.2.2.2.2.1, cell_on bw36 hHeld.2.2.2.2.2.2.2.2.2.2.2.2.2.1, cell_on bw36 hHeld.2.2.2.2.2.2.2.2.2.2.2.2.2.2.1, cell_on bw36 hHeld.2.2.2.2.2.2.2.2.2.2.2.2.2.2.2.1, cell_on bw36 hHeld.2.2.2.2.2.2.2.2.2.2.2.2.2.2.2.2.1, cell_on bw36 hHeld.2.2.2.2.2.2.2.2.2.2.2.2.2.2.2.2.2.1, cell_on bw36 hHeld.2.2.2.2.2.2.2.2.2.2.2.2.2.2.2.2.2.2.1, cell_on bw36 hHeld.2.2.2.2.2.2.2.2.2.2.2.2.2.2.2.2.2.2.2.1, also hHeld.2.2.2.2.2.2.2.2.2.2.2.2.2.2.2.2.2.2.2.2 bw36⟩ | exact ⟨cell_on bw32 hHeld.1, cell_on bw32 hHeld.2.1, cell_on bw32 hHeld.2.2.1, cell_on bw32 hHeld.2.2.2.1, cell_on bw32 hHeld.2.2.2.2.1, cell_on bw32 hHeld.2.2.2.2.2.1, cell_on bw32 hHeld.2.2.2.2.2.2.1, cell_on bw32 hHeld.2.2.2.2.2.2.2.1, cell_on bw32 hHeld.2.2.2.2.2.2.2.2.1, cell_on bw32 hHeld.2.2.2.2.2.2.2.2.2.1, cell_on bw32 hHeld.2.2.2.2.2.2.2.2.2.2.1, cell_on bw32 hHeld.2.2.2.2.2.2.2.2.2.2.2.1, cell_on bw32 hHeld.2.2.2.2.2.2.2.2.2.2.2.2.1, cell_on bw32 hHeld.2.2.2.2.2.2.2.2.2.2.2.2.2.1, cell_on bw32 hHeld.2.2.2.2.2.2.2.2.2.2.2.2.2.2.1, cell_on bw32 hHeld.2.2.2.2.2.2.2.2.2.2.2.2.2.2.2.1, cell_on bw32 hHeld.2.2.2.2.2.2.2.2.2.2.2.2.2.2.2.2.1, cell_on bw32 hHeld.2.2.2.2.2.2.2.2.2.2.2.2.2.2.2.2.2.1, cell_on bw32 hHeld.2.2.2.2.2.2.2.2.2.2.2.2.2.2.2.2.2.2.1, cell_on bw32 hHeld.2.2.2.2.2.2.2.2.2.2.2.2.2.2.2.2.2.2.2.1, also hHeld.2.2.2.2.2.2.2.2.2.2.2.2.2.2.2.2.2.2.2.2 bw32⟩ | exact ⟨cell_on bw31 hHeld.1, cell_on bw31 hHeld.2.1, cell_on bw31 hHeld.2.2.1, cell_on bw31 hHeld.2.2.2.1, cell_on bw31 hHeld.2.2.2.2.1, cell_on bw31 hHeld.2.2.2.2.2.1, cell_on bw31 hHeld.2.2.2.2.2.2.1, cell_on bw31 hHeld.2.2.2.2.2.2.2.1, cell_on bw31 hHeld.2.2.2.2.2.2.2.2.1, cell_on bw31 hHeld.2.2.2.2.2.2.2.2.2.1, cell_on bw31 hHeld.2.2.2.2.2.2.2.2.2.2.1, cell_on bw31 hHeld.2.2.2.2.2.2.2.2.2.2.2.1, cell_on bw31 hHeld.2.2.2.2.2.2.2.2.2.2.2.2.1, cell_on bw31 hHeld.2.2.2.2.2.2.2.2.2.2.2.2.2.1, cell_on bw31 hHeld.2.2.2.2.2.2.2.2.2.2.2.2.2.2.1, cell_on bw31 hHeld.2.2.2.2.2.2.2.2.2.2.2.2.2.2.2.1, cell_on bw31 hHeld.2.2.2.2.2.2.2.2.2.2.2.2.2.2.2.2.1, cell_on bw31 hHeld.2.2.2.2.2.2.2.2.2.2.2.2.2.2.2.2.2.1, cell_on bw31 hHeld.2.2.2.2.2.2.2.2.2.2.2.2.2.2.2.2.2.2.1, cell_on bw31 hHeld.2.2.2.2.2.2.2.2.2.2.2.2.2.2.2.2.2.2.2.1, also hHeld.2.2.2.2.2.2.2.2.2.2.2.2.2.2.2.2.2.2.2.2 bw31⟩ | exact ⟨cell_on bw21 hHeld.1, cell_on bw21 hHeld.2.1, cell_on bw21 hHeld.2.2.1, cell_on bw21 hHeld.2.2.2.1, cell_on bw21 hHeld.2.2.2.2.1, cell_on bw21 hHeld.2.2.2.2.2.1, cell_on bw21 hHeld.2.2.2.2.2.2.1, cell_on bw21 hHeld.2.2.2.2.2.2.2.1, cell_on bw21 hHeld.2.2.2.2.2.2.2.2.1, cell_on bw21 hHeld.2.2.2.2.2.2.2.2.2.1, cell_on bw21 hHeld.2.2.2.2.2.2.2.2.2.2.1, cell_on bw21 hHeld.2.2.2.2.2.2.2.2.2.2.2.1, cell_on bw21 hHeld.2.2.2.2.2.2.2.2.2.2.2.2.1, cell_on bw21 hHeld.2.2.2.2.2.2.2.2.2.2.2.2.2.1, cell_on bw21 hHeld.2.2.2.2.2.2.2.2.2.2.2.2.2.2.1, cell_on bw21 hHeld.2.2.2.2.2.2.2.2.2.2.2.2.2.2.2.1, cell_on bw21 hHeld.2.2.2.2.2.2.2.2.2.2.2.2.2.2.2.2.1, cell_on bw21 hHeld.2.2.2.2.2.2.2.2.2.2.2.2.2.2.2.2.2.1, cell_on bw21 hHeld.2.2.2.2.2.2.2.2.2.2.2.2.2.2.2.2.2.2.1, cell_on bw21 hHeld.2.2.2.2.2.2.2.2.2.2.2.2.2.2.2.2.2.2.2.1, also hHeld.2.2.2.2.2.2.2.2.2.2.2.2.2.2.2.2.2.2.2.2 bw21⟩ | exact ⟨cell_on bw20 hHeld.1, cell_on bw20 hHeld.2.1, cell_on bw20 hHeld.2.2.1, cell_on bw20 hHeld.2.2.2.1, cell_on bw20 hHeld.2.2.2.2.1, cell_on bw20 hHeld.2.2.2.2.2.1, cell_on bw20 hHeld.2.2.2.2.2.2.1, cell_on bw20 hHeld.2.2.2.2.2.2.2.1, cell_on bw20 hHeld.2.2.2.2.2.2.2.2.1, cell_on bw20 hHeld.2.2.2.2.2.2.2.2.2.1, cell_on bw20 hHeld.2.2.2.2.2.2.2.2.2.2.1, cell_on bw20 hHeld.2.2.2.2.2.2.2.2.2.2.2.1, cell_on bw20 hHeld.2.2.2.2.2.2.2.2.2.2.2.2.1, cell_on bw20 hHeld.2.2.2.2.2.2.2.2.2.2.2.2.2.1, cell_on bw20 hHeld.2.2.2.2.2.2.2.2.2.2.2.2.2.2.1, cell_on bw20 hHeld.2.2.2.2.2.2.2.2.2.2.2.2.2.2.2.1, cell_on bw20 hHeld.2.2.2.2.2.2.2.2.2.2.2.2.2.2.2.2.1, cell_on bw20 hHeld.2.2.2.2.2.2.2.2.2.2.2.2.2.2.2.2.2.1, cell_on bw20 hHeld.2.2.2.2.2.2.2.2.2.2.2.2.2.2.2.2.2.2.1, cell_on bw20 hHeld.2.2.2.2.2.2.2.2.2.2.2.2.2.2.2.2.2.2.2.1, also hHeld.2.2.2.2.2.2.2.2.2.2.2.2.2.2.2.2.2.2.2.2 bw20⟩ | exact ⟨cell_on bw17 hHeld.1, cell_on bw17 hHeld.2.1, cell_on bw17 hHeld.2.2.1, cell_on bw17 hHeld.2.2.2.1, cell_on bw17 hHeld.2.2.2.2.1, cell_on bw17 hHeld.2.2.2.2.2.1, cell_on bw17 hHeld.2.2.2.2.2.2.1, cell_on bw17 hHeld.2.2.2.2.2.2.2.1, cell_on bw17 hHeld.2.2.2.2.2.2.2.2.1, cell_on bw17 hHeld.2.2.2.2.2.2.2.2.2.1, cell_on bw17 hHeld.2.2.2.2.2.2.2.2.2.2.1, cell_on bw17 hHeld.2.2.2.2.2.2.2.2.2.2.2.1, cell_on bw17 hHeld.2.2.2.2.2.2.2.2.2.2.2.2.1, cell_on bw17 hHeld.2.2.2.2.2.2.2.2.2.2.2.2.2.1, cell_on bw17 hHeld.2.2.2.2.2.2.2.2.2.2.2.2.2.2.1, cell_on bw17 hHeld.2.2.2.2.2.2.2.2.2.2.2.2.2.2.2.1, cell_on bw17 hHeld.2.2.2.2.2.2.2.2.2.2.2.2.2.2.2.2.1, cell_on bw17 hHeld.2.2.2.2.2.2.2.2.2.2.2.2.2.2.2.2.2.1, cell_on bw17 hHeld.2.2.2.2.2.2.2.2.2.2.2.2.2.2.2.2.2.2.1, cell_on bw17 hHeld.2.2.2.2.2.2.2.2.2.2.2.2.2.2.2.2.2.2.2.1, also hHeld.2.2.2.2.2.2.2.2.2.2.2.2.2.2.2.2.2.2.2.2 bw17⟩ | exact ⟨cell_on bw16 hHeld.1, cell_on bw16 hHeld.2.1, cell_on bw16 hHeld.2.2.1, cell_on bw16 hHeld.2.2.2.1, cell_on bw16 hHeld.2.2.2.2.1, cell_on bw16 hHeld.2.2.2.2.2.1, cell_on bw16 hHeld.2.2.2.2.2.2.1, cell_on bw16 hHeld.2.2.2.2.2.2.2.1, cell_on bw16 hHeld.2.2.2.2.2.2.2.2.1, cell_on bw16 hHeld.2.2.2.2.2.2.2.2.2.1, cell_on bw16 hHeld.2.2.2.2.2.2.2.2.2.2.1, cell_on bw16 hHeld.2.2.2.2.2.2.2.2.2.2.2.1, cell_on bw16 hHeld.2.2.2.2.2.2.2.2.2.2.2.2.1, cell_on bw16 hHeld.2.2.2.2.2.2.2.2.2.2.2.2.2.1, cell_on bw16 hHeld.2.2.2.2.2.2.2.2.2.2.2.2.2.2.1, cell_on bw16 hHeld.2.2.2.2.2.2.2.2.2.2.2.2.2.2.2.1, cell_on bw16 hHeld.2.2.2.2.2.2.2.2.2.2.2.2.2.2.2.2.1, cell_on bw16 hHeld.2.2.2.2.2.2.2.2.2.2.2.2.2.2.2.2.2.1, cell_on bw16 hHeld.2.2.2.2.2.2.2.2.2.2.2.2.2.2.2.2.2.2.1, cell_on bw16 hHeld.2.2.2.2.2.2.2.2.2.2.2.2.2.2.2.2.2.2.2.1, also hHeld.2.2.2.2.2.2.2.2.2.2.2.2.2.2.2.2.2.2.2.2 bw16⟩ | exact ⟨cell_on bw15 hHeld.1, cell_on bw15 hHeld.2.1, cell_on bw15 hHeld.2.2.1, cell_on bw15 hHeld.2.2.2.1, cell_on bw15 hHeld.2.2.2.2.1, cell_on bw15 hHeld.2.2.2.2.2.1, cell_on bw15 hHeld.2.2.2.2.2.2.1, cell_on bw15 hHeld.2.2.2.2.2.2.2.1, cell_on bw15 hHeld.2.2.2.2.2.2.2.2.1, cell_on bw15 hHeld.2.2.2.2.2.2.2.2.2.1, cell_on bw15 hHeld.2.2.2.2.2.2.2.2.2.2.1, cell_on bw15 hHeld.2.2.2.2.2.2.2.2.2.2.2.1, cell_on bw15 hHeld.2.2.2.2.2.2.2.2.2.2.2.2.1, cell_on bw15 hHeld.2.2.2.2.2.2.2.2.2.2.2.2.2.1, cell_on bw15 hHeld.2.2.2.2.2.2.2.2.2.2.2.2.2.2.1, cell_on bw15 hHeld.2.2.2.2.2.2.2.2.2.2.2.2.2.2.2.1, cell_on bw15 hHeld.2.2.2.2.2.2.2.2.2.2.2.2.2.2.2.2.1, cell_on bw15 hHeld.2.2.2.2.2.2.2.2.2.2.2.2.2.2.2.2.2.1, cell_on bw15 hHeld.2.2.2.2.2.2.2.2.2.2.2.2.2.2.2.2.2.2.1, cell_on bw15 hHeld.2.2.2.2.2.2.2.2.2.2.2.2.2.2.2.2.2.2.2.1, also hHeld.2.2.2.2.2.2.2.2.2.2.2.2.2.2.2.2.2.2.2.2 bw15⟩ | exact ⟨cell_on bw14 hHeld.1, cell_on bw14 hHeld.2.1, cell_on bw14 hHeld.2.2.1, cell_on bw14 hHeld.2.2.2.1, cell_on bw14 hHeld.2.2.2.2.1, cell_on bw14 hHeld.2.2.2.2.2.1, cell_on bw14 hHeld.2.2.2.2.2.2.1, cell_on bw14 hHeld.2.2.2.2.2.2.2.1, cell_on bw14 hHeld.2.2.2.2.2.2.2.2.1, cell_on bw14 hHeld.2.2.2.2.2.2.2.2.2.1, cell_on bw14 hHeld.2.2.2.2.2.2.2.2.2.2.1, cell_on bw14 hHeld.2.2.2.2.2.2.2.2.2.2.2.1, cell_on bw14 hHeld.2.2.2.2.2.2.2.2.2.2.2.2.1, cell_on bw14 hHeld.2.2.2.2.2.2.2.2.2.2.2.2.2.1, cell_on bw14 hHeld.2.2.2.2.2.2.2.2.2.2.2.2.2.2.1, cell_on bw14 hHeld.2.2.2.2.2.2.2.2.2.2.2.2.2.2.2.1, cell_on bw14 hHeld.2.2.2.2.2.2.2.2.2.2.2.2.2.2.2.2.1, cell_on bw14 hHeld.2.2.2.2.2.2.2.2.2.2.2.2.2.2.2.2.2.1, cell_on bw14 hHeld.2.2.2.2.2.2.2.2.2.2.2.2.2.2.2.2.2.2.1, cell_on bw14 hHeld.2.2.2.2.2.2.2.2.2.2.2.2.2.2.2.2.2.2.2.1, also hHeld.2.2.2.2.2.2.2.2.2.2.2.2.2.2.2.2.2.2.2.2 bw14⟩ | exact ⟨cell_on bw13 hHeld.1, cell_on bw13 hHeld.2.1, cell_on bw13 hHeld.2.2.1, cell_on bw13 hHeld.2.2.2.1, cell_on bw13 hHeld.2.2.2.2.1, cell_on bw13 hHeld.2.2.2.2.2.1, cell_on bw13 hHeld.2.2.2.2.2.2.1, cell_on bw13 hHeld.2.2.2.2.2.2.2.1, cell_on bw13 hHeld.2.2.2.2.2.2.2.2.1, cell_on bw13 hHeld.2.2.2.2.2.2.2.2.2.1, cell_on bw13 hHeld.2.2.2.2.2.2.2.2.2.2.1, cell_on bw13 hHeld.2.2.2.2.2.2.2.2.2.2.2.1, cell_on bw13 hHeld.2.2.2.2.2.2.2.2.2.2.2.2.1, cell_on bw13 hHeld.2.2.2.2.2.2.2.2.2.2.2.2.2.1, cell_on bw13 hHeld.2.2.2.2.2.2.2.2.2.2.2.2.2.2.1, cell_on bw13 hHeld.2.2.2.2.2.2.2.2.2.2.2.2.2.2.2.1, cell_on bw13 hHeld.2.2.2.2.2.2.2.2.2.2.2.2.2.2.2.2.1, cell_on bw13 hHeld.2.2.2.2.2.2.2.2.2.2.2.2.2.2.2.2.2.1, cell_on bw13 hHeld.2.2.2.2.2.2.2.2.2.2.2.2.2.2.2.2.2.2.1, cell_on bw13 hHeld.2.2.2.2.2.2.2.2.2.2.2.2.2.2.2.2.2.2.2.1, also hHeld.2.2.2.2.2.2.2.2.2.2.2.2.2.2.2.2.2.2.2.2 bw13⟩
  clear hK Kc
  have zbw15 := bw15.size
  replace BB := also BB bw15
  replace x_a := x_a.on bw15
  replace q1 := q1.below bw15
  replace x2 := x2.below bw15
  replace x_x := x_x.on bw15
  replace h3 := h3.below bw15
  replace h4 := h4.below bw15
  replace x_f := x_f.on bw15
  replace x_n := x_n.on bw15
  replace x_h := x_h.on bw15
  replace hh := hh.below bw15
  replace x9 := x9.below bw15
  replace x_dd := x_dd.on bw15
  replace x12 := x12.below bw15
  replace x_ee := x_ee.on bw15
  replace r13 := r13.below bw15
  refine take_call (i := 8) rfl (by kernel_rfl) (fun Kc hK => ?_)
  go_simp
  (go_at_call 27; refine (rwSame n4 s15 a4 d15 l4 c4 l15 c15 M _ h4 r15 HMf.out).mono ?_; rintro e w16 ⟨rfl, bw16⟩)
  refine hK.out _ _ ?_ (fun hHeld => ?_)
  · first | exact ⟨x_f.c0, x_f.c1, x_x.c0, x_x.c1, x_x.c2, x_x.c3, x_n.c0, x_n.c1, x_dd.c0, x_dd.c1, x_dd.c2, x_dd.c3, x_h.c0, x_h.c1, x_h.c2, x_h.c3, x_ee.c0, x_ee.c1, x_ee.c2, x_ee.c3, BB⟩ | exact ⟨cell_on bw36 hHeld.1, cell_on bw36 hHeld.2.1, cell_on bw36 hHeld.2.2.1, cell_on bw36 hHeld.2.2.2.1, cell_on bw36 hHeld.2.2.2.2.1, cell_on bw36 hHeld.2.2.2.2.2.1, cell_on bw36 hHeld.2.2.2.2.2.2.1, cell_on bw36 hHeld.2.2.2.2.2.2.2.1, cell_on bw36 hHeld.2.2.2.2.2.2.2.2.1, cell_on bw36 hHeld.2.2.2.2.2.2.2.2.2.1, cell_on bw36 hHeld.2.2.2.2.2.2.2.2.2.2.1, cell_on bw36 hHeld.2.2.2.2.2.2.2.2.2.2.2.1, cell_on bw36 hHeld.2.2.2.2.2.2.2.2.2.2.2.2.1, cell_on bw36 hHeld.2.2.2.2.2.2.2.2.2.2.2.2.2.1, cell_on bw36 hHeld.2.2.2.2.2.2.2.2.2.2.2.2.2.2.1, cell_on bw36 hHeld.2.2.2.2.2.2.2.2.2.2.2.2.2.2.2.1, cell_on bw36 hHeld.2.2.2.2.2.2.2.2.2.2.2.2.2.2.2.2.1, cell_on bw36 hHeld.2.2.2.2.2.2.2.2.2.2.2.2.2.2.2.2.2.1, cell_on bw36 hHeld.2.2.2.2.2.2.2.2.2.2.2.2.2.2.2.2.2.2.1, cell_on bw36 hHeld.2.2.2.2.2.2.2.2.2.2.2.2.2.2.2.2.2.2.2.1, also hHeld.2.2.2.2.2.2.2.2.2.2.2.2.2.2.2.2.2.2.2.2 bw36⟩ | exact ⟨cell_on bw32 hHeld.1, cell_on bw32 hHeld.2.1, cell_on bw32 hHeld.2.2.1, cell_on bw32 hHeld.2.2.2.1, cell_on bw32 hHeld.2.2.2.2.1, cell_on bw32 hHeld.2.2.2.2.2.1, cell_on bw32 hHeld.2.2.2.2.2.2.1, cell_on bw32 hHeld.2.2.2.2.2.2.2.1, cell_on bw32 hHeld.2.2.2.2.2.2.2.2.1, cell_on bw32 hHeld.2.2.2.2.2.2.2.2.2.1, cell_on bw32 hHeld.2.2.2.2.2.2.2.2.2.2.1, cell_on bw32 hHeld.2.2.2.2.2.2.2.2.2.2.2.1, cell_on bw32 hHeld.2.2.2.2.2.2.2.2.2.2.2.2.1, cell_on bw32 hHeld.2.2.2.2.2.2.2.2.2.2.2.2.2.1, cell_on bw32 hHeld.2.2.2.2.2.2.2.2.2.2.2.2.2.2.1, cell_on bw32 hHeld.2.2.2.2.2.2.2.2.2.2.2.2.2.2.2.1, cell_on bw32 hHeld.2.2.2.2.2.2.2.2.2.2.2.2.2.2.2.2.1, cell_on bw32 hHeld.2.2.2.2.2.2.2.2.2.2.2.2.2.2.2.2.2.1, cell_on bw32 hHeld.2.2.2.2.2.2.2.2.2.2.2.2.2.2.2.2.2.2.1, cell_on bw32 hHeld.2.2.2.2.2.2.2.2.2.2.2.2.2.2.2.2.2.2.2.1, also hHeld.2.2.2.2.2.2.2.2.2.2.2.2.2.2.2.2.2.2.2.2 bw32⟩ | exact ⟨cell_on bw31 hHeld.1, cell_on bw31 hHeld.2.1, cell_on bw31 hHeld.2.2.1, cell_on bw31 hHeld.2.2.2.1, cell_on bw31 hHeld.2.2.2.2.1, cell_on bw31 hHeld.2.2.2.2.2.1, cell_on bw31 hHeld.2.2.2.2.2.2.1, cell_on bw31 hHeld.2.2.2.2.2.2.2.1, cell_on bw31 hHeld.2.2.2.2.2.2.2.2.1, cell_on bw31 hHeld.2.2.2.2.2.2.2.2.2.1, cell_on bw31 hHeld.2.2.2.2.2.2.2.2.2.2.1, cell_on bw31 hHeld.2.2.2.2.2.2.2.2.2.2.2.1, cell_on bw31 hHeld.2.2.2.2.2.2.2.2.2.2.2.2.1, cell_on bw31 hHeld.2.2.2.2.2.2.2.2.2.2.2.2.2.1, cell_on bw31 hHeld.2.2.2.2.2.2.2.2.2.2.2.2.2.2.1, cell_on bw31 hHeld.2.2.2.2.2.2.2.2.2.2.2.2.2.2.2.1, cell_on bw31 hHeld.2.2.2.2.2.2.2.2.2.2.2.2.2.2.2.2.1, cell_on bw31 hHeld.2.2.2.2.2.2.2.2.2.2.2.2.2.2.2.2.2.1, cell_on bw31 hHeld.2.2.2.2.2.2.2.2.2.2.2.2.2.2.2.2.2.2.1, cell_on bw31 hHeld.2.2.2.2.2.2.2.2.2.2.2.2.2.2.2.2.2.2.2.1, also hHeld.2.2.2.2.2.2.2.2.2.2.2.2.2.2.2.2.2.2.2.2 bw31⟩ | exact ⟨cell_on bw21 hHeld.1, cell_on bw21 hHeld.2.1, cell_on bw21 hHeld.2.2.1, cell_on bw21 hHeld.2.2.2.1, cell_on bw21 hHeld.2.2.2.2.1, cell_on bw21 hHeld.2.2.2.2.2.1, cell_on bw21 hHeld.2.2.2.2.2.2.1, cell_on bw21 hHeld.2.2.2.2.2.2.2.1, cell_on bw21 hHeld.2.2.2.2.2.2.2.2.1, cell_on bw21 hHeld.2.2.2.2.2.2.2.2.2.1, cell_on bw21 hHeld.2.2.2.2.2.2.2.2.2.2.1, cell_on bw21 hHeld.2.2.2.2.2.2.2.2.2.2.2.1, cell_on bw21 hHeld.2.2.2.2.2.2.2.2.2.2.2.2.1, cell_on bw21 hHeld.2.2.2.2.2.2.2.2.2.2.2.2.2.1, cell_on bw21 hHeld.2.2.2.2.2.2.2.2.2.2.2.2.2.2.1, cell_on bw21 hHeld.2.2.2.2.2.2.2.2.2.2.2.2.2.2.2.1, cell_on bw21 hHeld.2.2.2.2.2.2.2.2.2.2.2.2.2.2.2.2.1, cell_on bw21 hHeld.2.2.2.2.2.2.2.2.2.2.2.2.2.2.2.2.2.1, cell_on bw21 hHeld.2.2.2.2.2.2.2.2.2.2.2.2.2.2.2.2.2.2.1, cell_on bw21 hHeld.2.2.2.2.2.2.2.2.2.2.2.2.2.2.2.2.2.2.2.1, also hHeld.2.2.2.2.2.2.2.2.2.2.2.2.2.2.2.2.2.2.2.2 bw21⟩ | exact ⟨cell_on bw20 hHeld.1, cell_on bw20 hHeld.2.1, cell_on bw20 hHeld.2.2.1, cell_on bw20 hHeld.2.2.2.1, cell_on bw20 hHeld.2.2.2.2.1, cell_on bw20 hHeld.2.2.2.2.2.1, cell_on bw20 hHeld.2.2.2.2.2.2.1, cell_on bw20 hHeld.2.2.2.2.2.2.2.1, cell_on bw20 hHeld.2.2.2.2.2.2.2.2.1, cell_on bw20 hHeld.2.2.2.2.2.2.2.2.2.1, cell_on bw20 hHeld.2.2.2.2.2.2.2.2.2.2.1, cell_on bw20 hHeld.2.2.2.2.2.2.2.2.2.2.2.1, cell_on bw20 hHeld.2.2.2.2.2.2.2.2.2.2.2.2.1, cell_on bw20 hHeld.2.2.2.2.2.2.2.2.2.2.2.2.2.1, cell_on bw20 hHeld.2.2.2.2.2.2.2.2.2.2.2.2.2.2.1, cell_on bw20 hHeld.2.2.2.2.2.2.2.2.2.2.2.2.2.2.2.1, cell_on bw20 hHeld.2.2.2.2.2.2.2.2.2.2.2.2.2.2.2.2.1, cell_on bw20 hHeld.2.2.2.2.2.2.2.2.2.2.2.2.2.2.2.2.2.1, cell_on bw20 hHeld.2.2.2.2.2.2.2.2.2.2.2.2.2.2.2.2.2.2.1, cell_on bw20 hHeld.2.2.2.2.2.2.2.2.2.2.2.2.2.2.2.2.2.2.2.1, also hHeld.2.2.2.2.2.2.2.2.2.2.2.2.2.2.2.2.2.2.2.2 bw20⟩ | exact ⟨cell_on bw17 hHeld.1, cell_on bw17 hHeld.2.1, cell_on bw17 hHeld.2.2.1, cell_on bw17 hHeld.2.2.2.1, cell_on bw17 hHeld.2.2.2.2.1, cell_on bw17 hHeld.2.2.2.2.2.1, cell_on bw17 hHeld.2.2.2.2.2.2.1, cell_on bw17 hHeld.2.2.2.2.2.2.2.1, cell_on bw17 hHeld.2.2.2.2.2.2.2.2.1, cell_on bw17 hHeld.2.2.2.2.2.2.2.2.2.1, cell_on bw17 hHeld.2.2.2.2.2.2.2.2.2.2.1, cell_on bw17 hHeld.2.2.2.2.2.2.2.2.2.2.2.1, cell_on bw17 hHeld.2.2.2.2.2.2.2.2.2.2.2.2.1, cell_on bw17 hHeld.2.2.2.2.2.2.2.2.2.2.2.2.2.1, cell_on bw17 hHeld.2.2.2.2.2.2.2.2.2.2.2.2.2.2.1, cell_on bw17 hHeld.2.2.2.2.2.2.2.2.2.2.2.2.2.2.2.1, cell_on bw17 hHeld.2.2.2.2.2.2.2.2.2.2.2.2.2.2.2.2.1, cell_on bw17 hHeld.2.2.2.2.2.2.2.2.2.2.2.2.2.2.2.2.2.1, cell_on bw17 hHeld.2.2.2.2.2.2.2.2.2.2.2.2.2.2.2.2.2.2.1, cell_on bw17 hHeld.2.2.2.2.2.2.2.2.2.2.2.2.2.2.2.2.2.2.2.1, also hHeld.2.2.2.2.2.2.2.2.2.2.2.2.2.2.2.2.2.2.2.2 bw17⟩ | exact ⟨cell_on bw16 hHeld.1, cell_on bw16 hHeld.2.1, cell_on bw16 hHeld.2.2.1, cell_on bw16 hHeld.2.2.2.1, cell_on bw16 hHeld.2.2.2.2.1, cell_on bw16 hHeld.2.2.2.2.2.1, cell_on bw16 hHeld.2.2.2.2.2.2.1, cell_on bw16 hHeld.2.2.2.2.2.2.2.1, cell_on bw16 hHeld.2.2.2.2.2.2.2.2.1, cell_on bw16 hHeld.2.2.2.2.2.2.2.2.2.1, cell_on bw16 hHeld.2.2.2.2.2.2.2.2.2.2.1, cell_on bw16 hHeld.2.2.2.2.2.2.2.2.2.2.2.1, cell_on bw16 hHeld.2.2.2.2.2.2.2.2.2.2.2.2.1, cell_on bw16 hHeld.2.2.2.2.2.2.2.2.2.2.2.2.2.1, cell_on bw16 hHeld.2.2.2.2.2.2.2.2.2.2.2.2.2.2.1, cell_on bw16 hHeld.2.2.2.2.2.2.2.2.2.2.2.2.2.2.2.1, cell_on bw16 hHeld.2.2.2.2.2.2.2.2.2.2.2.2.2.2.2.2.1, cell_on bw16 hHeld.2.2.2.2.2.2.2.2.2.2.2.2.2.2.2.2.2.1, cell_on bw16 hHeld.2.2.2.2.2.2.2.2.2.2.2.2.2.2.2.2.2.2.1, cell_on bw16 hHeld.2.2.2.2.2.2.2.2.2.2.2.2.2.2.2.2.2.2.2.1, also hHeld.2.2.2.2.2.2.2.2.2.2.2.2.2.2.2.2.2.2.2.2 bw16⟩ | exact ⟨cell_on bw15 hHeld.1, cell_on bw15 hHeld.2.1, cell_on bw15 hHeld.2.2.1, cell_on bw15 hHeld.2.2.2.1, cell_on bw15 hHeld.2.2.2.2.1, cell_on bw15 hHeld.2.2.2.2.2.1, cell_on bw15 hHeld.2.2.2.2.2.2.1, cell_on bw15 hHeld.2.2.2.2.2.2.2.1, cell_on bw15 hHeld.2.2.2.2.2.2.2.2.1, cell_on bw15 hHeld.2.2.2.2.2.2.2.2.2.1, cell_on bw15 hHeld.2.2.2.2.2.2.2.2.2.2.1, cell_on bw15 hHeld.2.2.2.2.2.2.2.2.2.2.2.1, cell_on bw15 hHeld.2.2.2.2.2.2.2.2.2.2.2.2.1, cell_on bw15 hHeld.2.2.2.2.2.2.2.2.2.2.2.2.2.1, cell_on bw15 hHeld.2.2.2.2.2.2.2.2.2.2.2.2.2.2.1, cell_on bw15 hHeld.2.2.2.2.2.2.2.2.2.2.2.2.2.2.2.1, cell_on bw15 hHeld.2.2.2.2.2.2.2.2.2.2.2.2.2.2.2.2.1, cell_on bw15 hHeld.2.2.2.2.2.2.2.2.2.2.2.2.2.2.2.2.2.1, cell_on bw15 hHeld.2.2.2.2.2.2.2.2.2.2.2.2.2.2.2.2.2.2.1, cell_on bw15 hHeld.2.2.2.2.2.2.2.2.2.2.2.2.2.2.2.2.2.2.2.1, also hHeld.2.2.2.2.2.2.2.2.2.2.2.2.2.2.2.2.2.2.2.2 bw15⟩ | exact ⟨cell_on bw14 hHeld.1, cell_on bw14 hHeld.2.1, cell_on bw14 hHeld.2.2.1, cell_on bw14 hHeld.2.2.2.1, cell_on bw14 hHeld.2.2.2.2.1, cell_on bw14 hHeld.2.2.2.2.2.1, cell_on bw14 hHeld.2.2.2.2.2.2.1, cell_on bw14 hHeld.2.2.2.2.2.2.2.1, cell_on bw14 hHeld.2.2.2.2.2.2.2.2.1, cell_on bw14 hHeld.2.2.2.2.2.2.2.2.2.1, cell_on bw14 hHeld.2.2.2.2.2.2.2.2.2.2.1, cell_on bw14 hHeld.2.2.2.2.2.2.2.2.2.2.2.1, cell_on bw14 hHeld.2.2.2.2.2.2.2.2.2.2.2.2.1, cell_on bw14 hHeld.2.2.2.2.2.2.2.2.2.2.2.2.2.1, cell_on bw14 hHeld.2.2.2.2.2.2.2.2.2.2.2.2.2.2.1, cell_on bw14 hHeld.2.2.2.2.2.2.2.2.2.2.2.2.2.2.2.1, cell_on bw14 hHeld.2.2.2.2.2.2.2.2.2.2.2.2.2.2.2.2.1, cell_on bw14 hHeld.2.2.2.2.2.2.2.2.2.2.2.2.2.2.2.2.2.1, cell_on bw14 hHeld.2.2.2.2.2.2.2.2.2.2.2.2.2.2.2.2.2.2.1, cell_on bw14 hHeld.2.2.2.2.2.2.2.2.2.2.2.2.2.2.2.2.2.2.2.1, also hHeld.2.2.2.2.2.2.2.2.2.2.2.2.2.2.2.2.2.2.2.2 bw14⟩ | exact ⟨cell_on bw13 hHeld.1, cell_on bw13 hHeld.2.1, cell_on bw13 hHeld.2.2.1, cell_on bw13 hHeld.2.2.2.1, cell_on bw13 hHeld.2.2.2.2.1, cell_on bw13 hHeld.2.2.2.2.2.1, cell_on bw13 hHeld.2.2.2.2.2.2.1, cell_on bw13 hHeld.2.2.2.2.2.2.2.1, cell_on bw13 hHeld.2.2.2.2.2.2.2.2.1, cell_on bw13 hHeld.2.2.2.2.2.2.2.2.2.1, cell_on bw13 hHeld.2.2.2.2.2.2.2.2.2.2.1, cell_on bw13 hHeld.2.2.2.2.2.2.2.2.2.2.2.1, cell_on bw13 hHeld.2.2.2.2.2.2.2.2.2.2.2.2.1, cell_on bw13 hHeld.2.2.2.2.2.2.2.2.2.2.2.2.2.1, cell_on bw13 hHeld.2.2.2.2.2.2.2.2.2.2.2.2.2.2.1, cell_on bw13 hHeld.2.2.2.2.2.2.2.2.2.2.2.2.2.2.2.1, cell_on bw13 hHeld.2.2.2.2.2.2.2.2.2.2.2.2.2.2.2.2.1, cell_on bw13 hHeld.2.2.2.2.2.2.2.2.2.2.2.2.2.2.2.2.2.1, cell_on bw13 hHeld.2.2.2.2.2.2.2.2.2.2.2.2.2.2.2.2.2.2.1, cell_on bw13 hHeld.2.2.2.2.2.2.2.2.2.2.2.2.2.2.2.2.2.2.2.1, also hHeld.2.2.2.2.2.2.2.2.2.2.2.2.2.2.2.2.2.2.2.2 bw13⟩
  clear hK Kc
  have zbw16 := bw16.size
  replace BB := also BB bw16
  replace x_a := x_a.on bw16
  replace q1 := q1.below bw16
  replace x2 := x2.below bw16
  replace x_x := x_x.on bw16
  replace h3 := h3.below bw16
  replace h4 := h4.below bw16
  replace x_f := x_f.on bw16
  replace x_n := x_n.on bw16
  replace x_h := x_h.on bw16
  replace hh := hh.below bw16
  replace x9 := x9.below bw16
  replace x_dd := x_dd.on bw16
  replace x12 := x12.below bw16
  replace x_ee := x_ee.on bw16
  replace r13 := r13.below bw16
  replace r15 := r15.below bw16
  refine take_yes (i := 9) (v := ?vw9) rfl (by kernel_rfl) (by kernel_rfl) (by kernel_rfl) (fun _ _ _ h => h) (by rfl) (by assumption) ?hyw9 ?restw9
  case hyw9 => (intro w hSw; (try dsimp only at hSw); first | (go_simp; done) | (go_simp; with_reducible rfl))
  simp only [Act.put, List.setIfInBounds_toArray, List.set_cons_zero, List.set_cons_succ]
  refine take_yes (i := 10) (v := ?vw10) rfl (by kernel_rfl) (by kernel_rfl) (by kernel_rfl) (fun _ _ _ h => h) (by rfl) (by assumption) ?hyw10 ?restw10
  case hyw10 => (intro w hSw; (try dsimp only at hSw); first | (go_simp; done) | (go_simp; with_reducible rfl))
  simp only [Act.put, List.setIfInBounds_toArray, List.set_cons_zero, List.set_cons_succ]
  refine take_yes (i := 11) (v := ?vw11) rfl (by kernel_rfl) (by kernel_rfl) (by kernel_rfl) (fun _ _ _ h => h) (by rfl) (by assumption) ?hyw11 ?restw11
  case hyw11 => (intro w hSw; (try dsimp only at hSw); first | (go_simp; done) | (go_simp; with_reducible rfl))
  simp only [Act.put, List.setIfInBounds_toArray, List.set_cons_zero, List.set_cons_succ]
  refine take_yes (i := 12) (v := ?vw12) rfl (by kernel_rfl) (by kernel_rfl) (by kernel_rfl) (fun _ _ _ h => h) (by rfl) (by assumption) ?hyw12 ?restw12
  case hyw12 => (intro w hSw; (try dsimp only at hSw); first | (go_simp; done) | (go_simp; with_reducible rfl))
  simp only [Act.put, List.setIfInBounds_toArray, List.set_cons_zero, List.set_cons_succ]
  refine take_call (i := 13) rfl (by kernel_rfl) (fun Kc hK => ?_)
  go_simp
  (go_at_call 30; refine (rqCmp s9 d9 l9 c9 t9 g9 h9 k9 N1 D1 s5 d5 l5 c5 s6 d6 l6 c6 1 2 19 _ x9 hh (by decide) HG1.out).mono ?_; rintro e w17 ⟨rfl, bw17⟩)
  refine hK.out _ _ ?_ (fun hHeld => ?_)
  · first | exact ⟨x_f.c0, x_f.c1, x_x.c0, x_x.c1, x_x.c2, x_x.c3, x_n.c0, x_n.c1, x_dd.c0, x_dd.c1, x_dd.c2, x_dd.c3, x_h.c0, x_h.c1, x_h.c2, x_h.c3, x_ee.c0, x_ee.c1, x_ee.c2, x_ee.c3, BB⟩ | exact ⟨cell_on bw36 hHeld.1, cell_on bw36 hHeld.2.1, cell_on bw36 hHeld.2.2.1, cell_on bw36 hHeld.2.2.2.1, cell_on bw36 hHeld.2.2.2.2.1, cell_on bw36 hHeld.2.2.2.2.2.1, cell_on bw36 hHeld.2.2.2.2.2.2.1, cell_on bw36 hHeld.2.2.2.2.2.2.2.1, cell_on bw36 hHeld.2.2.2.2.2.2.2.2.1, cell_on bw36 hHeld.2.2.2.2.2.2.2.2.2.1, cell_on bw36 hHeld.2.2.2.2.2.2.2.2.2.2.1, cell_on bw36 hHeld.2.2.2.2.2.2.2.2.2.2.2.1, cell_on bw36 hHeld.2.2.2.2.2.2.2.2.2.2.2.2.1, cell_on bw36 hHeld.2.2.2.2.2.2.2.2.2.2.2.2.2.1, cell_on bw36 hHeld.2.2.2.2.2.2.2.2.2.2.2.2.2.2.1, cell_on bw36 hHeld.2.2.2.2.2.2.2.2.2.2.2.2.2.2.2.1, cell_on bw36 hHeld.2.2.2.2.2.2.2.2.2.2.2.2.2.2.2.2.1, cell_on bw36 hHeld.2.2.2.2.2.2.2.2.2.2.2.2.2.2.2.2.2.1, cell_on bw36 hHeld.2.2.2.2.2.2.2.2.2.2.2.2.2.2.2.2.2.2.1, cell_on bw36 hHeld.2.2.2.2.2.2.2.2.2.2.2.2.2.2.2.2.2.2.2.1, also hHeld.2.2.2.2.2.2.2.2.2.2.2.2.2.2.2.2.2.2.2.2 bw36⟩ | exact ⟨cell_on bw32 hHeld.1, cell_on bw32 hHeld.2.1, cell_on bw32 hHeld.2.2.1, cell_on bw32 hHeld.2.2.2.1, cell_on bw32 hHeld.2.2.2.2.1, cell_on bw32 hHeld.2.2.2.2.2.1, cell_on bw32 hHeld.2.2.2.2.2.2.1, cell_on bw32 hHeld.2.2.2.2.2.2.2.1, cell_on bw32 hHeld.2.2.2.2.2.2.2.2.1, cell_on bw32 hHeld.2.2.2.2.2.2.2.2.2.1, cell_on bw32 hHeld.2.2.2.2.2.2.2.2.2.2.1, cell_on bw32 hHeld.2.2.2.2.2.2.2.2.2.2.2.1, cell_on bw32 hHeld.2.2.2.2.2.2.2.2.2.2.2.2.1, cell_on bw32 hHeld.2.2.2.2.2.2.2.2.2.2.2.2.2.1, cell_on bw32 hHeld.2.2.2.2.2.2.2.2.2.2.2.2.2.2.1, cell_on bw32 hHeld.2.2.2.2.2.2.2.2.2.2.2.2.2.2.2.1, cell_on bw32 hHeld.2.2.2.2.2.2.2.2.2.2.2.2.2.2.2.2.1, cell_on bw32 hHeld.2.2.2.2.2.2.2.2.2.2.2.2.2.2.2.2.2.1, cell_on bw32 hHeld.2.2.2.2.2.2.2.2.2.2.2.2.2.2.2.2.2.2.1, cell_on bw32 hHeld.2.2.2.2.2.2.2.2.2.2.2.2.2.2.2.2.2.2.2.1, also hHeld.2.2.2.2.2.2.2.2.2.2.2.2.2.2.2.2.2.2.2.2 bw32⟩ | exact ⟨cell_on bw31 hHeld.1, cell_on bw31 hHeld.2.1, cell_on bw31 hHeld.2.2.1, cell_on bw31 hHeld.2.2.2.1, cell_on bw31 hHeld.2.2.2.2.1, cell_on bw31 hHeld.2.2.2.2.2.1, cell_on bw31 hHeld.2.2.2.2.2.2.1, cell_on bw31 hHeld.2.2.2.2.2.2.2.1, cell_on bw31 hHeld.2.2.2.2.2.2.2.2.1, cell_on bw31 hHeld.2.2.2.2.2.2.2.2.2.1, cell_on bw31 hHeld.2.2.2.2.2.2.2.2.2.2.1, cell_on bw31 hHeld.2.2.2.2.2.2.2.2.2.2.2.1, cell_on bw31 hHeld.2.2.2.2.2.2.2.2.2.2.2.2.1, cell_on bw31 hHeld.2.2.2.2.2.2.2.2.2.2.2.2.2.1, cell_on bw31 hHeld.2.2.2.2.2.2.2.2.2.2.2.2.2.2.1, cell_on bw31 hHeld.2.2.2.2.2.2.2.2.2.2.2.2.2.2.2.1, cell_on bw31 hHeld.2.2.2.2.2.2.2.2.2.2.2.2.2.2.2.2.1, cell_on bw31 hHeld.2.2.2.2.2.2.2.2.2.2.2.2.2.2.2.2.2.1, cell_on bw31 hHeld.2.2.2.2.2.2.2.2.2.2.2.2.2.2.2.2.2.2.1, cell_on bw31 hHeld.2.2.2.2.2.2.2.2.2.2.2.2.2.2.2.2.2.2.2.1, also hHeld.2.2.2.2.2.2.2.2.2.2.2.2.2.2.2.2.2.2.2.2 bw31⟩ | exact ⟨cell_on bw21 hHeld.1, cell_on bw21 hHeld.2.1, cell_on bw21 hHeld.2.2.1, cell_on bw21 hHeld.2.2.2.1, cell_on bw21 hHeld.2.2.2.2.1, cell_on bw21 hHeld.2.2.2.2.2.1, cell_on bw21 hHeld.2.2.2.2.2.2.1, cell_on bw21 hHeld.2.2.2.2.2.2.2.1, cell_on bw21 hHeld.2.2.2.2.2.2.2.2.1, cell_on bw21 hHeld.2.2.2.2.2.2.2.2.2.1, cell_on bw21 hHeld.2.2.2.2.2.2.2.2.2.2.1, cell_on bw21 hHeld.2.2.2.2.2.2.2.2.2.2.2.1, cell_on bw21 hHeld.2.2.2.2.2.2.2.2.2.2.2.2.1, cell_on bw21 hHeld.2.2.2.2.2.2.2.2.2.2.2.2.2.1, cell_on bw21 hHeld.2.2.2.2.2.2.2.2.2.2.2.2.2.2.1, cell_on bw21 hHeld.2.2.2.2.2.2.2.2.2.2.2.2.2.2.2.1, cell_on bw21 hHeld.2.2.2.2.2.2.2.2.2.2.2.2.2.2.2.2.1, cell_on bw21 hHeld.2.2.2.2.2.2.2.2.2.2.2.2.2.2.2.2.2.1, cell_on bw21 hHeld.2.2.2.2.2.2.2.2.2.2.2.2.2.2.2.2.2.2.1, cell_on bw21 hHeld.2.2.2.2.2.2.2.2.2.2.2.2.2.2.2.2.2.2.2.1, also hHeld.2.2.2.2.2.2.2.2.2.2.2.2.2.2.2.2.2.2.2.2 bw21⟩ | exact ⟨cell_on bw20 hHeld.1, cell_on bw20 hHeld.2.1, cell_on bw20 hHeld.2.2.1, cell_on bw20 hHeld.2.2.2.1, cell_on bw20 hHeld.2.2.2.2.1, cell_on bw20 hHeld.2.2.2.2.2.1, cell_on bw20 hHeld.2.2.2.2.2.2.1, cell_on bw20 hHeld.2.2.2.2.2.2.2.1, cell_on bw20 hHeld.2.2.2.2.2.2.2.2.1, cell_on bw20 hHeld.2.2.2.2.2.2.2.2.2.1, cell_on bw20 hHeld.2.2.2.2.2.2.2.2.2.2.1, cell_on bw20 hHeld.2.2.2.2.2.2.2.2.2.2.2.1, cell_on bw20 hHeld.2.2.2.2.2.2.2.2.2.2.2.2.1, cell_on bw20 hHeld.2.2.2.2.2.2.2.2.2.2.2.2.2.1, cell_on bw20 hHeld.2.2.2.2.2.2.2.2.2.2.2.2.2.2.1, cell_on bw20 hHeld.2.2.2.2.2.2.2.2.2.2.2.2.2.2.2.1, cell_on bw20 hHeld.2.2.2.2.2.2.2.2.2.2.2.2.2.2.2.2.1, cell_on bw20 hHeld.2.2.2.2.2.2.2.2.2.2.2.2.2.2.2.2.2.1, cell_on bw20 hHeld.2.2.2.2.2.2.2.2.2.2.2.2.2.2.2.2.2.2.1, cell_on bw20 hHeld.2.2.2.2.2.2.2.2.2.2.2.2.2.2.2.2.2.2.2.1, also hHeld.2.2.2.2.2.2.2.2.2.2.2.2.2.2.2.2.2.2.2.2 bw20⟩ | exact ⟨cell_on bw17 hHeld.1, cell_on bw17 hHeld.2.1, cell_on bw17 hHeld.2.2.1, cell_on bw17 hHeld.2.2.2.1, cell_on bw17 hHeld.2.2.2.2.1, cell_on bw17 hHeld.2.2.2.2.2.1, cell_on bw17 hHeld.2.2.2.2.2.2.1, cell_on bw17 hHeld.2.2.2.2.2.2.2.1, cell_on bw17 hHeld.2.2.2.2.2.2.2.2.1, cell_on bw17 hHeld.2.2.2.2.2.2.2.2.2.1, cell_on bw17 hHeld.2.2.2.2.2.2.2.2.2.2.1, cell_on bw17 hHeld.2.2.2.2.2.2.2.2.2.2.2.1, cell_on bw17 hHeld.2.2.2.2.2.2.2.2.2.2.2.2.1, cell_on bw17 hHeld.2.2.2.2.2.2.2.2.2.2.2.2.2.1, cell_on bw17 hHeld.2.2.2.2.2.2.2.2.2.2.2.2.2.2.1, cell_on bw17 hHeld.2.2.2.2.2.2.2.2.2.2.2.2.2.2.2.1, cell_on bw17 hHeld.2.2.2.2.2.2.2.2.2.2.2.2.2.2.2.2.1, cell_on bw17 hHeld.2.2.2.2.2.2.2.2.2.2.2.2.2.2.2.2.2.1, cell_on bw17 hHeld.2.2.2.2.2.2.2.2.2.2.2.2.2.2.2.2.2.2.1, cell_on bw17 hHeld.2.2.2.2.2.2.2.2.2.2.2.2.2.2.2.2.2.2.2.1, also hHeld.2.2.2.2.2.2.2.2.2.2.2.2.2.2.2.2.2.2.2.2 bw17⟩ | exact ⟨cell_on bw16 hHeld.1, cell_on bw16 hHeld.2.1, cell_on bw16 hHeld.2.2.1, cell_on bw16 hHeld.2.2.2.1, cell_on bw16 hHeld.2.2.2.2.1, cell_on bw16 hHeld.2.2.2.2.2.1, cell_on bw16 hHeld.2.2.2.2.2.2.1, cell_on bw16 hHeld.2.2.2.2.2.2.2.1, cell_on bw16 hHeld.2.2.2.2.2.2.2.2.1, cell_on bw16 hHeld.2.2.2.2.2.2.2.2.2.1, cell_on bw16 hHeld.2.2.2.2.2.2.2.2.2.2.1, cell_on bw16 hHeld.2.2.2.2.2.2.2.2.2.2.2.1, cell_on bw16 hHeld.2.2.2.2.2.2.2.2.2.2.2.2.1, cell_on bw16 hHeld.2.2.2.2.2.2.2.2.2.2.2.2.2.1, cell_on bw16 hHeld.2.2.2.2.2.2.2.2.2.2.2.2.2.2.1, cell_on bw16 hHeld.2.2.2.2.2.2.2.2.2.2.2.2.2.2.2.1, cell_on bw16 hHeld.2.2.2.2.2.2.2.2.2.2.2.2.2.2.2.2.1, cell_on bw16 hHeld.2.2.2.2.2.2.2.2.2.2.2.2.2.2.2.2.2.1, cell_on bw16 hHeld.2.2.2.2.2.2.2.2.2.2.2.2.2.2.2.2.2.2.1, cell_on bw16 hHeld.2.2.2.2.2.2.2.2.2.2.2.2.2.2.2.2.2.2.2.1, also hHeld.2.2.2.2.2.2.2.2.2.2.2.2.2.2.2.2.2.2.2.2 bw16⟩ | exact ⟨cell_on bw15 hHeld.1, cell_on bw15 hHeld.2.1, cell_on bw15 hHeld.2.2.1, cell_on bw15 hHeld.2.2.2.1, cell_on bw15 hHeld.2.2.2.2.1, cell_on bw15 hHeld.2.2.2.2.2.1, cell_on bw15 hHeld.2.2.2.2.2.2.1, cell_on bw15 hHeld.2.2.2.2.2.2.2.1, cell_on bw15 hHeld.2.2.2.2.2.2.2.2.1, cell_on bw15 hHeld.2.2.2.2.2.2.2.2.2.1, cell_on bw15 hHeld.2.2.2.2.2.2.2.2.2.2.1, cell_on bw15 hHeld.2.2.2.2.2.2.2.2.2.2.2.1, cell_on bw15 hHeld.2.2.2.2.2.2.2.2.2.2.2.2.1, cell_on bw15 hHeld.2.2.2.2.2.2.2.2.2.2.2.2.2.1, cell_on bw15 hHeld.2.2.2.2.2.2.2.2.2.2.2.2.2.2.1, cell_on bw15 hHeld.2.2.2.2.2.2.2.2.2.2.2.2.2.2.2.1, cell_on bw15 hHeld.2.2.2.2.2.2.2.2.2.2.2.2.2.2.2.2.1, cell_on bw15 hHeld.2.2.2.2.2.2.2.2.2.2.2.2.2.2.2.2.2.1, cell_on bw15 hHeld.2.2.2.2.2.2.2.2.2.2.2.2.2.2.2.2.2.2.1, cell_on bw15 hHeld.2.2.2.2.2.2.2.2.2.2.2.2.2.2.2.2.2.2.2.1, also hHeld.2.2.2.2.2.2.2.2.2.2.2.2.2.2.2.2.2.2.2.2 bw15⟩ | exact ⟨cell_on bw14 hHeld.1, cell_on bw14 hHeld.2.1, cell_on bw14 hHeld.2.2.1, cell_on bw14 hHeld.2.2.2.1, cell_on bw14 hHeld.2.2.2.2.1, cell_on bw14 hHeld.2.2.2.2.2.1, cell_on bw14 hHeld.2.2.2.2.2.2.1, cell_on bw14 hHeld.2.2.2.2.2.2.2.1, cell_on bw14 hHeld.2.2.2.2.2.2.2.2.1, cell_on bw14 hHeld.2.2.2.2.2.2.2.2.2.1, cell_on bw14 hHeld.2.2.2.2.2.2.2.2.2.2.1, cell_on bw14 hHeld.2.2.2.2.2.2.2.2.2.2.2.1, cell_on bw14 hHeld.2.2.2.2.2.2.2.2.2.2.2.2.1, cell_on bw14 hHeld.2.2.2.2.2.2.2.2.2.2.2.2.2.1, cell_on bw14 hHeld.2.2.2.2.2.2.2.2.2.2.2.2.2.2.1, cell_on bw14 hHeld.2.2.2.2.2.2.2.2.2.2.2.2.2.2.2.1, cell_on bw14 hHeld.2.2.2.2.2.2.2.2.2.2.2.2.2.2.2.2.1, cell_on bw14 hHeld.2.2.2.2.2.2.2.2.2.2.2.2.2.2.2.2.2.1, cell_on bw14 hHeld.2.2.2.2.2.2.2.2.2.2.2.2.2.2.2.2.2.2.1, cell_on bw14 hHeld.2.2.2.2.2.2.2.2.2.2.2.2.2.2.2.2.2.2.2.1, also hHeld.2.2.2.2.2.2.2.2.2.2.2.2.2.2.2.2.2.2.2.2 bw14⟩ | exact ⟨cell_on bw13 hHeld.1, cell_on bw13 hHeld.2.1, cell_on bw13 hHeld.2.2.1, cell_on bw13 hHeld.2.2.2.1, cell_on bw13 hHeld.2.2.2.2.1, cell_on bw13 hHeld.2.2.2.2.2.1, cell_on bw13 hHeld.2.2.2.2.2.2.1, cell_on bw13 hHeld.2.2.2.2.2.2.2.1, cell_on bw13 hHeld.2.2.2.2.2.2.2.2.1, cell_on bw13 hHeld.2.2.2.2.2.2.2.2.2.1, cell_on bw13 hHeld.2.2.2.2.2.2.2.2.2.2.1, cell_on bw13 hHeld.2.2.2.2.2.2.2.2.2.2.2.1, cell_on bw13 hHeld.2.2.2.2.2.2.2.2.2.2.2.2.1, cell_on bw13 hHeld.2.2.2.2.2.2.2.2.2.2.2.2.2.1, cell_on bw13 hHeld.2.2.2.2.2.2.2.2.2.2.2.2.2.2.1, cell_on bw13 hHeld.2.2.2.2.2.2.2.2.2.2.2.2.2.2.2.1, cell_on bw13 hHeld.2.2.2.2.2.2.2.2.2.2.2.2.2.2.2.2.1, cell_on bw13 hHeld.2.2.2.2.2.2.2.2.2.2.2.2.2.2.2.2.2.1, cell_on bw13 hHeld.2.2.2.2.2.2.2.2.2.2.2.2.2.2.2.2.2.2.1, cell_on bw13 hHeld.2.2.2.2.2.2.2.2.2.2.2.2.2.2.2.2.2.2.2.1, also hHeld.2.2.2.2.2.2.2.2.2.2.2.2.2.2.2.2.2.2.2.2 bw13⟩
  clear hK Kc
  have zbw17 := bw17.size
  replace BB := also BB bw17
  replace x_a := x_a.on bw17
  replace q1 := q1.below bw17
  replace x2 := x2.below bw17
  replace x_x := x_x.on bw17
  replace h3 := h3.below bw17
  replace h4 := h4.below bw17
  replace x_f := x_f.on bw17
  replace x_n := x_n.on bw17
  replace x_h := x_h.on bw17
  replace hh := hh.below bw17
  replace x9 := x9.below bw17
  replace x_dd := x_dd.on bw17
  replace x12 := x12.below bw17
  replace x_ee := x_ee.on bw17
  replace r13 := r13.below bw17
  replace r15 := r15.below bw17
  refine take_yes (i := 14) (v := ?vw14) rfl (by kernel_rfl) (by kernel_rfl) (by kernel_rfl) (fun _ _ _ h => h) (by rfl) (by assumption) ?hyw14 ?restw14
  case hyw14 => (intro w hSw; (try dsimp only at hSw); first | (go_simp; done) | (go_simp; with_reducible rfl))
  simp only [Act.put, List.setIfInBounds_toArray, List.set_cons_zero, List.set_cons_succ]
  refine take_yes (i := 15) (v := ?vw15) rfl (by kernel_rfl) (by kernel_rfl) (by kernel_rfl) (fun _ _ _ h => h) (by rfl) (by assumption) ?hyw15 ?restw15
  case hyw15 => (intro w hSw; (try dsimp only at hSw); first | (go_simp; done) | (go_simp; with_reducible rfl))
  simp only [Act.put, List.setIfInBounds_toArray, List.set_cons_zero, List.set_cons_succ]
  refine take_yes (i := 16) (v := ?vw16) rfl (by kernel_rfl) (by kernel_rfl) (by kernel_rfl) (fun _ _ _ h => h) (by rfl) (by assumption) ?hyw16 ?restw16
  case hyw16 => (intro w hSw; (try dsimp only at hSw); first | (go_simp; done) | (go_simp; with_reducible rfl))
  simp only [Act.put, List.setIfInBounds_toArray, List.set_cons_zero, List.set_cons_succ]
  refine take_yes (i := 17) (v := ?vw17) rfl (by kernel_rfl) (by kernel_rfl) (by kernel_rfl) (fun _ _ _ h => h) (by rfl) (by assumption) ?hyw17 ?restw17
  case hyw17 => (intro w hSw; (try dsimp only at hSw); first | (go_simp; done) | (go_simp; with_reducible rfl))
  simp only [Act.put, List.setIfInBounds_toArray, List.set_cons_zero, List.set_cons_succ]
  refine take_yes (i := 18) (v := ?vw18) rfl (by kernel_rfl) (by kernel_rfl) (by kernel_rfl) (fun _ _ _ h => h) (by rfl) (by assumption) ?hyw18 ?restw18
  case hyw18 => (intro w hSw; (try dsimp only at hSw); first | (go_simp; done) | (go_simp; with_reducible rfl))
  simp only [Act.put, List.setIfInBounds_toArray, List.set_cons_zero, List.set_cons_succ]
  refine take_call (i := 19) rfl (by kernel_rfl) (fun Kc hK => ?_)
  go_simp
  (go_at_call 15; refine (rqNeg s5 d5 l5 c5 s6 d6 l6 c6 1 2 19 _ hh (-1) rfl).mono ?_; rintro e w20 ⟨s20, d20, l20, c20, t20, g20, h20, k20, rfl, x20, r20, bw20⟩)
  refine hK.out _ _ ?_ (fun hHeld => ?_)
  · first | exact ⟨x_f.c0, x_f.c1, x_x.c0, x_x.c1, x_x.c2, x_x.c3, x_n.c0, x_n.c1, x_dd.c0, x_dd.c1, x_dd.c2, x_dd.c3, x_h.c0, x_h.c1, x_h.c2, x_h.c3, x_ee.c0, x_ee.c1, x_ee.c2, x_ee.c3, BB⟩ | exact ⟨cell_on bw36 hHeld.1, cell_on bw36 hHeld.2.1, cell_on bw36 hHeld.2.2.1, cell_on bw36 hHeld.2.2.2.1, cell_on bw36 hHeld.2.2.2.2.1, cell_on bw36 hHeld.2.2.2.2.2.1, cell_on bw36 hHeld.2.2.2.2.2.2.1, cell_on bw36 hHeld.2.2.2.2.2.2.2.1, cell_on bw36 hHeld.2.2.2.2.2.2.2.2.1, cell_on bw36 hHeld.2.2.2.2.2.2.2.2.2.1, cell_on bw36 hHeld.2.2.2.2.2.2.2.2.2.2.1, cell_on bw36 hHeld.2.2.2.2.2.2.2.2.2.2.2.1, cell_on bw36 hHeld.2.2.2.2.2.2.2.2.2.2.2.2.1, cell_on bw36 hHeld.2.2.2.2.2.2.2.2.2.2.2.2.2.1, cell_on bw36 hHeld.2.2.2.2.2.2.2.2.2.2.2.2.2.2.1, cell_on bw36 hHeld.2.2.2.2.2.2.2.2.2.2.2.2.2.2.2.1, cell_on bw36 hHeld.2.2.2.2.2.2.2.2.2.2.2.2.2.2.2.2.1, cell_on bw36 hHeld.2.2.2.2.2.2.2.2.2.2.2.2.2.2.2.2.2.1, cell_on bw36 hHeld.2.2.2.2.2.2.2.2.2.2.2.2.2.2.2.2.2.2.1, cell_on bw36 hHeld.2.2.2.2.2.2.2.2.2.2.2.2.2.2.2.2.2.2.2.1, also hHeld.2.2.2.2.2.2.2.2.2.2.2.2.2.2.2.2.2.2.2.2 bw36⟩ | exact ⟨cell_on bw32 hHeld.1, cell_on bw32 hHeld.2.1, cell_on bw32 hHeld.2.2.1, cell_on bw32 hHeld.2.2.2.1, cell_on bw32 hHeld.2.2.2.2.1, cell_on bw32 hHeld.2.2.2.2.2.1, cell_on bw32 hHeld.2.2.2.2.2.2.1, cell_on bw32 hHeld.2.2.2.2.2.2.2.1, cell_on bw32 hHeld.2.2.2.2.2.2.2.2.1, cell_on bw32 hHeld.2.2.2.2.2.2.2.2.2.1, cell_on bw32 hHeld.2.2.2.2.2.2.2.2.2.2.1, cell_on bw32 hHeld.2.2.2.2.2.2.2.2.2.2.2.1, cell_on bw32 hHeld.2.2.2.2.2.2.2.2.2.2.2.2.1, cell_on bw32 hHeld.2.2.2.2.2.2.2.2.2.2.2.2.2.1, cell_on bw32 hHeld.2.2.2.2.2.2.2.2.2.2.2.2.2.2.1, cell_on bw32 hHeld.2.2.2.2.2.2.2.2.2.2.2.2.2.2.2.1, cell_on bw32 hHeld.2.2.2.2.2.2.2.2.2.2.2.2.2.2.2.2.1, cell_on bw32 hHeld.2.2.2.2.2.2.2.2.2.2.2.2.2.2.2.2.2.1, cell_on bw32 hHeld.2.2.2.2.2.2.2.2.2.2.2.2.2.2.2.2.2.2.1, cell_on bw32 hHeld.2.2.2.2.2.2.2.2.2.2.2.2.2.2.2.2.2.2.2.1, also hHeld.2.2.2.2.2.2.2.2.2.2.2.2.2.2.2.2.2.2.2.2 bw32⟩ | exact ⟨cell_on bw31 hHeld.1, cell_on bw31 hHeld.2.1, cell_on bw31 hHeld.2.2.1, cell_on bw31 hHeld.2.2.2.1, cell_on bw31 hHeld.2.2.2.2.1, cell_on bw31 hHeld.2.2.2.2.2.1, cell_on bw31 hHeld.2.2.2.2.2.2.1, cell_on bw31 hHeld.2.2.2.2.2.2.2.1, cell_on bw31 hHeld.2.2.2.2.2.2.2.2.1, cell_on bw31 hHeld.2.2.2.2.2.2.2.2.2.1, cell_on bw31 hHeld.2.2.2.2.2.2.2.2.2.2.1, cell_on bw31 hHeld.2.2.2.2.2.2.2.2.2.2.2.1, cell_on bw31 hHeld.2.2.2.2.2.2.2.2.2.2.2.2.1, cell_on bw31 hHeld.2.2.2.2.2.2.2.2.2.2.2.2.2.1, cell_on bw31 hHeld.2.2.2.2.2.2.2.2.2.2.2.2.2.2.1, cell_on bw31 hHeld.2.2.2.2.2.2.2.2.2.2.2.2.2.2.2.1, cell_on bw31 hHeld.2.2.2.2.2.2.2.2.2.2.2.2.2.2.2.2.1, cell_on bw31 hHeld.2.2.2.2.2.2.2.2.2.2.2.2.2.2.2.2.2.1, cell_on bw31 hHeld.2.2.2.2.2.2.2.2.2.2.2.2.2.2.2.2.2.2.1, cell_on bw31 hHeld.2.2.2.2.2.2.2.2.2.2.2.2.2.2.2.2.2.2.2.1, also hHeld.2.2.2.2.2.2.2.2.2.2.2.2.2.2.2.2.2.2.2.2 bw31⟩ | exact ⟨cell_on bw21 hHeld.1, cell_on bw21 hHeld.2.1, cell_on bw21 hHeld.2.2.1, cell_on bw21 hHeld.2.2.2.1, cell_on bw21 hHeld.2.2.2.2.1, cell_on bw21 hHeld.2.2.2.2.2.1, cell_on bw21 hHeld.2.2.2.2.2.2.1, cell_on bw21 hHeld.2.2.2.2.2.2.2.1, cell_on bw21 hHeld.2.2.2.2.2.2.2.2.1, cell_on bw21 hHeld.2.2.2.2.2.2.2.2.2.1, cell_on bw21 hHeld.2.2.2.2.2.2.2.2.2.2.1, cell_on bw21 hHeld.2.2.2.2.2.2.2.2.2.2.2.1, cell_on bw21 hHeld.2.2.2.2.2.2.2.2.2.2.2.2.1, cell_on bw21 hHeld.2.2.2.2.2.2.2.2.2.2.2.2.2.1, cell_on bw21 hHeld.2.2.2.2.2.2.2.2.2.2.2.2.2.2.1, cell_on bw21 hHeld.2.2.2.2.2.2.2.2.2.2.2.2.2.2.2.1, cell_on bw21 hHeld.2.2.2.2.2.2.2.2.2.2.2.2.2.2.2.2.1, cell_on bw21 hHeld.2.2.2.2.2.2.2.2.2.2.2.2.2.2.2.2.2.1, cell_on bw21 hHeld.2.2.2.2.2.2.2.2.2.2.2.2.2.2.2.2.2.2.1, cell_on bw21 hHeld.2.2.2.2.2.2.2.2.2.2.2.2.2.2.2.2.2.2.2.1, also hHeld.2.2.2.2.2.2.2.2.2.2.2.2.2.2.2.2.2.2.2.2 bw21⟩ | exact ⟨cell_on bw20 hHeld.1, cell_on bw20 hHeld.2.1, cell_on bw20 hHeld.2.2.1, cell_on bw20 hHeld.2.2.2.1, cell_on bw20 hHeld.2.2.2.2.1, cell_on bw20 hHeld.2.2.2.2.2.1, cell_on bw20 hHeld.2.2.2.2.2.2.1, cell_on bw20 hHeld.2.2.2.2.2.2.2.1, cell_on bw20 hHeld.2.2.2.2.2.2.2.2.1, cell_on bw20 hHeld.2.2.2.2.2.2.2.2.2.1, cell_on bw20 hHeld.2.2.2.2.2.2.2.2.2.2.1, cell_on bw20 hHeld.2.2.2.2.2.2.2.2.2.2.2.1, cell_on bw20 hHeld.2.2.2.2.2.2.2.2.2.2.2.2.1, cell_on bw20 hHeld.2.2.2.2.2.2.2.2.2.2.2.2.2.1, cell_on bw20 hHeld.2.2.2.2.2.2.2.2.2.2.2.2.2.2.1, cell_on bw20 hHeld.2.2.2.2.2.2.2.2.2.2.2.2.2.2.2.1, cell_on bw20 hHeld.2.2.2.2.2.2.2.2.2.2.2.2.2.2.2.2.1, cell_on bw20 hHeld.2.2.2.2.2.2.2.2.2.2.2.2.2.2.2.2.2.1, cell_on bw20 hHeld.2.2.2.2.2.2.2.2.2.2.2.2.2.2.2.2.2.2.1, cell_on bw20 hHeld.2.2.2.2.2.2.2.2.2.2.2.2.2.2.2.2.2.2.2.1, also hHeld.2.2.2.2.2.2.2.2.2.2.2.2.2.2.2.2.2.2.2.2 bw20⟩ | exact ⟨cell_on bw17 hHeld.1, cell_on bw17 hHeld.2.1, cell_on bw17 hHeld.2.2.1, cell_on bw17 hHeld.2.2.2.1, cell_on bw17 hHeld.2.2.2.2.1, cell_on bw17 hHeld.2.2.2.2.2.1, cell_on bw17 hHeld.2.2.2.2.2.2.1, cell_on bw17 hHeld.2.2.2.2.2.2.2.1, cell_on bw17 hHeld.2.2.2.2.2.2.2.2.1, cell_on bw17 hHeld.2.2.2.2.2.2.2.2.2.1, cell_on bw17 hHeld.2.2.2.2.2.2.2.2.2.2.1, cell_on bw17 hHeld.2.2.2.2.2.2.2.2.2.2.2.1, cell_on bw17 hHeld.2.2.2.2.2.2.2.2.2.2.2.2.1, cell_on bw17 hHeld.2.2.2.2.2.2.2.2.2.2.2.2.2.1, cell_on bw17 hHeld.2.2.2.2.2.2.2.2.2.2.2.2.2.2.1, cell_on bw17 hHeld.2.2.2.2.2.2.2.2.2.2.2.2.2.2.2.1, cell_on bw17 hHeld.2.2.2.2.2.2.2.2.2.2.2.2.2.2.2.2.1, cell_on bw17 hHeld.2.2.2.2.2.2.2.2.2.2.2.2.2.2.2.2.2.1, cell_on bw17 hHeld.2.2.2.2.2.2.2.2.2.2.2.2.2.2.2.2.2.2.1, cell_on bw17 hHeld.2.2.2.2.2.2.2.2.2.2.2.2.2.2.2.2.2.2.2.1, also hHeld.2.2.2.2.2.2.2.2.2.2.2.2.2.2.2.2.2.2.2.2 bw17⟩ | exact ⟨cell_on bw16 hHeld.1, cell_on bw16 hHeld.2.1, cell_on bw16 hHeld.2.2.1, cell_on bw16 hHeld.2.2.2.1, cell_on bw16 hHeld.2.2.2.2.1, cell_on bw16 hHeld.2.2.2.2.2.1, cell_on bw16 hHeld.2.2.2.2.2.2.1, cell_on bw16 hHeld.2.2.2.2.2.2.2.1, cell_on bw16 hHeld.2.2.2.2.2.2.2.2.1, cell_on bw16 hHeld.2.2.2.2.2.2.2.2.2.1, cell_on bw16 hHeld.2.2.2.2.2.2.2.2.2.2.1, cell_on bw16 hHeld.2.2.2.2.2.2.2.2.2.2.2.1, cell_on bw16 hHeld.2.2.2.2.2.2.2.2.2.2.2.2.1, cell_on bw16 hHeld.2.2.2.2.2.2.2.2.2.2.2.2.2.1, cell_on bw16 hHeld.2.2.2.2.2.2.2.2.2.2.2.2.2.2.1, cell_on bw16 hHeld.2.2.2.2.2.2.2.2.2.2.2.2.2.2.2.1, cell_on bw16 hHeld.2.2.2.2.2.2.2.2.2.2.2.2.2.2.2.2.1, cell_on bw16 hHeld.2.2.2.2.2.2.2.2.2.2.2.2.2.2.2.2.2.1, cell_on bw16 hHeld.2.2.2.2.2.2.2.2.2.2.2.2.2.2.2.2.2.2.1, cell_on bw16 hHeld.2.2.2.2.2.2.2.2.2.2.2.2.2.2.2.2.2.2.2.1, also hHeld.2.2.2.2.2.2.2.2.2.2.2.2.2.2.2.2.2.2.2.2 bw16⟩ | exact ⟨cell_on bw15 hHeld.1, cell_on bw15 hHeld.2.1, cell_on bw15 hHeld.2.2.1, cell_on bw15 hHeld.2.2.2.1, cell_on bw15 hHeld.2.2.2.2.1, cell_on bw15 hHeld.2.2.2.2.2.1, cell_on bw15 hHeld.2.2.2.2.2.2.1, cell_on bw15 hHeld.2.2.2.2.2.2.2.1, cell_on bw15 hHeld.2.2.2.2.2.2.2.2.1, cell_on bw15 hHeld.2.2.2.2.2.2.2.2.2.1, cell_on bw15 hHeld.2.2.2.2.2.2.2.2.2.2.1, cell_on bw15 hHeld.2.2.2.2.2.2.2.2.2.2.2.1, cell_on bw15 hHeld.2.2.2.2.2.2.2.2.2.2.2.2.1, cell_on bw15 hHeld.2.2.2.2.2.2.2.2.2.2.2.2.2.1, cell_on bw15 hHeld.2.2.2.2.2.2.2.2.2.2.2.2.2.2.1, cell_on bw15 hHeld.2.2.2.2.2.2.2.2.2.2.2.2.2.2.2.1, cell_on bw15 hHeld.2.2.2.2.2.2.2.2.2.2.2.2.2.2.2.2.1, cell_on bw15 hHeld.2.2.2.2.2.2.2.2.2.2.2.2.2.2.2.2.2.1, cell_on bw15 hHeld.2.2.2.2.2.2.2.2.2.2.2.2.2.2.2.2.2.2.1, cell_on bw15 hHeld.2.2.2.2.2.2.2.2.2.2.2.2.2.2.2.2.2.2.2.1, also hHeld.2.2.2.2.2.2.2.2.2.2.2.2.2.2.2.2.2.2.2.2 bw15⟩ | exact ⟨cell_on bw14 hHeld.1, cell_on bw14 hHeld.2.1, cell_on bw14 hHeld.2.2.1, cell_on bw14 hHeld.2.2.2.1, cell_on bw14 hHeld.2.2.2.2.1, cell_on bw14 hHeld.2.2.2.2.2.1, cell_on bw14 hHeld.2.2.2.2.2.2.1, cell_on bw14 hHeld.2.2.2.2.2.2.2.1, cell_on bw14 hHeld.2.2.2.2.2.2.2.2.1, cell_on bw14 hHeld.2.2.2.2.2.2.2.2.2.1, cell_on bw14 hHeld.2.2.2.2.2.2.2.2.2.2.1, cell_on bw14 hHeld.2.2.2.2.2.2.2.2.2.2.2.1, cell_on bw14 hHeld.2.2.2.2.2.2.2.2.2.2.2.2.1, cell_on bw14 hHeld.2.2.2.2.2.2.2.2.2.2.2.2.2.1, cell_on bw14 hHeld.2.2.2.2.2.2.2.2.2.2.2.2.2.2.1, cell_on bw14 hHeld.2.2.2.2.2.2.2.2.2.2.2.2.2.2.2.1, cell_on bw14 hHeld.2.2.2.2.2.2.2.2.2.2.2.2.2.2.2.2.1, cell_on bw14 hHeld.2.2.2.2.2.2.2.2.2.2.2.2.2.2.2.2.2.1, cell_on bw14 hHeld.2.2.2.2.2.2.2.2.2.2.2.2.2.2.2.2.2.2.1, cell_on bw14 hHeld.2.2.2.2.2.2.2.2.2.2.2.2.2.2.2.2.2.2.2.1, also hHeld.2.2.2.2.2.2.2.2.2.2.2.2.2.2.2.2.2.2.2.2 bw14⟩ | exact ⟨cell_on bw13 hHeld.1, cell_on bw13 hHeld.2.1, cell_on bw13 hHeld.2.2.1, cell_on bw13 hHeld.2.2.2.1, cell_on bw13 hHeld.2.2.2.2.1, cell_on bw13 hHeld.2.2.2.2.2.1, cell_on bw13 hHeld.2.2.2.2.2.2.1, cell_on bw13 hHeld.2.2.2.2.2.2.2.1, cell_on bw13 hHeld.2.2.2.2.2.2.2.2.1, cell_on bw13 hHeld.2.2.2.2.2.2.2.2.2.1, cell_on bw13 hHeld.2.2.2.2.2.2.2.2.2.2.1, cell_on bw13 hHeld.2.2.2.2.2.2.2.2.2.2.2.1, cell_on bw13 hHeld.2.2.2.2.2.2.2.2.2.2.2.2.1, cell_on bw13 hHeld.2.2.2.2.2.2.2.2.2.2.2.2.2.1, cell_on bw13 hHeld.2.2.2.2.2.2.2.2.2.2.2.2.2.2.1, cell_on bw13 hHeld.2.2.2.2.2.2.2.2.2.2.2.2.2.2.2.1, cell_on bw13 hHeld.2.2.2.2.2.2.2.2.2.2.2.2.2.2.2.2.1, cell_on bw13 hHeld.2.2.2.2.2.2.2.2.2.2.2.2.2.2.2.2.2.1, cell_on bw13 hHeld.2.2.2.2.2.2.2.2.2.2.2.2.2.2.2.2.2.2.1, cell_on bw13 hHeld.2.2.2.2.2.2.2.2.2.2.2.2.2.2.2.2.2.2.2.1, also hHeld.2.2.2.2.2.2.2.2.2.2.2.2.2.2.2.2.2.2.2.2 bw13⟩
  clear hK Kc
  have zbw20 := bw20.size
  replace BB := also BB bw20
  replace x_a := x_a.on bw20
  replace q1 := q1.below bw20
  replace x2 := x2.below bw20
  replace x_x := x_x.on bw20
  replace h3 := h3.below bw20
  replace h4 := h4.below bw20
  replace x_f := x_f.on bw20
  replace x_n := x_n.on bw20
  replace x_h := x_h.on bw20
  replace hh := hh.below bw20
  replace x9 := x9.below bw20
  replace x_dd := x_dd.on bw20
  replace x12 := x12.below bw20
  replace x_ee := x_ee.on bw20
  replace r13 := r13.below bw20
  replace r15 := r15.below bw20
  refine take_call (i := 20) rfl (by kernel_rfl) (fun Kc hK => ?_)
  go_simp
  (go_at_call 30; refine (rqCmp s9 d9 l9 c9 t9 g9 h9 k9 N1 D1 s20 d20 l20 c20 t20 g20 h20 k20 (-1) 2 19 _ x9 x20 (by decide) HG2.out).mono ?_; rintro e w21 ⟨rfl, bw21⟩)
  refine hK.out _ _ ?_ (fun hHeld => ?_)
  · first | exact ⟨x_f.c0, x_f.c1, x_x.c0, x_x.c1, x_x.c2, x_x.c3, x_n.c0, x_n.c1, x_dd.c0, x_dd.c1, x_dd.c2, x_dd.c3, x_h.c0, x_h.c1, x_h.c2, x_h.c3, x_ee.c0, x_ee.c1, x_ee.c2, x_ee.c3, BB⟩ | exact ⟨cell_on bw36 hHeld.1, cell_on bw36 hHeld.2.1, cell_on bw36 hHeld.2.2.1, cell_on bw36 hHeld.2.2.2.1, cell_on bw36 hHeld.2.2.2.2.1, cell_on bw36 hHeld.2.2.2.2.2.1, cell_on bw36 hHeld.2.2.2.2.2.2.1, cell_on bw36 hHeld.2.2.2.2.2.2.2.1, cell_on bw36 hHeld.2.2.2.2.2.2.2.2.1, cell_on bw36 hHeld.2.2.2.2.2.2.2.2.2.1, cell_on bw36 hHeld.2.2.2.2.2.2.2.2.2.2.1, cell_on bw36 hHeld.2.2.2.2.2.2.2.2.2.2.2.1, cell_on bw36 hHeld.2.2.2.2.2.2.2.2.2.2.2.2.1, cell_on bw36 hHeld.2.2.2.2.2.2.2.2.2.2.2.2.2.1, cell_on bw36 hHeld.2.2.2.2.2.2.2.2.2.2.2.2.2.2.1, cell_on bw36 hHeld.2.2.2.2.2.2.2.2.2.2.2.2.2.2.2.1, cell_on bw36 hHeld.2.2.2.2.2.2.2.2.2.2.2.2.2.2.2.2.1, cell_on bw36 hHeld.2.2.2.2.2.2.2.2.2.2.2.2.2.2.2.2.2.1, cell_on bw36 hHeld.2.2.2.2.2.2.2.2.2.2.2.2.2.2.2.2.2.2.1, cell_on bw36 hHeld.2.2.2.2.2.2.2.2.2.2.2.2.2.2.2.2.2.2.2.1, also hHeld.2.2.2.2.2.2.2.2.2.2.2.2.2.2.2.2.2.2.2.2 bw36⟩ | exact ⟨cell_on bw32 hHeld.1, cell_on bw32 hHeld.2.1, cell_on bw32 hHeld.2.2.1, cell_on bw32 hHeld.2.2.2.1, cell_on bw32 hHeld.2.2.2.2.1, cell_on bw32 hHeld.2.2.2.2.2.1, cell_on bw32 hHeld.2.2.2.2.2.2.1, cell_on bw32 hHeld.2.2.2.2.2.2.2.1, cell_on bw32 hHeld.2.2.2.2.2.2.2.2.1, cell_on bw32 hHeld.2.2.2.2.2.2.2.2.2.1, cell_on bw32 hHeld.2.2.2.2.2.2.2.2.2.2.1, cell_on bw32 hHeld.2.2.2.2.2.2.2.2.2.2.2.1, cell_on bw32 hHeld.2.2.2.2.2.2.2.2.2.2.2.2.1, cell_on bw32 hHeld.2.2.2.2.2.2.2.2.2.2.2.2.2.1, cell_on bw32 hHeld.2.2.2.2.2.2.2.2.2.2.2.2.2.2.1, cell_on bw32 hHeld.2.2.2.2.2.2.2.2.2.2.2.2.2.2.2.1, cell_on bw32 hHeld.2.2.2.2.2.2.2.2.2.2.2.2.2.2.2.2.1, cell_on bw32 hHeld.2.2.2.2.2.2.2.2.2.2.2.2.2.2.2.2.2.1, cell_on bw32 hHeld.2.2.2.2.2.2.2.2.2.2.2.2.2.2.2.2.2.2.1, cell_on bw32 hHeld.2.2.2.2.2.2.2.2.2.2.2.2.2.2.2.2.2.2.2.1, also hHeld.2.2.2.2.2.2.2.2.2.2.2.2.2.2.2.2.2.2.2.2 bw32⟩ | exact ⟨cell_on bw31 hHeld.1, cell_on bw31 hHeld.2.1, cell_on bw31 hHeld.2.2.1, cell_on bw31 hHeld.2.2.2.1, cell_on bw31 hHeld.2.2.2.2.1, cell_on bw31 hHeld.2.2.2.2.2.1, cell_on bw31 hHeld.2.2.2.2.2.2.1, cell_on bw31 hHeld.2.2.2.2.2.2.2.1, cell_on bw31 hHeld.2.2.2.2.2.2.2.2.1, cell_on bw31 hHeld.2.2.2.2.2.2.2.2.2.1, cell_on bw31 hHeld.2.2.2.2.2.2.2.2.2.2.1, cell_on bw31 hHeld.2.2.2.2.2.2.2.2.2.2.2.1, cell_on bw31 hHeld.2.2.2.2.2.2.2.2.2.2.2.2.1, cell_on bw31 hHeld.2.2.2.2.2.2.2.2.2.2.2.2.2.1, cell_on bw31 hHeld.2.2.2.2.2.2.2.2.2.2.2.2.2.2.1, cell_on bw31 hHeld.2.2.2.2.2.2.2.2.2.2.2.2.2.2.2.1, cell_on bw31 hHeld.2.2.2.2.2.2.2.2.2.2.2.2.2.2.2.2.1, cell_on bw31 hHeld.2.2.2.2.2.2.2.2.2.2.2.2.2.2.2.2.2.1, cell_on bw31 hHeld.2.2.2.2.2.2.2.2.2.2.2.2.2.2.2.2.2.2.1, cell_on bw31 hHeld.2.2.2.2.2.2.2.2.2.2.2.2.2.2.2.2.2.2.2.1, also hHeld.2.2.2.2.2.2.2.2.2.2.2.2.2.2.2.2.2.2.2.2 bw31⟩ | exact ⟨cell_on bw21 hHeld.1, cell_on bw21 hHeld.2.1, cell_on bw21 hHeld.2.2.1, cell_on bw21 hHeld.2.2.2.1, cell_on bw21 hHeld.2.2.2.2.1, cell_on bw21 hHeld.2.2.2.2.2.1, cell_on bw21 hHeld.2.2.2.2.2.2.1, cell_on bw21 hHeld.2.2.2.2.2.2.2.1, cell_on bw21 hHeld.2.2.2.2.2.2.2.2.1, cell_on bw21 hHeld.2.2.2.2.2.2.2.2.2.1, cell_on bw21 hHeld.2.2.2.2.2.2.2.2.2.2.1, cell_on bw21 hHeld.2.2.2.2.2.2.2.2.2.2.2.1, cell_on bw21 hHeld.2.2.2.2.2.2.2.2.2.2.2.2.1, cell_on bw21 hHeld.2.2.2.2.2.2.2.2.2.2.2.2.2.1, cell_on bw21 hHeld.2.2.2.2.2.2.2.2.2.2.2.2.2.2.1, cell_on bw21 hHeld.2.2.2.2.2.2.2.2.2.2.2.2.2.2.2.1, cell_on bw21 hHeld.2.2.2.2.2.2.2.2.2.2.2.2.2.2.2.2.1, cell_on bw21 hHeld.2.2.2.2.2.2.2.2.2.2.2.2.2.2.2.2.2.1, cell_on bw21 hHeld.2.2.2.2.2.2.2.2.2.2.2.2.2.2.2.2.2.2.1, cell_on bw21 hHeld.2.2.2.2.2.2.2.2.2.2.2.2.2.2.2.2.2.2.2.1, also hHeld.2.2.2.2.2.2.2.2.2.2.2.2.2.2.2.2.2.2.2.2 bw21⟩ | exact ⟨cell_on bw20 hHeld.1, cell_on bw20 hHeld.2.1, cell_on bw20 hHeld.2.2.1, cell_on bw20 hHeld.2.2.2.1, cell_on bw20 hHeld.2.2.2.2.1, cell_on bw20 hHeld.2.2.2.2.2.1, cell_on bw20 hHeld.2.2.2.2.2.2.1, cell_on bw20 hHeld.2.2.2.2.2.2.2.1, cell_on bw20 hHeld.2.2.2.2.2.2.2.2.1, cell_on bw20 hHeld.2.2.2.2.2.2.2.2.2.1, cell_on bw20 hHeld.2.2.2.2.2.2.2.2.2.2.1, cell_on bw20 hHeld.2.2.2.2.2.2.2.2.2.2.2.1, cell_on bw20 hHeld.2.2.2.2.2.2.2.2.2.2.2.2.1, cell_on bw20 hHeld.2.2.2.2.2.2.2.2.2.2.2.2.2.1, cell_on bw20 hHeld.2.2.2.2.2.2.2.2.2.2.2.2.2.2.1, cell_on bw20 hHeld.2.2.2.2.2.2.2.2.2.2.2.2.2.2.2.1, cell_on bw20 hHeld.2.2.2.2.2.2.2.2.2.2.2.2.2.2.2.2.1, cell_on bw20 hHeld.2.2.2.2.2.2.2.2.2.2.2.2.2.2.2.2.2.1, cell_on bw20 hHeld.2.2.2.2.2.2.2.2.2.2.2.2.2.2.2.2.2.2.1, cell_on bw20 hHeld.2.2.2.2.2.2.2.2.2.2.2.2.2.2.2.2.2.2.2.1, also hHeld.2.2.2.2.2.2.2.2.2.2.2.2.2.2.2.2.2.2.2.2 bw20⟩ | exact ⟨cell_on bw17 hHeld.1, cell_on bw17 hHeld.2.1, cell_on bw17 hHeld.2.2.1, cell_on bw17 hHeld.2.2.2.1, cell_on bw17 hHeld.2.2.2.2.1, cell_on bw17 hHeld.2.2.2.2.2.1, cell_on bw17 hHeld.2.2.2.2.2.2.1, cell_on bw17 hHeld.2.2.2.2.2.2.2.1, cell_on bw17 hHeld.2.2.2.2.2.2.2.2.1, cell_on bw17 hHeld.2.2.2.2.2.2.2.2.2.1, cell_on bw17 hHeld.2.2.2.2.2.2.2.2.2.2.1, cell_on bw17 hHeld.2.2.2.2.2.2.2.2.2.2.2.1, cell_on bw17 hHeld.2.2.2.2.2.2.2.2.2.2.2.2.1, cell_on bw17 hHeld.2.2.2.2.2.2.2.2.2.2.2.2.2.1, cell_on bw17 hHeld.2.2.2.2.2.2.2.2.2.2.2.2.2.2.1, cell_on bw17 hHeld.2.2.2.2.2.2.2.2.2.2.2.2.2.2.2.1, cell_on bw17 hHeld.2.2.2.2.2.2.2.2.2.2.2.2.2.2.2.2.1, cell_on bw17 hHeld.2.2.2.2.2.2.2.2.2.2.2.2.2.2.2.2.2.1, cell_on bw17 hHeld.2.2.2.2.2.2.2.2.2.2.2.2.2.2.2.2.2.2.1, cell_on bw17 hHeld.2.2.2.2.2.2.2.2.2.2.2.2.2.2.2.2.2.2.2.1, also hHeld.2.2.2.2.2.2.2.2.2.2.2.2.2.2.2.2.2.2.2.2 bw17⟩ | exact ⟨cell_on bw16 hHeld.1, cell_on bw16 hHeld.2.1, cell_on bw16 hHeld.2.2.1, cell_on bw16 hHeld.2.2.2.1, cell_on bw16 hHeld.2.2.2.2.1, cell_on bw16 hHeld.2.2.2.2.2.1, cell_on bw16 hHeld.2.2.2.2.2.2.1, cell_on bw16 hHeld.2.2.2.2.2.2.2.1, cell_on bw16 hHeld.2.2.2.2.2.2.2.2.1, cell_on bw16 hHeld.2.2.2.2.2.2.2.2.2.1, cell_on bw16 hHeld.2.2.2.2.2.2.2.2.2.2.1, cell_on bw16 hHeld.2.2.2.2.2.2.2.2.2.2.2.1, cell_on bw16 hHeld.2.2.2.2.2.2.2.2.2.2.2.2.1, cell_on bw16 hHeld.2.2.2.2.2.2.2.2.2.2.2.2.2.1, cell_on bw16 hHeld.2.2.2.2.2.2.2.2.2.2.2.2.2.2.1, cell_on bw16 hHeld.2.2.2.2.2.2.2.2.2.2.2.2.2.2.2.1, cell_on bw16 hHeld.2.2.2.2.2.2.2.2.2.2.2.2.2.2.2.2.1, cell_on bw16 hHeld.2.2.2.2.2.2.2.2.2.2.2.2.2.2.2.2.2.1, cell_on bw16 hHeld.2.2.2.2.2.2.2.2.2.2.2.2.2.2.2.2.2.2.1, cell_on bw16 hHeld.2.2.2.2.2.2.2.2.2.2.2.2.2.2.2.2.2.2.2.1, also hHeld.2.2.2.2.2.2.2.2.2.2.2.2.2.2.2.2.2.2.2.2 bw16⟩ | exact ⟨cell_on bw15 hHeld.1, cell_on bw15 hHeld.2.1, cell_on bw15 hHeld.2.2.1, cell_on bw15 hHeld.2.2.2.1, cell_on bw15 hHeld.2.2.2.2.1, cell_on bw15 hHeld.2.2.2.2.2.1, cell_on bw15 hHeld.2.2.2.2.2.2.1, cell_on bw15 hHeld.2.2.2.2.2.2.2.1, cell_on bw15 hHeld.2.2.2.2.2.2.2.2.1, cell_on bw15 hHeld.2.2.2.2.2.2.2.2.2.1, cell_on bw15 hHeld.2.2.2.2.2.2.2.2.2.2.1, cell_on bw15 hHeld.2.2.2.2.2.2.2.2.2.2.2.1, cell_on bw15 hHeld.2.2.2.2.2.2.2.2.2.2.2.2.1, cell_on bw15 hHeld.2.2.2.2.2.2.2.2.2.2.2.2.2.1, cell_on bw15 hHeld.2.2.2.2.2.2.2.2.2.2.2.2.2.2.1, cell_on bw15 hHeld.2.2.2.2.2.2.2.2.2.2.2.2.2.2.2.1, cell_on bw15 hHeld.2.2.2.2.2.2.2.2.2.2.2.2.2.2.2.2.1, cell_on bw15 hHeld.2.2.2.2.2.2.2.2.2.2.2.2.2.2.2.2.2.1, cell_on bw15 hHeld.2.2.2.2.2.2.2.2.2.2.2.2.2.2.2.2.2.2.1, cell_on bw15 hHeld.2.2.2.2.2.2.2.2.2.2.2.2.2.2.2.2.2.2.2.1, also hHeld.2.2.2.2.2.2.2.2.2.2.2.2.2.2.2.2.2.2.2.2 bw15⟩ | exact ⟨cell_on bw14 hHeld.1, cell_on bw14 hHeld.2.1, cell_on bw14 hHeld.2.2.1, cell_on bw14 hHeld.2.2.2.1, cell_on bw14 hHeld.2.2.2.2.1, cell_on bw14 hHeld.2.2.2.2.2.1, cell_on bw14 hHeld.2.2.2.2.2.2.1, cell_on bw14 hHeld.2.2.2.2.2.2.2.1, cell_on bw14 hHeld.2.2.2.2.2.2.2.2.1, cell_on bw14 hHeld.2.2.2.2.2.2.2.2.2.1, cell_on bw14 hHeld.2.2.2.2.2.2.2.2.2.2.1, cell_on bw14 hHeld.2.2.2.2.2.2.2.2.2.2.2.1, cell_on bw14 hHeld.2.2.2.2.2.2.2.2.2.2.2.2.1, cell_on bw14 hHeld.2.2.2.2.2.2.2.2.2.2.2.2.2.1, cell_on bw14 hHeld.2.2.2.2.2.2.2.2.2.2.2.2.2.2.1, cell_on bw14 hHeld.2.2.2.2.2.2.2.2.2.2.2.2.2.2.2.1, cell_on bw14 hHeld.2.2.2.2.2.2.2.2.2.2.2.2.2.2.2.2.1, cell_on bw14 hHeld.2.2.2.2.2.2.2.2.2.2.2.2.2.2.2.2.2.1, cell_on bw14 hHeld.2.2.2.2.2.2.2.2.2.2.2.2.2.2.2.2.2.2.1, cell_on bw14 hHeld.2.2.2.2.2.2.2.2.2.2.2.2.2.2.2.2.2.2.2.1, also hHeld.2.2.2.2.2.2.2.2.2.2.2.2.2.2.2.2.2.2.2.2 bw14⟩ | exact ⟨cell_on bw13 hHeld.1, cell_on bw13 hHeld.2.1, cell_on bw13 hHeld.2.2.1, cell_on bw13 hHeld.2.2.2.1, cell_on bw13 hHeld.2.2.2.2.1, cell_on bw13 hHeld.2.2.2.2.2.1, cell_on bw13 hHeld.2.2.2.2.2.2.1, cell_on bw13 hHeld.2.2.2.2.2.2.2.1, cell_on bw13 hHeld.2.2.2.2.2.2.2.2.1, cell_on bw13 hHeld.2.2.2.2.2.2.2.2.2.1, cell_on bw13 hHeld.2.2.2.2.2.2.2.2.2.2.1, cell_on bw13 hHeld.2.2.2.2.2.2.2.2.2.2.2.1, cell_on bw13 hHeld.2.2.2.2.2.2.2.2.2.2.2.2.1, cell_on bw13 hHeld.2.2.2.2.2.2.2.2.2.2.2.2.2.1, cell_on bw13 hHeld.2.2.2.2.2.2.2.2.2.2.2.2.2.2.1, cell_on bw13 hHeld.2.2.2.2.2.2.2.2.2.2.2.2.2.2.2.1, cell_on bw13 hHeld.2.2.2.2.2.2.2.2.2.2.2.2.2.2.2.2.1, cell_on bw13 hHeld.2.2.2.2.2.2.2.2.2.2.2.2.2.2.2.2.2.1, cell_on bw13 hHeld.2.2.2.2.2.2.2.2.2.2.2.2.2.2.2.2.2.2.1, cell_on bw13 hHeld.2.2.2.2.2.2.2.2.2.2.2.2.2.2.2.2.2.2.2.1, also hHeld.2.2.2.2.2.2.2.2.2.2.2.2.2.2.2.2.2.2.2.2 bw13⟩
  clear hK Kc
  have zbw21 := bw21.size
  replace BB := also BB bw21
  replace x_a := x_a.on bw21
  replace q1 := q1.below bw21
  replace x2 := x2.below bw21
  replace x_x := x_x.on bw21
  replace h3 := h3.below bw21
  replace h4 := h4.below bw21
  replace x_f := x_f.on bw21
  replace x_n := x_n.on bw21
  replace x_h := x_h.on bw21
  replace hh := hh.below bw21
  replace x9 := x9.below bw21
  replace x_dd := x_dd.on bw21
  replace x12 := x12.below bw21
  replace x_ee := x_ee.on bw21
  replace r13 := r13.below bw21
  replace r15 := r15.below bw21
  replace x20 := x20.below bw21
  refine take_yes (i := 21) (v := ?vw21) rfl (by kernel_rfl) (by kernel_rfl) (by kernel_rfl) (fun _ _ _ h => h) (by rfl) (by assumption) ?hyw21 ?restw21
  case hyw21 => (intro w hSw; (try dsimp only at hSw); first | (go_simp; done) | (go_simp; with_reducible rfl))
  simp only [Act.put, List.setIfInBounds_toArray, List.set_cons_zero, List.set_cons_succ]
  refine take_yes (i := 22) (v := ?vw22) rfl (by kernel_rfl) (by kernel_rfl) (by kernel_rfl) (fun _ _ _ h => h) (by rfl) (by assumption) ?hyw22 ?restw22
  case hyw22 => (intro w hSw; (try dsimp only at hSw); first | (go_simp; done) | (go_simp; with_reducible rfl))
  simp only [Act.put, List.setIfInBounds_toArray, List.set_cons_zero, List.set_cons_succ]
  refine take_yes (i := 23) (v := ?vw23) rfl (by kernel_rfl) (by kernel_rfl) (by kernel_rfl) (fun _ _ _ h => h) (by rfl) (by assumption) ?hyw23 ?restw23
  case hyw23 => (intro w hSw; (try dsimp only at hSw); first | (go_simp; done) | (go_simp; with_reducible rfl))
  simp only [Act.put, List.setIfInBounds_toArray, List.set_cons_zero, List.set_cons_succ]
  refine take_yes (i := 24) (v := ?vw24) rfl (by kernel_rfl) (by kernel_rfl) (by kernel_rfl) (fun _ _ _ h => h) (by rfl) (by assumption) ?hyw24 ?restw24
  case hyw24 => (intro w hSw; (try dsimp only at hSw); first | (go_simp; done) | (go_simp; with_reducible rfl))
  simp only [Act.put, List.setIfInBounds_toArray, List.set_cons_zero, List.set_cons_succ]
  refine take_yes (i := 25) (v := ?vw25) rfl (by kernel_rfl) (by kernel_rfl) (by kernel_rfl) (fun _ _ _ h => h) (by rfl) (by assumption) ?hyw25 ?restw25
  case hyw25 => (intro w hSw; (try dsimp only at hSw); first | (go_simp; done) | (go_simp; with_reducible rfl))
  simp only [Act.put, List.setIfInBounds_toArray, List.set_cons_zero, List.set_cons_succ]
  refine take_yes (i := 26) (v := ?vw26) rfl (by kernel_rfl) (by kernel_rfl) (by kernel_rfl) (fun _ _ _ h => h) (by rfl) (by assumption) ?hyw26 ?restw26
  case hyw26 => (intro w hSw; (try dsimp only at hSw); first | (go_simp; done) | (go_simp; with_reducible rfl))
  simp only [Act.put, List.setIfInBounds_toArray, List.set_cons_zero, List.set_cons_succ]
  refine take_yes (i := 27) (v := ?vw27) rfl (by kernel_rfl) (by kernel_rfl) (by kernel_rfl) (fun _ _ _ h => h) (by rfl) (by assumption) ?hyw27 ?restw27
  case hyw27 => (intro w hSw; (try dsimp only at hSw); first | (go_simp; done) | (go_simp; with_reducible rfl))
  simp only [Act.put, List.setIfInBounds_toArray, List.set_cons_zero, List.set_cons_succ]
  refine take_yes (i := 28) (v := ?vw28) rfl (by kernel_rfl) (by kernel_rfl) (by kernel_rfl) (fun _ _ _ h => h) (by rfl) (by assumption) ?hyw28 ?restw28
  case hyw28 => (intro w hSw; (try dsimp only at hSw); first | (go_simp; done) | (go_simp; with_reducible rfl))
  simp only [Act.put, List.setIfInBounds_toArray, List.set_cons_zero, List.set_cons_succ]
  refine take_yes (i := 29) (v := ?vw29) rfl (by kernel_rfl) (by kernel_rfl) (by kernel_rfl) (fun _ _ _ h => h) (by rfl) (by assumption) ?hyw29 ?restw29
  case hyw29 => (intro w hSw; (try dsimp only at hSw); first | (go_simp; done) | (go_simp; with_reducible rfl))
  simp only [Act.put, List.setIfInBounds_toArray, List.set_cons_zero, List.set_cons_succ]
  refine take_yes (i := 30) (v := ?vw30) rfl (by kernel_rfl) (by kernel_rfl) (by kernel_rfl) (fun _ _ _ h => h) (by rfl) (by assumption) ?hyw30 ?restw30
  case hyw30 => (intro w hSw; (try dsimp only at hSw); first | (go_simp; done) | (go_simp; with_reducible rfl))
  simp only [Act.put, List.setIfInBounds_toArray, List.set_cons_zero, List.set_cons_succ]
  refine take_call (i := 31) rfl (by kernel_rfl) (fun Kc hK => ?_)
  go_simp
  (go_at_call 19; refine (rqLong 1 _ (by decide) (by decide)).mono ?_; rintro e w31 ⟨s31, d31, l31, c31, t31, g31, h31, k31, rfl, x31, r31, bw31⟩)
  refine hK.out _ _ ?_ (fun hHeld => ?_)
  · first | exact ⟨x_f.c0, x_f.c1, x_x.c0, x_x.c1, x_x.c2, x_x.c3, x_n.c0, x_n.c1, x_dd.c0, x_dd.c1, x_dd.c2, x_dd.c3, x_h.c0, x_h.c1, x_h.c2, x_h.c3, x_ee.c0, x_ee.c1, x_ee.c2, x_ee.c3, BB⟩ | exact ⟨cell_on bw36 hHeld.1, cell_on bw36 hHeld.2.1, cell_on bw36 hHeld.2.2.1, cell_on bw36 hHeld.2.2.2.1, cell_on bw36 hHeld.2.2.2.2.1, cell_on bw36 hHeld.2.2.2.2.2.1, cell_on bw36 hHeld.2.2.2.2.2.2.1, cell_on bw36 hHeld.2.2.2.2.2.2.2.1, cell_on bw36 hHeld.2.2.2.2.2.2.2.2.1, cell_on bw36 hHeld.2.2.2.2.2.2.2.2.2.1, cell_on bw36 hHeld.2.2.2.2.2.2.2.2.2.2.1, cell_on bw36 hHeld.2.2.2.2.2.2.2.2.2.2.2.1, cell_on bw36 hHeld.2.2.2.2.2.2.2.2.2.2.2.2.1, cell_on bw36 hHeld.2.2.2.2.2.2.2.2.2.2.2.2.2.1, cell_on bw36 hHeld.2.2.2.2.2.2.2.2.2.2.2.2.2.2.1, cell_on bw36 hHeld.2.2.2.2.2.2.2.2.2.2.2.2.2.2.2.1, cell_on bw36 hHeld.2.2.2.2.2.2.2.2.2.2.2.2.2.2.2.2.1, cell_on bw36 hHeld.2.2.2.2.2.2.2.2.2.2.2.2.2.2.2.2.2.1, cell_on bw36 hHeld.2.2.2.2.2.2.2.2.2.2.2.2.2.2.2.2.2.2.1, cell_on bw36 hHeld.2.2.2.2.2.2.2.2.2.2.2.2.2.2.2.2.2.2.2.1, also hHeld.2.2.2.2.2.2.2.2.2.2.2.2.2.2.2.2.2.2.2.2 bw36⟩ | exact ⟨cell_on bw32 hHeld.1, cell_on bw32 hHeld.2.1, cell_on bw32 hHeld.2.2.1, cell_on bw32 hHeld.2.2.2.1, cell_on bw32 hHeld.2.2.2.2.1, cell_on bw32 hHeld.2.2.2.2.2.1, cell_on bw32 hHeld.2.2.2.2.2.2.1, cell_on bw32 hHeld.2.2.2.2.2.2.2.1, cell_on bw32 hHeld.2.2.2.2.2.2.2.2.1, cell_on bw32 hHeld.2.2.2.2.2.2.2.2.2.1, cell_on bw32 hHeld.2.2.2.2.2.2.2.2.2.2.1, cell_on bw32 hHeld.2.2.2.2.2.2.2.2.2.2.2.1, cell_on bw32 hHeld.2.2.2.2.2.2.2.2.2.2.2.2.1, cell_on bw32 hHeld.2.2.2.2.2.2.2.2.2.2.2.2.2.1, cell_on bw32 hHeld.2.2.2.2.2.2.2.2.2.2.2.2.2.2.1, cell_on bw32 hHeld.2.2.2.2.2.2.2.2.2.2.2.2.2.2.2.1, cell_on bw32 hHeld.2.2.2.2.2.2.2.2.2.2.2.2.2.2.2.2.1, cell_on bw32 hHeld.2.2.2.2.2.2.2.2.2.2.2.2.2.2.2.2.2.1, cell_on bw32 hHeld.2.2.2.2.2.2.2.2.2.2.2.2.2.2.2.2.2.2.1, cell_on bw32 hHeld.2.2.2.2.2.2.2.2.2.2.2.2.2.2.2.2.2.2.2.1, also hHeld.2.2.2.2.2.2.2.2.2.2.2.2.2.2.2.2.2.2.2.2 bw32⟩ | exact ⟨cell_on bw31 hHeld.1, cell_on bw31 hHeld.2.1, cell_on bw31 hHeld.2.2.1, cell_on bw31 hHeld.2.2.2.1, cell_on bw31 hHeld.2.2.2.2.1, cell_on bw31 hHeld.2.2.2.2.2.1, cell_on bw31 hHeld.2.2.2.2.2.2.1, cell_on bw31 hHeld.2.2.2.2.2.2.2.1, cell_on bw31 hHeld.2.2.2.2.2.2.2.2.1, cell_on bw31 hHeld.2.2.2.2.2.2.2.2.2.1, cell_on bw31 hHeld.2.2.2.2.2.2.2.2.2.2.1, cell_on bw31 hHeld.2.2.2.2.2.2.2.2.2.2.2.1, cell_on bw31 hHeld.2.2.2.2.2.2.2.2.2.2.2.2.1, cell_on bw31 hHeld.2.2.2.2.2.2.2.2.2.2.2.2.2.1, cell_on bw31 hHeld.2.2.2.2.2.2.2.2.2.2.2.2.2.2.1, cell_on bw31 hHeld.2.2.2.2.2.2.2.2.2.2.2.2.2.2.2.1, cell_on bw31 hHeld.2.2.2.2.2.2.2.2.2.2.2.2.2.2.2.2.1, cell_on bw31 hHeld.2.2.2.2.2.2.2.2.2.2.2.2.2.2.2.2.2.1, cell_on bw31 hHeld.2.2.2.2.2.2.2.2.2.2.2.2.2.2.2.2.2.2.1, cell_on bw31 hHeld.2.2.2.2.2.2.2.2.2.2.2.2.2.2.2.2.2.2.2.1, also hHeld.2.2.2.2.2.2.2.2.2.2.2.2.2.2.2.2.2.2.2.2 bw31⟩ | exact ⟨cell_on bw21 hHeld.1, cell_on bw21 hHeld.2.1, cell_on bw21 hHeld.2.2.1, cell_on bw21 hHeld.2.2.2.1, cell_on bw21 hHeld.2.2.2.2.1, cell_on bw21 hHeld.2.2.2.2.2.1, cell_on bw21 hHeld.2.2.2.2.2.2.1, cell_on bw21 hHeld.2.2.2.2.2.2.2.1, cell_on bw21 hHeld.2.2.2.2.2.2.2.2.1, cell_on bw21 hHeld.2.2.2.2.2.2.2.2.2.1, cell_on bw21 hHeld.2.2.2.2.2.2.2.2.2.2.1, cell_on bw21 hHeld.2.2.2.2.2.2.2.2.2.2.2.1, cell_on bw21 hHeld.2.2.2.2.2.2.2.2.2.2.2.2.1, cell_on bw21 hHeld.2.2.2.2.2.2.2.2.2.2.2.2.2.1, cell_on bw21 hHeld.2.2.2.2.2.2.2.2.2.2.2.2.2.2.1, cell_on bw21 hHeld.2.2.2.2.2.2.2.2.2.2.2.2.2.2.2.1, cell_on bw21 hHeld.2.2.2.2.2.2.2.2.2.2.2.2.2.2.2.2.1, cell_on bw21 hHeld.2.2.2.2.2.2.2.2.2.2.2.2.2.2.2.2.2.1, cell_on bw21 hHeld.2.2.2.2.2.2.2.2.2.2.2.2.2.2.2.2.2.2.1, cell_on bw21 hHeld.2.2.2.2.2.2.2.2.2.2.2.2.2.2.2.2.2.2.2.1, also hHeld.2.2.2.2.2.2.2.2.2.2.2.2.2.2.2.2.2.2.2.2 bw21⟩ | exact ⟨cell_on bw20 hHeld.1, cell_on bw20 hHeld.2.1, cell_on bw20 hHeld.2.2.1, cell_on bw20 hHeld.2.2.2.1, cell_on bw20 hHeld.2.2.2.2.1, cell_on bw20 hHeld.2.2.2.2.2.1, cell_on bw20 hHeld.2.2.2.2.2.2.1, cell_on bw20 hHeld.2.2.2.2.2.2.2.1, cell_on bw20 hHeld.2.2.2.2.2.2.2.2.1, cell_on bw20 hHeld.2.2.2.2.2.2.2.2.2.1, cell_on bw20 hHeld.2.2.2.2.2.2.2.2.2.2.1, cell_on bw20 hHeld.2.2.2.2.2.2.2.2.2.2.2.1, cell_on bw20 hHeld.2.2.2.2.2.2.2.2.2.2.2.2.1, cell_on bw20 hHeld.2.2.2.2.2.2.2.2.2.2.2.2.2.1, cell_on bw20 hHeld.2.2.2.2.2.2.2.2.2.2.2.2.2.2.1, cell_on bw20 hHeld.2.2.2.2.2.2.2.2.2.2.2.2.2.2.2.1, cell_on bw20 hHeld.2.2.2.2.2.2.2.2.2.2.2.2.2.2.2.2.1, cell_on bw20 hHeld.2.2.2.2.2.2.2.2.2.2.2.2.2.2.2.2.2.1, cell_on bw20 hHeld.2.2.2.2.2.2.2.2.2.2.2.2.2.2.2.2.2.2.1, cell_on bw20 hHeld.2.2.2.2.2.2.2.2.2.2.2.2.2.2.2.2.2.2.2.1, also hHeld.2.2.2.2.2.2.2.2.2.2.2.2.2.2.2.2.2.2.2.2 bw20⟩ | exact ⟨cell_on bw17 hHeld.1, cell_on bw17 hHeld.2.1, cell_on bw17 hHeld.2.2.1, cell_on bw17 hHeld.2.2.2.1, cell_on bw17 hHeld.2.2.2.2.1, cell_on bw17 hHeld.2.2.2.2.2.1, cell_on bw17 hHeld.2.2.2.2.2.2.1, cell_on bw17 hHeld.2.2.2.2.2.2.2.1, cell_on bw17 hHeld.2.2.2.2.2.2.2.2.1, cell_on bw17 hHeld.2.2.2.2.2.2.2.2.2.1, cell_on bw17 hHeld.2.2.2.2.2.2.2.2.2.2.1, cell_on bw17 hHeld.2.2.2.2.2.2.2.2.2.2.2.1, cell_on bw17 hHeld.2.2.2.2.2.2.2.2.2.2.2.2.1, cell_on bw17 hHeld.2.2.2.2.2.2.2.2.2.2.2.2.2.1, cell_on bw17 hHeld.2.2.2.2.2.2.2.2.2.2.2.2.2.2.1, cell_on bw17 hHeld.2.2.2.2.2.2.2.2.2.2.2.2.2.2.2.1, cell_on bw17 hHeld.2.2.2.2.2.2.2.2.2.2.2.2.2.2.2.2.1, cell_on bw17 hHeld.2.2.2.2.2.2.2.2.2.2.2.2.2.2.2.2.2.1, cell_on bw17 hHeld.2.2.2.2.2.2.2.2.2.2.2.2.2.2.2.2.2.2.1, cell_on bw17 hHeld.2.2.2.2.2.2.2.2.2.2.2.2.2.2.2.2.2.2.2.1, also hHeld.2.2.2.2.2.2.2.2.2.2.2.2.2.2.2.2.2.2.2.2 bw17⟩ | exact ⟨cell_on bw16 hHeld.1, cell_on bw16 hHeld.2.1, cell_on bw16 hHeld.2.2.1, cell_on bw16 hHeld.2.2.2.1, cell_on bw16 hHeld.2.2.2.2.1, cell_on bw16 hHeld.2.2.2.2.2.1, cell_on bw16 hHeld.2.2.2.2.2.2.1, cell_on bw16 hHeld.2.2.2.2.2.2.2.1, cell_on bw16 hHeld.2.2.2.2.2.2.2.2.1, cell_on bw16 hHeld.2.2.2.2.2.2.2.2.2.1, cell_on bw16 hHeld.2.2.2.2.2.2.2.2.2.2.1, cell_on bw16 hHeld.2.2.2.2.2.2.2.2.2.2.2.1, cell_on bw16 hHeld.2.2.2.2.2.2.2.2.2.2.2.2.1, cell_on bw16 hHeld.2.2.2.2.2.2.2.2.2.2.2.2.2.1, cell_on bw16 hHeld.2.2.2.2.2.2.2.2.2.2.2.2.2.2.1, cell_on bw16 hHeld.2.2.2.2.2.2.2.2.2.2.2.2.2.2.2.1, cell_on bw16 hHeld.2.2.2.2.2.2.2.2.2.2.2.2.2.2.2.2.1, cell_on bw16 hHeld.2.2.2.2.2.2.2.2.2.2.2.2.2.2.2.2.2.1, cell_on bw16 hHeld.2.2.2.2.2.2.2.2.2.2.2.2.2.2.2.2.2.2.1, cell_on bw16 hHeld.2.2.2.2.2.2.2.2.2.2.2.2.2.2.2.2.2.2.2.1, also hHeld.2.2.2.2.2.2.2.2.2.2.2.2.2.2.2.2.2.2.2.2 bw16⟩ | exact ⟨cell_on bw15 hHeld.1, cell_on bw15 hHeld.2.1, cell_on bw15 hHeld.2.2.1, cell_on bw15 hHeld.2.2.2.1, cell_on bw15 hHeld.2.2.2.2.1, cell_on bw15 hHeld.2.2.2.2.2.1, cell_on bw15 hHeld.2.2.2.2.2.2.1, cell_on bw15 hHeld.2.2.2.2.2.2.2.1, cell_on bw15 hHeld.2.2.2.2.2.2.2.2.1, cell_on bw15 hHeld.2.2.2.2.2.2.2.2.2.1, cell_on bw15 hHeld.2.2.2.2.2.2.2.2.2.2.1, cell_on bw15 hHeld.2.2.2.2.2.2.2.2.2.2.2.1, cell_on bw15 hHeld.2.2.2.2.2.2.2.2.2.2.2.2.1, cell_on bw15 hHeld.2.2.2.2.2.2.2.2.2.2.2.2.2.1, cell_on bw15 hHeld.2.2.2.2.2.2.2.2.2.2.2.2.2.2.1, cell_on bw15 hHeld.2.2.2.2.2.2.2.2.2.2.2.2.2.2.2.1, cell_on bw15 hHeld.2.2.2.2.2.2.2.2.2.2.2.2.2.2.2.2.1, cell_on bw15 hHeld.2.2.2.2.2.2.2.2.2.2.2.2.2.2.2.2.2.1, cell_on bw15 hHeld.2.2.2.2.2.2.2.2.2.2.2.2.2.2.2.2.2.2.1, cell_on bw15 hHeld.2.2.2.2.2.2.2.2.2.2.2.2.2.2.2.2.2.2.2.1, also hHeld.2.2.2.2.2.2.2.2.2.2.2.2.2.2.2.2.2.2.2.2 bw15⟩ | exact ⟨cell_on bw14 hHeld.1, cell_on bw14 hHeld.2.1, cell_on bw14 hHeld.2.2.1, cell_on bw14 hHeld.2.2.2.1, cell_on bw14 hHeld.2.2.2.2.1, cell_on bw14 hHeld.2.2.2.2.2.1, cell_on bw14 hHeld.2.2.2.2.2.2.1, cell_on bw14 hHeld.2.2.2.2.2.2.2.1, cell_on bw14 hHeld.2.2.2.2.2.2.2.2.1, cell_on bw14 hHeld.2.2.2.2.2.2.2.2.2.1, cell_on bw14 hHeld.2.2.2.2.2.2.2.2.2.2.1, cell_on bw14 hHeld.2.2.2.2.2.2.2.2.2.2.2.1, cell_on bw14 hHeld.2.2.2.2.2.2.2.2.2.2.2.2.1, cell_on bw14 hHeld.2.2.2.2.2.2.2.2.2.2.2.2.2.1, cell_on bw14 hHeld.2.2.2.2.2.2.2.2.2.2.2.2.2.2.1, cell_on bw14 hHeld.2.2.2.2.2.2.2.2.2.2.2.2.2.2.2.1, cell_on bw14 hHeld.2.2.2.2.2.2.2.2.2.2.2.2.2.2.2.2.1, cell_on bw14 hHeld.2.2.2.2.2.2.2.2.2.2.2.2.2.2.2.2.2.1, cell_on bw14 hHeld.2.2.2.2.2.2.2.2.2.2.2.2.2.2.2.2.2.2.1, cell_on bw14 hHeld.2.2.2.2.2.2.2.2.2.2.2.2.2.2.2.2.2.2.2.1, also hHeld.2.2.2.2.2.2.2.2.2.2.2.2.2.2.2.2.2.2.2.2 bw14⟩ | exact ⟨cell_on bw13 hHeld.1, cell_on bw13 hHeld.2.1, cell_on bw13 hHeld.2.2.1, cell_on bw13 hHeld.2.2.2.1, cell_on bw13 hHeld.2.2.2.2.1, cell_on bw13 hHeld.2.2.2.2.2.1, cell_on bw13 hHeld.2.2.2.2.2.2.1, cell_on bw13 hHeld.2.2.2.2.2.2.2.1, cell_on bw13 hHeld.2.2.2.2.2.2.2.2.1, cell_on bw13 hHeld.2.2.2.2.2.2.2.2.2.1, cell_on bw13 hHeld.2.2.2.2.2.2.2.2.2.2.1, cell_on bw13 hHeld.2.2.2.2.2.2.2.2.2.2.2.1, cell_on bw13 hHeld.2.2.2.2.2.2.2.2.2.2.2.2.1, cell_on bw13 hHeld.2.2.2.2.2.2.2.2.2.2.2.2.2.1, cell_on bw13 hHeld.2.2.2.2.2.2.2.2.2.2.2.2.2.2.1, cell_on bw13 hHeld.2.2.2.2.2.2.2.2.2.2.2.2.2.2.2.1, cell_on bw13 hHeld.2.2.2.2.2.2.2.2.2.2.2.2.2.2.2.2.1, cell_on bw13 hHeld.2.2.2.2.2.2.2.2.2.2.2.2.2.2.2.2.2.1, cell_on bw13 hHeld.2.2.2.2.2.2.2.2.2.2.2.2.2.2.2.2.2.2.1, cell_on bw13 hHeld.2.2.2.2.2.2.2.2.2.2.2.2.2.2.2.2.2.2.2.1, also hHeld.2.2.2.2.2.2.2.2.2.2.2.2.2.2.2.2.2.2.2.2 bw13⟩
  clear hK Kc
  have zbw31 := bw31.size
  replace BB := also BB bw31
  replace x_a := x_a.on bw31
  replace q1 := q1.below bw31
  replace x2 := x2.below bw31
  replace x_x := x_x.on bw31
  replace h3 := h3.below bw31
  replace h4 := h4.below bw31
  replace x_f := x_f.on bw31
  replace x_n := x_n.on bw31
  replace x_h := x_h.on bw31
  replace hh := hh.below bw31
  replace x9 := x9.below bw31
  replace x_dd := x_dd.on bw31
  replace x12 := x12.below bw31
  replace x_ee := x_ee.on bw31
  replace r13 := r13.below bw31
  replace r15 := r15.below bw31
  replace x20 := x20.below bw31
  refine take_call (i := 32) rfl (by kernel_rfl) (fun Kc hK => ?_)
  go_simp
  (go_at_call 30; refine (rqCmp s12 d12 l12 c12 t12 g12 h12 k12 N2 D2 s31 d31 l31 c31 t31 g31 h31 k31 1 1 19 _ x12 (x31.more (by decide) (by decide)) (by decide) HG3.out).mono ?_; rintro e w32 ⟨rfl, bw32⟩)
  refine hK.out _ _ ?_ (fun hHeld => ?_)
  · first | exact ⟨x_f.c0, x_f.c1, x_x.c0, x_x.c1, x_x.c2, x_x.c3, x_n.c0, x_n.c1, x_dd.c0, x_dd.c1, x_dd.c2, x_dd.c3, x_h.c0, x_h.c1, x_h.c2, x_h.c3, x_ee.c0, x_ee.c1, x_ee.c2, x_ee.c3, BB⟩ | exact ⟨cell_on bw36 hHeld.1, cell_on bw36 hHeld.2.1, cell_on bw36 hHeld.2.2.1, cell_on bw36 hHeld.2.2.2.1, cell_on bw36 hHeld.2.2.2.2.1, cell_on bw36 hHeld.2.2.2.2.2.1, cell_on bw36 hHeld.2.2.2.2.2.2.1, cell_on bw36 hHeld.2.2.2.2.2.2.2.1, cell_on bw36 hHeld.2.2.2.2.2.2.2.2.1, cell_on bw36 hHeld.2.2.2.2.2.2.2.2.2.1, cell_on bw36 hHeld.2.2.2.2.2.2.2.2.2.2.1, cell_on bw36 hHeld.2.2.2.2.2.2.2.2.2.2.2.1, cell_on bw36 hHeld.2.2.2.2.2.2.2.2.2.2.2.2.1, cell_on bw36 hHeld.2.2.2.2.2.2.2.2.2.2.2.2.2.1, cell_on bw36 hHeld.2.2.2.2.2.2.2.2.2.2.2.2.2.2.1, cell_on bw36 hHeld.2.2.2.2.2.2.2.2.2.2.2.2.2.2.2.1, cell_on bw36 hHeld.2.2.2.2.2.2.2.2.2.2.2.2.2.2.2.2.1, cell_on bw36 hHeld.2.2.2.2.2.2.2.2.2.2.2.2.2.2.2.2.2.1, cell_on bw36 hHeld.2.2.2.2.2.2.2.2.2.2.2.2.2.2.2.2.2.2.1, cell_on bw36 hHeld.2.2.2.2.2.2.2.2.2.2.2.2.2.2.2.2.2.2.2.1, also hHeld.2.2.2.2.2.2.2.2.2.2.2.2.2.2.2.2.2.2.2.2 bw36⟩ | exact ⟨cell_on bw32 hHeld.1, cell_on bw32 hHeld.2.1, cell_on bw32 hHeld.2.2.1, cell_on bw32 hHeld.2.2.2.1, cell_on bw32 hHeld.2.2.2.2.1, cell_on bw32 hHeld.2.2.2.2.2.1, cell_on bw32 hHeld.2.2.2.2.2.2.1, cell_on bw32 hHeld.2.2.2.2.2.2.2.1, cell_on bw32 hHeld.2.2.2.2.2.2.2.2.1, cell_on bw32 hHeld.2.2.2.2.2.2.2.2.2.1, cell_on bw32 hHeld.2.2.2.2.2.2.2.2.2.2.1, cell_on bw32 hHeld.2.2.2.2.2.2.2.2.2.2.2.1, cell_on bw32 hHeld.2.2.2.2.2.2.2.2.2.2.2.2.1, cell_on bw32 hHeld.2.2.2.2.2.2.2.2.2.2.2.2.2.1, cell_on bw32 hHeld.2.2.2.2.2.2.2.2.2.2.2.2.2.2.1, cell_on bw32 hHeld.2.2.2.2.2.2.2.2.2.2.2.2.2.2.2.1, cell_on bw32 hHeld.2.2.2.2.2.2.2.2.2.2.2.2.2.2.2.2.1, cell_on bw32 hHeld.2.2.2.2.2.2.2.2.2.2.2.2.2.2.2.2.2.1, cell_on bw32 hHeld.2.2.2.2.2.2.2.2.2.2.2.2.2.2.2.2.2.2.1, cell_on bw32 hHeld.2.2.2.2.2.2.2.2.2.2.2.2.2.2.2.2.2.2.2.1, also hHeld.2.2.2.2.2.2.2.2.2.2.2.2.2.2.2.2.2.2.2.2 bw32⟩ | exact ⟨cell_on bw31 hHeld.1, cell_on bw31 hHeld.2.1, cell_on bw31 hHeld.2.2.1, cell_on bw31 hHeld.2.2.2.1, cell_on bw31 hHeld.2.2.2.2.1, cell_on bw31 hHeld.2.2.2.2.2.1, cell_on bw31 hHeld.2.2.2.2.2.2.1, cell_on bw31 hHeld.2.2.2.2.2.2.2.1, cell_on bw31 hHeld.2.2.2.2.2.2.2.2.1, cell_on bw31 hHeld.2.2.2.2.2.2.2.2.2.1, cell_on bw31 hHeld.2.2.2.2.2.2.2.2.2.2.1, cell_on bw31 hHeld.2.2.2.2.2.2.2.2.2.2.2.1, cell_on bw31 hHeld.2.2.2.2.2.2.2.2.2.2.2.2.1, cell_on bw31 hHeld.2.2.2.2.2.2.2.2.2.2.2.2.2.1, cell_on bw31 hHeld.2.2.2.2.2.2.2.2.2.2.2.2.2.2.1, cell_on bw31 hHeld.2.2.2.2.2.2.2.2.2.2.2.2.2.2.2.1, cell_on bw31 hHeld.2.2.2.2.2.2.2.2.2.2.2.2.2.2.2.2.1, cell_on bw31 hHeld.2.2.2.2.2.2.2.2.2.2.2.2.2.2.2.2.2.1, cell_on bw31 hHeld.2.2.2.2.2.2.2.2.2.2.2.2.2.2.2.2.2.2.1, cell_on bw31 hHeld.2.2.2.2.2.2.2.2.2.2.2.2.2.2.2.2.2.2.2.1, also hHeld.2.2.2.2.2.2.2.2.2.2.2.2.2.2.2.2.2.2.2.2 bw31⟩ | exact ⟨cell_on bw21 hHeld.1, cell_on bw21 hHeld.2.1, cell_on bw21 hHeld.2.2.1, cell_on bw21 hHeld.2.2.2.1, cell_on bw21 hHeld.2.2.2.2.1, cell_on bw21 hHeld.2.2.2.2.2.1, cell_on bw21 hHeld.2.2.2.2.2.2.1, cell_on bw21 hHeld.2.2.2.2.2.2.2.1, cell_on bw21 hHeld.2.2.2.2.2.2.2.2.1, cell_on bw21 hHeld.2.2.2.2.2.2.2.2.2.1, cell_on bw21 hHeld.2.2.2.2.2.2.2.2.2.2.1, cell_on bw21 hHeld.2.2.2.2.2.2.2.2.2.2.2.1, cell_on bw21 hHeld.2.2.2.2.2.2.2.2.2.2.2.2.1, cell_on bw21 hHeld.2.2.2.2.2.2.2.2.2.2.2.2.2.1, cell_on bw21 hHeld.2.2.2.2.2.2.2.2.2.2.2.2.2.2.1, cell_on bw21 hHeld.2.2.2.2.2.2.2.2.2.2.2.2.2.2.2.1, cell_on bw21 hHeld.2.2.2.2.2.2.2.2.2.2.2.2.2.2.2.2.1, cell_on bw21 hHeld.2.2.2.2.2.2.2.2.2.2.2.2.2.2.2.2.2.1, cell_on bw21 hHeld.2.2.2.2.2.2.2.2.2.2.2.2.2.2.2.2.2.2.1, cell_on bw21 hHeld.2.2.2.2.2.2.2.2.2.2.2.2.2.2.2.2.2.2.2.1, also hHeld.2.2.2.2.2.2.2.2.2.2.2.2.2.2.2.2.2.2.2.2 bw21⟩ | exact ⟨cell_on bw20 hHeld.1, cell_on bw20 hHeld.2.1, cell_on bw20 hHeld.2.2.1, cell_on bw20 hHeld.2.2.2.1, cell_on bw20 hHeld.2.2.2.2.1, cell_on bw20 hHeld.2.2.2.2.2.1, cell_on bw20 hHeld.2.2.2.2.2.2.1, cell_on bw20 hHeld.2.2.2.2.2.2.2.1, cell_on bw20 hHeld.2.2.2.2.2.2.2.2.1, cell_on bw20 hHeld.2.2.2.2.2.2.2.2.2.1, cell_on bw20 hHeld.2.2.2.2.2.2.2.2.2.2.1, cell_on bw20 hHeld.2.2.2.2.2.2.2.2.2.2.2.1, cell_on bw20 hHeld.2.2.2.2.2.2.2.2.2.2.2.2.1, cell_on bw20 hHeld.2.2.2.2.2.2.2.2.2.2.2.2.2.1, cell_on bw20 hHeld.2.2.2.2.2.2.2.2.2.2.2.2.2.2.1, cell_on bw20 hHeld.2.2.2.2.2.2.2.2.2.2.2.2.2.2.2.1, cell_on bw20 hHeld.2.2.2.2.2.2.2.2.2.2.2.2.2.2.2.2.1, cell_on bw20 hHeld.2.2.2.2.2.2.2.2.2.2.2.2.2.2.2.2.2.1, cell_on bw20 hHeld.2.2.2.2.2.2.2.2.2.2.2.2.2.2.2.2.2.2.1, cell_on bw20 hHeld.2.2.2.2.2.2.2.2.2.2.2.2.2.2.2.2.2.2.2.1, also hHeld.2.2.2.2.2.2.2.2.2.2.2.2.2.2.2.2.2.2.2.2 bw20⟩ | exact ⟨cell_on bw17 hHeld.1, cell_on bw17 hHeld.2.1, cell_on bw17 hHeld.2.2.1, cell_on bw17 hHeld.2.2.2.1, cell_on bw17 hHeld.2.2.2.2.1, cell_on bw17 hHeld.2.2.2.2.2.1, cell_on bw17 hHeld.2.2.2.2.2.2.1, cell_on bw17 hHeld.2.2.2.2.2.2.2.1, cell_on bw17 hHeld.2.2.2.2.2.2.2.2.1, cell_on bw17 hHeld.2.2.2.2.2.2.2.2.2.1, cell_on bw17 hHeld.2.2.2.2.2.2.2.2.2.2.1, cell_on bw17 hHeld.2.2.2.2.2.2.2.2.2.2.2.1, cell_on bw17 hHeld.2.2.2.2.2.2.2.2.2.2.2.2.1, cell_on bw17 hHeld.2.2.2.2.2.2.2.2.2.2.2.2.2.1, cell_on bw17 hHeld.2.2.2.2.2.2.2.2.2.2.2.2.2.2.1, cell_on bw17 hHeld.2.2.2.2.2.2.2.2.2.2.2.2.2.2.2.1, cell_on bw17 hHeld.2.2.2.2.2.2.2.2.2.2.2.2.2.2.2.2.1, cell_on bw17 hHeld.2.2.2.2.2.2.2.2.2.2.2.2.2.2.2.2.2.1, cell_on bw17 hHeld.2.2.2.2.2.2.2.2.2.2.2.2.2.2.2.2.2.2.1, cell_on bw17 hHeld.2.2.2.2.2.2.2.2.2.2.2.2.2.2.2.2.2.2.2.1, also hHeld.2.2.2.2.2.2.2.2.2.2.2.2.2.2.2.2.2.2.2.2 bw17⟩ | exact ⟨cell_on bw16 hHeld.1, cell_on bw16 hHeld.2.1, cell_on bw16 hHeld.2.2.1, cell_on bw16 hHeld.2.2.2.1, cell_on bw16 hHeld.2.2.2.2.1, cell_on bw16 hHeld.2.2.2.2.2.1, cell_on bw16 hHeld.2.2.2.2.2.2.1, cell_on bw16 hHeld.2.2.2.2.2.2.2.1, cell_on bw16 hHeld.2.2.2.2.2.2.2.2.1, cell_on bw16 hHeld.2.2.2.2.2.2.2.2.2.1, cell_on bw16 hHeld.2.2.2.2.2.2.2.2.2.2.1, cell_on bw16 hHeld.2.2.2.2.2.2.2.2.2.2.2.1, cell_on bw16 hHeld.2.2.2.2.2.2.2.2.2.2.2.2.1, cell_on bw16 hHeld.2.2.2.2.2.2.2.2.2.2.2.2.2.1, cell_on bw16 hHeld.2.2.2.2.2.2.2.2.2.2.2.2.2.2.1, cell_on bw16 hHeld.2.2.2.2.2.2.2.2.2.2.2.2.2.2.2.1, cell_on bw16 hHeld.2.2.2.2.2.2.2.2.2.2.2.2.2.2.2.2.1, cell_on bw16 hHeld.2.2.2.2.2.2.2.2.2.2.2.2.2.2.2.2.2.1, cell_on bw16 hHeld.2.2.2.2.2.2.2.2.2.2.2.2.2.2.2.2.2.2.1, cell_on bw16 hHeld.2.2.2.2.2.2.2.2.2.2.2.2.2.2.2.2.2.2.2.1, also hHeld.2.2.2.2.2.2.2.2.2.2.2.2.2.2.2.2.2.2.2.2 bw16⟩ | exact ⟨cell_on bw15 hHeld.1, cell_on bw15 hHeld.2.1, cell_on bw15 hHeld.2.2.1, cell_on bw15 hHeld.2.2.2.1, cell_on bw15 hHeld.2.2.2.2.1, cell_on bw15 hHeld.2.2.2.2.2.1, cell_on bw15 hHeld.2.2.2.2.2.2.1, cell_on bw15 hHeld.2.2.2.2.2.2.2.1, cell_on bw15 hHeld.2.2.2.2.2.2.2.2.1, cell_on bw15 hHeld.2.2.2.2.2.2.2.2.2.1, cell_on bw15 hHeld.2.2.2.2.2.2.2.2.2.2.1, cell_on bw15 hHeld.2.2.2.2.2.2.2.2.2.2.2.1, cell_on bw15 hHeld.2.2.2.2.2.2.2.2.2.2.2.2.1, cell_on bw15 hHeld.2.2.2.2.2.2.2.2.2.2.2.2.2.1, cell_on bw15 hHeld.2.2.2.2.2.2.2.2.2.2.2.2.2.2.1, cell_on bw15 hHeld.2.2.2.2.2.2.2.2.2.2.2.2.2.2.2.1, cell_on bw15 hHeld.2.2.2.2.2.2.2.2.2.2.2.2.2.2.2.2.1, cell_on bw15 hHeld.2.2.2.2.2.2.2.2.2.2.2.2.2.2.2.2.2.1, cell_on bw15 hHeld.2.2.2.2.2.2.2.2.2.2.2.2.2.2.2.2.2.2.1, cell_on bw15 hHeld.2.2.2.2.2.2.2.2.2.2.2.2.2.2.2.2.2.2.2.1, also hHeld.2.2.2.2.2.2.2.2.2.2.2.2.2.2.2.2.2.2.2.2 bw15⟩ | exact ⟨cell_on bw14 hHeld.1, cell_on bw14 hHeld.2.1, cell_on bw14 hHeld.2.2.1, cell_on bw14 hHeld.2.2.2.1, cell_on bw14 hHeld.2.2.2.2.1, cell_on bw14 hHeld.2.2.2.2.2.1, cell_on bw14 hHeld.2.2.2.2.2.2.1, cell_on bw14 hHeld.2.2.2.2.2.2.2.1, cell_on bw14 hHeld.2.2.2.2.2.2.2.2.1, cell_on bw14 hHeld.2.2.2.2.2.2.2.2.2.1, cell_on bw14 hHeld.2.2.2.2.2.2.2.2.2.2.1, cell_on bw14 hHeld.2.2.2.2.2.2.2.2.2.2.2.1, cell_on bw14 hHeld.2.2.2.2.2.2.2.2.2.2.2.2.1, cell_on bw14 hHeld.2.2.2.2.2.2.2.2.2.2.2.2.2.1, cell_on bw14 hHeld.2.2.2.2.2.2.2.2.2.2.2.2.2.2.1, cell_on bw14 hHeld.2.2.2.2.2.2.2.2.2.2.2.2.2.2.2.1, cell_on bw14 hHeld.2.2.2.2.2.2.2.2.2.2.2.2.2.2.2.2.1, cell_on bw14 hHeld.2.2.2.2.2.2.2.2.2.2.2.2.2.2.2.2.2.1, cell_on bw14 hHeld.2.2.2.2.2.2.2.2.2.2.2.2.2.2.2.2.2.2.1, cell_on bw14 hHeld.2.2.2.2.2.2.2.2.2.2.2.2.2.2.2.2.2.2.2.1, also hHeld.2.2.2.2.2.2.2.2.2.2.2.2.2.2.2.2.2.2.2.2 bw14⟩ | exact ⟨cell_on bw13 hHeld.1, cell_on bw13 hHeld.2.1, cell_on bw13 hHeld.2.2.1, cell_on bw13 hHeld.2.2.2.1, cell_on bw13 hHeld.2.2.2.2.1, cell_on bw13 hHeld.2.2.2.2.2.1, cell_on bw13 hHeld.2.2.2.2.2.2.1, cell_on bw13 hHeld.2.2.2.2.2.2.2.1, cell_on bw13 hHeld.2.2.2.2.2.2.2.2.1, cell_on bw13 hHeld.2.2.2.2.2.2.2.2.2.1, cell_on bw13 hHeld.2.2.2.2.2.2.2.2.2.2.1, cell_on bw13 hHeld.2.2.2.2.2.2.2.2.2.2.2.1, cell_on bw13 hHeld.2.2.2.2.2.2.2.2.2.2.2.2.1, cell_on bw13 hHeld.2.2.2.2.2.2.2.2.2.2.2.2.2.1, cell_on bw13 hHeld.2.2.2.2.2.2.2.2.2.2.2.2.2.2.1, cell_on bw13 hHeld.2.2.2.2.2.2.2.2.2.2.2.2.2.2.2.1, cell_on bw13 hHeld.2.2.2.2.2.2.2.2.2.2.2.2.2.2.2.2.1, cell_on bw13 hHeld.2.2.2.2.2.2.2.2.2.2.2.2.2.2.2.2.2.1, cell_on bw13 hHeld.2.2.2.2.2.2.2.2.2.2.2.2.2.2.2.2.2.2.1, cell_on bw13 hHeld.2.2.2.2.2.2.2.2.2.2.2.2.2.2.2.2.2.2.2.1, also hHeld.2.2.2.2.2.2.2.2.2.2.2.2.2.2.2.2.2.2.2.2 bw13⟩
  clear hK Kc
  have zbw32 := bw32.size
  replace BB := also BB bw32
  replace x_a := x_a.on bw32
  replace q1 := q1.below bw32
  replace x2 := x2.below bw32
  replace x_x := x_x.on bw32
  replace h3 := h3.below bw32
  replace h4 := h4.below bw32
  replace x_f := x_f.on bw32
  replace x_n := x_n.on bw32
  replace x_h := x_h.on bw32
  replace hh := hh.below bw32
  replace x9 := x9.below bw32
  replace x_dd := x_dd.on bw32
  replace x12 := x12.below bw32
  replace x_ee := x_ee.on bw32
  replace r13 := r13.below bw32
  replace r15 := r15.below bw32
  replace x20 := x20.below bw32
  replace x31 := x31.below bw32
  refine take_yes (i := 33) (v := ?vw33) rfl (by kernel_rfl) (by kernel_rfl) (by kernel_rfl) (fun _ _ _ h => h) (by rfl) (by assumption) ?hyw33 ?restw33
  case hyw33 => (intro w hSw; (try dsimp only at hSw); first | (go_simp; done) | (go_simp; with_reducible rfl))
  simp only [Act.put, List.setIfInBounds_toArray, List.set_cons_zero, List.set_cons_succ]
  refine take_yes (i := 34) (v := ?vw34) rfl (by kernel_rfl) (by kernel_rfl) (by kernel_rfl) (fun _ _ _ h => h) (by rfl) (by assumption) ?hyw34 ?restw34
  case hyw34 => (intro w hSw; (try dsimp only at hSw); first | (go_simp; done) | (go_simp; with_reducible rfl))
  simp only [Act.put, List.setIfInBounds_toArray, List.set_cons_zero, List.set_cons_succ]
  refine take_yes (i := 35) (v := ?vw35) rfl (by kernel_rfl) (by kernel_rfl) (by kernel_rfl) (fun _ _ _ h => h) (by rfl) (by assumption) ?hyw35 ?restw35
  case hyw35 => (intro w hSw; (try dsimp only at hSw); first | (go_simp; done) | (go_simp; with_reducible rfl))
  simp only [Act.put, List.setIfInBounds_toArray, List.set_cons_zero, List.set_cons_succ]
  refine take_call (i := 36) rfl (by kernel_rfl) (fun Kc hK => ?_)
  go_simp
  (go_at_call 17; refine (lives5_any _).mono ?_; rintro e w36 ⟨rfl, bw36⟩)
  refine hK.out _ _ ?_ (fun hHeld => ?_)
  · first | exact ⟨x_f.c0, x_f.c1, x_x.c0, x_x.c1, x_x.c2, x_x.c3, x_n.c0, x_n.c1, x_dd.c0, x_dd.c1, x_dd.c2, x_dd.c3, x_h.c0, x_h.c1, x_h.c2, x_h.c3, x_ee.c0, x_ee.c1, x_ee.c2, x_ee.c3, BB⟩ | exact ⟨cell_on bw36 hHeld.1, cell_on bw36 hHeld.2.1, cell_on bw36 hHeld.2.2.1, cell_on bw36 hHeld.2.2.2.1, cell_on bw36 hHeld.2.2.2.2.1, cell_on bw36 hHeld.2.2.2.2.2.1, cell_on bw36 hHeld.2.2.2.2.2.2.1, cell_on bw36 hHeld.2.2.2.2.2.2.2.1, cell_on bw36 hHeld.2.2.2.2.2.2.2.2.1, cell_on bw36 hHeld.2.2.2.2.2.2.2.2.2.1, cell_on bw36 hHeld.2.2.2.2.2.2.2.2.2.2.1, cell_on bw36 hHeld.2.2.2.2.2.2.2.2.2.2.2.1, cell_on bw36 hHeld.2.2.2.2.2.2.2.2.2.2.2.2.1, cell_on bw36 hHeld.2.2.2.2.2.2.2.2.2.2.2.2.2.1, cell_on bw36 hHeld.2.2.2.2.2.2.2.2.2.2.2.2.2.2.1, cell_on bw36 hHeld.2.2.2.2.2.2.2.2.2.2.2.2.2.2.2.1, cell_on bw36 hHeld.2.2.2.2.2.2.2.2.2.2.2.2.2.2.2.2.1, cell_on bw36 hHeld.2.2.2.2.2.2.2.2.2.2.2.2.2.2.2.2.2.1, cell_on bw36 hHeld.2.2.2.2.2.2.2.2.2.2.2.2.2.2.2.2.2.2.1, cell_on bw36 hHeld.2.2.2.2.2.2.2.2.2.2.2.2.2.2.2.2.2.2.2.1, also hHeld.2.2.2.2.2.2.2.2.2.2.2.2.2.2.2.2.2.2.2.2 bw36⟩ | exact ⟨cell_on bw32 hHeld.1, cell_on bw32 hHeld.2.1, cell_on bw32 hHeld.2.2.1, cell_on bw32 hHeld.2.2.2.1, cell_on bw32 hHeld.2.2.2.2.1, cell_on bw32 hHeld.2.2.2.2.2.1, cell_on bw32 hHeld.2.2.2.2.2.2.1, cell_on bw32 hHeld.2.2.2.2.2.2.2.1, cell_on bw32 hHeld.2.2.2.2.2.2.2.2.1, cell_on bw32 hHeld.2.2.2.2.2.2.2.2.2.1, cell_on bw32 hHeld.2.2.2.2.2.2.2.2.2.2.1, cell_on bw32 hHeld.2.2.2.2.2.2.2.2.2.2.2.1, cell_on bw32 hHeld.2.2.2.2.2.2.2.2.2.2.2.2.1, cell_on bw32 hHeld.2.2.2.2.2.2.2.2.2.2.2.2.2.1, cell_on bw32 hHeld.2.2.2.2.2.2.2.2.2.2.2.2.2.2.1, cell_on bw32 hHeld.2.2.2.2.2.2.2.2.2.2.2.2.2.2.2.1, cell_on bw32 hHeld.2.2.2.2.2.2.2.2.2.2.2.2.2.2.2.2.1, cell_on bw32 hHeld.2.2.2.2.2.2.2.2.2.2.2.2.2.2.2.2.2.1, cell_on bw32 hHeld.2.2.2.2.2.2.2.2.2.2.2.2.2.2.2.2.2.2.1, cell_on bw32 hHeld.2.2.2.2.2.2.2.2.2.2.2.2.2.2.2.2.2.2.2.1, also hHeld.2.2.2.2.2.2.2.2.2.2.2.2.2.2.2.2.2.2.2.2 bw32⟩ | exact ⟨cell_on bw31 hHeld.1, cell_on bw31 hHeld.2.1, cell_on bw31 hHeld.2.2.1, cell_on bw31 hHeld.2.2.2.1, cell_on bw31 hHeld.2.2.2.2.1, cell_on bw31 hHeld.2.2.2.2.2.1, cell_on bw31 hHeld.2.2.2.2.2.2.1, cell_on bw31 hHeld.2.2.2.2.2.2.2.1, cell_on bw31 hHeld.2.2.2.2.2.2.2.2.1, cell_on bw31 hHeld.2.2.2.2.2.2.2.2.2.1, cell_on bw31 hHeld.2.2.2.2.2.2.2.2.2.2.1, cell_on bw31 hHeld.2.2.2.2.2.2.2.2.2.2.2.1, cell_on bw31 hHeld.2.2.2.2.2.2.2.2.2.2.2.2.1, cell_on bw31 hHeld.2.2.2.2.2.2.2.2.2.2.2.2.2.1, cell_on bw31 hHeld.2.2.2.2.2.2.2.2.2.2.2.2.2.2.1, cell_on bw31 hHeld.2.2.2.2.2.2.2.2.2.2.2.2.2.2.2.1, cell_on bw31 hHeld.2.2.2.2.2.2.2.2.2.2.2.2.2.2.2.2.1, cell_on bw31 hHeld.2.2.2.2.2.2.2.2.2.2.2.2.2.2.2.2.2.1, cell_on bw31 hHeld.2.2.2.2.2.2.2.2.2.2.2.2.2.2.2.2.2.2.1, cell_on bw31 hHeld.2.2.2.2.2.2.2.2.2.2.2.2.2.2.2.2.2.2.2.1, also hHeld.2.2.2.2.2.2.2.2.2.2.2.2.2.2.2.2.2.2.2.2 bw31⟩ | exact ⟨cell_on bw21 hHeld.1, cell_on bw21 hHeld.2.1, cell_on bw21 hHeld.2.2.1, cell_on bw21 hHeld.2.2.2.1, cell_on bw21 hHeld.2.2.2.2.1, cell_on bw21 hHeld.2.2.2.2.2.1, cell_on bw21 hHeld.2.2.2.2.2.2.1, cell_on bw21 hHeld.2.2.2.2.2.2.2.1, cell_on bw21 hHeld.2.2.2.2.2.2.2.2.1, cell_on bw21 hHeld.2.2.2.2.2.2.2.2.2.1, cell_on bw21 hHeld.2.2.2.2.2.2.2.2.2.2.1, cell_on bw21 hHeld.2.2.2.2.2.2.2.2.2.2.2.1, cell_on bw21 hHeld.2.2.2.2.2.2.2.2.2.2.2.2.1, cell_on bw21 hHeld.2.2.2.2.2.2.2.2.2.2.2.2.2.1, cell_on bw21 hHeld.2.2.2.2.2.2.2.2.2.2.2.2.2.2.1, cell_on bw21 hHeld.2.2.2.2.2.2.2.2.2.2.2.2.2.2.2.1, cell_on bw21 hHeld.2.2.2.2.2.2.2.2.2.2.2.2.2.2.2.2.1, cell_on bw21 hHeld.2.2.2.2.2.2.2.2.2.2.2.2.2.2.2.2.2.1, cell_on bw21 hHeld.2.2.2.2.2.2.2.2.2.2.2.2.2.2.2.2.2.2.1, cell_on bw21 hHeld.2.2.2.2.2.2.2.2.2.2.2.2.2.2.2.2.2.2.2.1, also hHeld.2.2.2.2.2.2.2.2.2.2.2.2.2.2.2.2.2.2.2.2 bw21⟩ | exact ⟨cell_on bw20 hHeld.1, cell_on bw20 hHeld.2.1, cell_on bw20 hHeld.2.2.1, cell_on bw20 hHeld.2.2.2.1, cell_on bw20 hHeld.2.2.2.2.1, cell_on bw20 hHeld.2.2.2.2.2.1, cell_on bw20 hHeld.2.2.2.2.2.2.1, cell_on bw20 hHeld.2.2.2.2.2.2.2.1, cell_on bw20 hHeld.2.2.2.2.2.2.2.2.1, cell_on bw20 hHeld.2.2.2.2.2.2.2.2.2.1, cell_on bw20 hHeld.2.2.2.2.2.2.2.2.2.2.1, cell_on bw20 hHeld.2.2.2.2.2.2.2.2.2.2.2.1, cell_on bw20 hHeld.2.2.2.2.2.2.2.2.2.2.2.2.1, cell_on bw20 hHeld.2.2.2.2.2.2.2.2.2.2.2.2.2.1, cell_on bw20 hHeld.2.2.2.2.2.2.2.2.2.2.2.2.2.2.1, cell_on bw20 hHeld.2.2.2.2.2.2.2.2.2.2.2.2.2.2.2.1, cell_on bw20 hHeld.2.2.2.2.2.2.2.2.2.2.2.2.2.2.2.2.1, cell_on bw20 hHeld.2.2.2.2.2.2.2.2.2.2.2.2.2.2.2.2.2.1, cell_on bw20 hHeld.2.2.2.2.2.2.2.2.2.2.2.2.2.2.2.2.2.2.1, cell_on bw20 hHeld.2.2.2.2.2.2.2.2.2.2.2.2.2.2.2.2.2.2.2.1, also hHeld.2.2.2.2.2.2.2.2.2.2.2.2.2.2.2.2.2.2.2.2 bw20⟩ | exact ⟨cell_on bw17 hHeld.1, cell_on bw17 hHeld.2.1, cell_on bw17 hHeld.2.2.1, cell_on bw17 hHeld.2.2.2.1, cell_on bw17 hHeld.2.2.2.2.1, cell_on bw17 hHeld.2.2.2.2.2.1, cell_on bw17 hHeld.2.2.2.2.2.2.1, cell_on bw17 hHeld.2.2.2.2.2.2.2.1, cell_on bw17 hHeld.2.2.2.2.2.2.2.2.1, cell_on bw17 hHeld.2.2.2.2.2.2.2.2.2.1, cell_on bw17 hHeld.2.2.2.2.2.2.2.2.2.2.1, cell_on bw17 hHeld.2.2.2.2.2.2.2.2.2.2.2.1, cell_on bw17 hHeld.2.2.2.2.2.2.2.2.2.2.2.2.1, cell_on bw17 hHeld.2.2.2.2.2.2.2.2.2.2.2.2.2.1, cell_on bw17 hHeld.2.2.2.2.2.2.2.2.2.2.2.2.2.2.1, cell_on bw17 hHeld.2.2.2.2.2.2.2.2.2.2.2.2.2.2.2.1, cell_on bw17 hHeld.2.2.2.2.2.2.2.2.2.2.2.2.2.2.2.2.1, cell_on bw17 hHeld.2.2.2.2.2.2.2.2.2.2.2.2.2.2.2.2.2.1, cell_on bw17 hHeld.2.2.2.2.2.2.2.2.2.2.2.2.2.2.2.2.2.2.1, cell_on bw17 hHeld.2.2.2.2.2.2.2.2.2.2.2.2.2.2.2.2.2.2.2.1, also hHeld.2.2.2.2.2.2.2.2.2.2.2.2.2.2.2.2.2.2.2.2 bw17⟩ | exact ⟨cell_on bw16 hHeld.1, cell_on bw16 hHeld.2.1, cell_on bw16 hHeld.2.2.1, cell_on bw16 hHeld.2.2.2.1, cell_on bw16 hHeld.2.2.2.2.1, cell_on bw16 hHeld.2.2.2.2.2.1, cell_on bw16 hHeld.2.2.2.2.2.2.1, cell_on bw16 hHeld.2.2.2.2.2.2.2.1, cell_on bw16 hHeld.2.2.2.2.2.2.2.2.1, cell_on bw16 hHeld.2.2.2.2.2.2.2.2.2.1, cell_on bw16 hHeld.2.2.2.2.2.2.2.2.2.2.1, cell_on bw16 hHeld.2.2.2.2.2.2.2.2.2.2.2.1, cell_on bw16 hHeld.2.2.2.2.2.2.2.2.2.2.2.2.1, cell_on bw16 hHeld.2.2.2.2.2.2.2.2.2.2.2.2.2.1, cell_on bw16 hHeld.2.2.2.2.2.2.2.2.2.2.2.2.2.2.1, cell_on bw16 hHeld.2.2.2.2.2.2.2.2.2.2.2.2.2.2.2.1, cell_on bw16 hHeld.2.2.2.2.2.2.2.2.2.2.2.2.2.2.2.2.1, cell_on bw16 hHeld.2.2.2.2.2.2.2.2.2.2.2.2.2.2.2.2.2.1, cell_on bw16 hHeld.2.2.2.2.2.2.2.2.2.2.2.2.2.2.2.2.2.2.1, cell_on bw16 hHeld.2.2.2.2.2.2.2.2.2.2.2.2.2.2.2.2.2.2.2.1, also hHeld.2.2.2.2.2.2.2.2.2.2.2.2.2.2.2.2.2.2.2.2 bw16⟩ | exact ⟨cell_on bw15 hHeld.1, cell_on bw15 hHeld.2.1, cell_on bw15 hHeld.2.2.1, cell_on bw15 hHeld.2.2.2.1, cell_on bw15 hHeld.2.2.2.2.1, cell_on bw15 hHeld.2.2.2.2.2.1, cell_on bw15 hHeld.2.2.2.2.2.2.1, cell_on bw15 hHeld.2.2.2.2.2.2.2.1, cell_on bw15 hHeld.2.2.2.2.2.2.2.2.1, cell_on bw15 hHeld.2.2.2.2.2.2.2.2.2.1, cell_on bw15 hHeld.2.2.2.2.2.2.2.2.2.2.1, cell_on bw15 hHeld.2.2.2.2.2.2.2.2.2.2.2.1, cell_on bw15 hHeld.2.2.2.2.2.2.2.2.2.2.2.2.1, cell_on bw15 hHeld.2.2.2.2.2.2.2.2.2.2.2.2.2.1, cell_on bw15 hHeld.2.2.2.2.2.2.2.2.2.2.2.2.2.2.1, cell_on bw15 hHeld.2.2.2.2.2.2.2.2.2.2.2.2.2.2.2.1, cell_on bw15 hHeld.2.2.2.2.2.2.2.2.2.2.2.2.2.2.2.2.1, cell_on bw15 hHeld.2.2.2.2.2.2.2.2.2.2.2.2.2.2.2.2.2.1, cell_on bw15 hHeld.2.2.2.2.2.2.2.2.2.2.2.2.2.2.2.2.2.2.1, cell_on bw15 hHeld.2.2.2.2.2.2.2.2.2.2.2.2.2.2.2.2.2.2.2.1, also hHeld.2.2.2.2.2.2.2.2.2.2.2.2.2.2.2.2.2.2.2.2 bw15⟩ | exact ⟨cell_on bw14 hHeld.1, cell_on bw14 hHeld.2.1, cell_on bw14 hHeld.2.2.1, cell_on bw14 hHeld.2.2.2.1, cell_on bw14 hHeld.2.2.2.2.1, cell_on bw14 hHeld.2.2.2.2.2.1, cell_on bw14 hHeld.2.2.2.2.2.2.1, cell_on bw14 hHeld.2.2.2.2.2.2.2.1, cell_on bw14 hHeld.2.2.2.2.2.2.2.2.1, cell_on bw14 hHeld.2.2.2.2.2.2.2.2.2.1, cell_on bw14 hHeld.2.2.2.2.2.2.2.2.2.2.1, cell_on bw14 hHeld.2.2.2.2.2.2.2.2.2.2.2.1, cell_on bw14 hHeld.2.2.2.2.2.2.2.2.2.2.2.2.1, cell_on bw14 hHeld.2.2.2.2.2.2.2.2.2.2.2.2.2.1, cell_on bw14 hHeld.2.2.2.2.2.2.2.2.2.2.2.2.2.2.1, cell_on bw14 hHeld.2.2.2.2.2.2.2.2.2.2.2.2.2.2.2.1, cell_on bw14 hHeld.2.2.2.2.2.2.2.2.2.2.2.2.2.2.2.2.1, cell_on bw14 hHeld.2.2.2.2.2.2.2.2.2.2.2.2.2.2.2.2.2.1, cell_on bw14 hHeld.2.2.2.2.2.2.2.2.2.2.2.2.2.2.2.2.2.2.1, cell_on bw14 hHeld.2.2.2.2.2.2.2.2.2.2.2.2.2.2.2.2.2.2.2.1, also hHeld.2.2.2.2.2.2.2.2.2.2.2.2.2.2.2.2.2.2.2.2 bw14⟩ | exact ⟨cell_on bw13 hHeld.1, cell_on bw13 hHeld.2.1, cell_on bw13 hHeld.2.2.1, cell_on bw13 hHeld.2.2.2.1, cell_on bw13 hHeld.2.2.2.2.1, cell_on bw13 hHeld.2.2.2.2.2.1, cell_on bw13 hHeld.2.2.2.2.2.2.1, cell_on bw13 hHeld.2.2.2.2.2.2.2.1, cell_on bw13 hHeld.2.2.2.2.2.2.2.2.1, cell_on bw13 hHeld.2.2.2.2.2.2.2.2.2.1, cell_on bw13 hHeld.2.2.2.2.2.2.2.2.2.2.1, cell_on bw13 hHeld.2.2.2.2.2.2.2.2.2.2.2.1, cell_on bw13 hHeld.2.2.2.2.2.2.2.2.2.2.2.2.1, cell_on bw13 hHeld.2.2.2.2.2.2.2.2.2.2.2.2.2.1, cell_on bw13 hHeld.2.2.2.2.2.2.2.2.2.2.2.2.2.2.1, cell_on bw13 hHeld.2.2.2.2.2.2.2.2.2.2.2.2.2.2.2.1, cell_on bw13 hHeld.2.2.2.2.2.2.2.2.2.2.2.2.2.2.2.2.1, cell_on bw13 hHeld.2.2.2.2.2.2.2.2.2.2.2.2.2.2.2.2.2.1, cell_on bw13 hHeld.2.2.2.2.2.2.2.2.2.2.2.2.2.2.2.2.2.2.1, cell_on bw13 hHeld.2.2.2.2.2.2.2.2.2.2.2.2.2.2.2.2.2.2.2.1, also hHeld.2.2.2.2.2.2.2.2.2.2.2.2.2.2.2.2.2.2.2.2 bw13⟩
  clear hK Kc
  have zbw36 := bw36.size
  replace BB := also BB bw36
  replace x_a := x_a.on bw36
  replace q1 := q1.below bw36
  replace x2 := x2.below bw36
  replace x_x := x_x.on bw36
  replace h3 := h3.below bw36
  replace h4 := h4.below bw36
  replace x_f := x_f.on bw36
  replace x_n := x_n.on bw36
  replace x_h := x_h.on bw36
  replace hh := hh.below bw36
  replace x9 := x9.below bw36
  replace x_dd := x_dd.on bw36
  replace x12 := x12.below bw36
  replace x_ee := x_ee.on bw36
  replace r13 := r13.below bw36
  replace r15 := r15.below bw36
  replace x20 := x20.below bw36
  replace x31 := x31.below bw36
  refine take_yes (i := 37) (v := ?vw37) rfl (by kernel_rfl) (by kernel_rfl) (by kernel_rfl) (fun _ _ _ h => h) (by rfl) (by assumption) ?hyw37 ?restw37
  case hyw37 => (intro w hSw; (try dsimp only at hSw); first | (go_simp; done) | (go_simp; with_reducible rfl))
  simp only [Act.put, List.setIfInBounds_toArray, List.set_cons_zero, List.set_cons_succ]
  refine take_yes (i := 38) (v := ?vw38) rfl (by kernel_rfl) (by kernel_rfl) (by kernel_rfl) (fun _ _ _ h => h) (by rfl) (by assumption) ?hyw38 ?restw38
  case hyw38 => (intro w hSw; (try dsimp only at hSw); first | (go_simp; done) | (go_simp; with_reducible rfl))
  simp only [Act.put, List.setIfInBounds_toArray, List.set_cons_zero, List.set_cons_succ]
  refine wpAnyH_done (by kernel_rfl) ?_ _
  go_wp2
  go_ret
  exact ⟨rfl, BB⟩
theorem own : ownKnob Tryz.prog.godebug = none := by kernel_rfl
set_option maxRecDepth 100000 in
theorem lifted (os : Os) (started : os.Started) (H : Type) (enc : TypeId × Value → H) :
    ReturnsInHanded {} Tryz.checked os 5 .any (fun w args => (Rows.ratRoundsSpec.pre enc Tryz.prog Tryz.f5 [] false w args ∧ laidMetH Tryz.prog Rows.ratRoundsRow.laid w) ∧ sizedMet enc Tryz.prog Tryz.f5 (OpenSpec.ofChange Rows.ratRoundsSpec) false w args)
      (Rows.ratRoundsSpec.post enc Tryz.prog Tryz.f5 false true false false) := by
  refine returnsInHanded_of_change_and (C := Tryz.checked) (X := fun w _ => laidMetH Tryz.prog Rows.ratRoundsRow.laid w) (fun _ _ _ hh h => h.of_heap hh) own started (by kernel_rfl) Tryz.func5
    (ChangeSpec.witness_shaped (enc := enc) (C := Tryz.checked) (os := os) (X := fun w _ => laidMetH Tryz.prog Rows.ratRoundsRow.laid w) false (World.laidAll Tryz.prog os Rows.ratRoundsRow.laid) #[.agg #[.bool false, .slice none 0 0, .slice none 0 0]] 8 (World.laidAll_os _ _ _)
      (World.shaped_of_ZipB (by kernel_rfl) (by kernel_rfl)) (by kernel_rfl) (by kernel_rfl) (by kernel_rfl)
      (by rw [MakeChecks.laidMetH_plain _ _ _ (by kernel_rfl)]; exact laidMet_laidAll _ (by kernel_rfl) (by kernel_rfl))) ?_
  intro W base args ds gs before hval0 hW _ _ hL _
  have hval : ∀ (j : Nat) t v, Tryz.f5.params[j]? = some t → args[j]? = some v → Value.okWide Tryz.prog W .any base t v := hval0
  have hW' := hW
  obtain ⟨p, q, hA0, hV, rfl, hfz, hnd⟩ := hW
  have hA : DataW.TrodAll enc Tryz.prog W 0 (fun _ => true) true Tryz.f5.params.toList args.toList ds p := hA0
  rw [Tryz.params5] at hA hval
  obtain ⟨v0, vs0, d0, ds0, p0, q0, hargs, rfl, rfl, h0, r0⟩ := trodAll_cons hA
  obtain ⟨rfl, rfl, rfl⟩ := trodAll_nil r0
  obtain rfl : args = #[v0] := by cases args; simp_all
  obtain ⟨rfl, rfl⟩ := trodVars_none hV
  have hlt : ∀ x ∈ p0, x.block < W.heap.size := fun x hx => by simpa using hW'.lt x (by simpa using hx)
  have h0k := h0
  obtain ⟨n0, a0, l0, c0, u0, e0, m0, k0, x0, rfl, hu0, hs0, hx0, ht0⟩ := rat_view (hval 0 27 v0 rfl rfl) h0 (fun b o h => hfz b o (by simp [h])) (fun x hx => hlt x (by simp [hx]))
  clear hA0 hval0
  refine (walk n0 a0 l0 c0 u0 e0 m0 k0 x0 W hs0 hu0 ht0 hx0).mono fun e W' ⟨he, bel⟩ => ?_
  subst he
  exact ⟨_, rfl, _, _, _, [], _, [], hW', trodAll_mk1 (shut_bool Tryz.underlying4 _), (trodAll_cons_mk (Below.trod laidOutAll (by kernel_rfl) (of_decide_eq_true (by kernel_rfl)) h0k bel (fun x hx => hlt x (by simp [hx]))) trodAll_mk0), rfl, bel.frame _, fun h => by cases h⟩

theorem said : Rows.RatRoundsSaid :=
  OpenClaim.holds_of_wide 5 Tryz.f5 rfl rfl rfl rfl rfl rfl rfl ⟨rfl, rfl, rfl, rfl, rfl⟩ rfl rfl rfl rfl rfl (by kernel_rfl) Tryz.func5 (by kernel_rfl)
    (of_decide_eq_true (by kernel_rfl)) (by unfold Func.isWrapper; first | (rw [if_pos (by decide +kernel)]; kernel_rfl) | (rw [if_neg (by decide +kernel)]; exact ⟨rfl, rfl⟩))
    (fun os started H enc _ => lifted os started H enc)
/-- The program's own looks are off, and no parameter wants a stand-in: what the card asks. -/
theorem plain (f : FuncId) (fn : Func) (hf : Tryz.pinned.checked.prog.funcNamed "zellige/zelligelaw05.RatRounds" = some f) (hfn : Tryz.pinned.checked.prog.funcs[f]? = some fn) :
    false = Tryz.pinned.checked.prog.looks [] ∧ ∀ (j : Nat) t, fn.params[j]? = some t → Tryz.pinned.checked.prog.wantsStandIn t = false := by
  obtain rfl : f = 5 := Option.some.inj ((show Tryz.prog.funcNamed "zellige/zelligelaw05.RatRounds" = some 5 by kernel_rfl).symm.trans hf) |>.symm
  obtain rfl : fn = Tryz.f5 := (Option.some.inj (Tryz.func5.symm.trans hfn)).symm
  refine ⟨by kernel_rfl, fun j t ht => ?_⟩
  rw [Tryz.params5] at ht
  have hm : t ∈ [27] := by simpa using Array.mem_of_getElem? ht
  have hall : ([27].all fun u => !Tryz.prog.wantsStandIn u) = true := by kernel_rfl
  exact (show Tryz.prog.wantsStandIn t = false by simpa using List.all_eq_true.1 hall t hm)
/-- The statement: the card. -/
theorem proved : Rows.RatRoundsCardSaid :=
  Claim7.holds_tied_plain_at .later [] _ _ _ _ said (fun _ h => by cases h) (by kernel_rfl) (fun _ h => by cases h) ratRounds_row_tie rfl ⟨rfl, rfl⟩ (by kernel_rfl) rfl plain (by kernel_rfl)
#print axioms proved
end rrounds
end Go.Proofs.YtaekgomplkkocaaGreatDoor
