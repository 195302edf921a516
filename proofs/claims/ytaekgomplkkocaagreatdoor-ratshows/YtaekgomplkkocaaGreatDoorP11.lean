/-
  Joined texts, part 11:
  What zelligeref05's Low and Same answer.
-/
import Derived.Test.YtaekgomplkkocaaGreatDoorP10
import Derived.Test.YtaekgomplkkocaaGreatDoorP9
namespace Go.Proofs.YtaekgomplkkocaaGreatDoor
open Go.RowKit
set_option linter.unusedVariables false

set_option maxRecDepth 100000 in
set_option maxHeartbeats 1000000 in
theorem rqLow (s1 : Int) (d1 : Option Addr) (l1 c1 : Nat) (t1 : Int) (g1 : Option Addr) (h1 k1 : Nat) (N1 : Int) (D1 : Nat) (K : Nat) (w : World) (x : RQ w K s1 d1 l1 c1 t1 g1 h1 k1 N1 D1) (N : Int) (D : Nat) (hN : N = lowN N1 D1) (hD : D = lowD N1 D1) :
    Calls Tryz.prog 35 #[.agg #[.int .i64 s1, .slice d1 l1 c1, .int .i64 t1, .slice g1 h1 k1]] w (GotRQ w (fun _ => True) K N D) := by
  have kk := x.kk
  have d0 : 0 < D := by rw [hD]; exact lowD_pos x.dp
  have hS : N.natAbs < 4294967296 ^ K := by rw [hN]; exact Nat.lt_of_le_of_lt (lowN_le _ _) x.ns
  have hT : D < 4294967296 ^ K := by rw [hD]; exact Nat.lt_of_le_of_lt (lowD_le _ _) x.ds
  have hs := x.rn.sg
  by_cases h0 : N1 = 0
  · obtain rfl : s1 = 0 := by rw [hs, h0]; rfl
    have HN : Hid (N = 0) := by unfold Hid; rw [hN, h0]; simp [lowN]
    have HD : Hid ((D : Int) = 1) := by unfold Hid; rw [hD, h0]; simp [lowD, Nat.div_self x.dp]
    clear hN hD hs h0
    obtain ⟨W, hW, bW, x_a, x_z, sW⟩ := bs_44 w (.int .i64 0) (.slice d1 l1 c1) (.int .i64 t1) (.slice g1 h1 k1) (.int .i64 0) (.slice none 0 0) (.int .i64 0) (.slice none 0 0) 34 34
    have zbW := bW.size
    replace x := x.below bW
    have BB := bW
    go_enter Tryz.func35, Tryz.ntmps35
    go_wp2_with (go_at_call 25; fail)
    rw [← hW]
    clear hW
    refine (rwLong 1 W (by decide) (by decide)).mono ?_
    rintro e w2 ⟨s2, d2, l2, c2, rfl, h2, f2, bw2⟩
    have zbw2 := bw2.size
    replace x := x.below bw2
    replace BB := also BB bw2
    replace x_a := x_a.on bw2
    replace x_z := x_z.on bw2
    have ⟨x_z_0, x_z_1, x_z_2, x_z_3, x_z_4, x_z_5, x_z_6, x_z_7⟩ := x_z
    go_wp2
    exact bodyPost_ret (v := .agg #[.int .i64 0, .slice none 0 0, .int .i64 s2, .slice d2 l2 c2]) (by simp [results, Tryz.results35, go_sem, *]) rfl (endRQ _ (by omega) BB ⟨by rw [HN.out]; exact rn_zero _ 0, by rw [HD.out]; exact h2, d0, hS, hT, kk⟩ (Or.inl rfl) (f2 _ (by omega) trivial) (fun j hj _ => ⟨Or.inl rfl, f2 j (by omega) trivial⟩) _ _ _ _)
  · have hs0 : ¬ s1 = 0 := by rw [hs]; exact fun e => h0 (sign_nul.1 e)
    have hd1 : HD w d1 l1 c1 N1.natAbs := x.rn.hd
    have hd2 : HD w g1 h1 k1 D1 := by have := x.rd.hd; rwa [Int.natAbs_natCast] at this
    obtain ⟨G, hG⟩ : ∃ G, G = Nat.gcd N1.natAbs D1 := ⟨_, rfl⟩
    have g0 : 0 < G := by rw [hG]; exact Nat.gcd_pos_of_pos_right _ x.dp
    have gK : G < 4294967296 ^ K := by rw [hG]; exact Nat.lt_of_le_of_lt (Nat.le_of_dvd x.dp (Nat.gcd_dvd_right _ _)) x.ds
    have fG : hf.nlen G ≤ 1000000 := hfew gK (by omega)
    have fS : hf.nlen (N1.natAbs + D1) ≤ 1000000 := hfew (K := K + 1) (by have := x.ns; have := x.ds; rw [Nat.pow_succ]; omega) (by omega)
    have fD : hf.nlen D1 ≤ 1000000 := hfew x.ds (by omega)
    have fN := x.fn
    have HA : Hid (N.natAbs = N1.natAbs / G) := by unfold Hid; rw [hN, lowN_abs, hG]
    have HE : Hid (D = D1 / G) := by unfold Hid; rw [hD, hG]; rfl
    have HSg : Hid (s1 = N.sign) := by
      unfold Hid
      have hp : 0 < N1.natAbs / Nat.gcd N1.natAbs D1 := Nat.div_pos (Nat.le_of_dvd (by omega) (Nat.gcd_dvd_left _ _)) (Nat.gcd_pos_of_pos_right _ x.dp)
      rw [hs, hN]
      unfold lowN
      rw [Int.sign_mul, Int.sign_sign, Int.sign_natCast_of_ne_zero (by omega), Int.mul_one]
    clear hN hD hs h0
    obtain ⟨W, hW, bW, x_a, x_z, sW⟩ := bs_44 w (.int .i64 s1) (.slice d1 l1 c1) (.int .i64 t1) (.slice g1 h1 k1) (.int .i64 0) (.slice none 0 0) (.int .i64 0) (.slice none 0 0) 34 34
    have zbW := bW.size
    replace x := x.below bW
    replace hd1 := hd1.below bW
    replace hd2 := hd2.below bW
    have BB := bW
    go_enter Tryz.func35, Tryz.ntmps35
    go_wp2_with (go_at_call 64; fail)
    rw [← hW]
    clear hW
    refine (hGcd d1 g1 l1 h1 c1 k1 _ _ W hd1 hd2 fS).mono ?_
    rw [← hG]
    rintro e w3 ⟨a3, l3, c3, rfl, q3, bw3⟩
    have zbw3 := bw3.size
    replace x := x.below bw3
    replace hd1 := hd1.below bw3
    replace hd2 := hd2.below bw3
    replace BB := also BB bw3
    replace x_a := x_a.on bw3
    replace x_z := x_z.on bw3
    have ⟨x_a_0, x_a_1, x_a_2, x_a_3, x_a_4, x_a_5, x_a_6, x_a_7⟩ := x_a
    go_wp2_with (go_at_call 65; fail)
    refine (hfDiv d1 a3 l1 l3 c1 c3 _ G w3 hd1 q3 fN fG g0).mono ?_
    rintro e w4 ⟨a4, l4, c4, ar, lr, cr, rfl, q4, qr, f4, fr, bw4⟩
    clear x_a_0 x_a_1 x_a_2 x_a_3 x_a_4 x_a_5 x_a_6 x_a_7
    have zbw4 := bw4.size
    replace x := x.below bw4
    replace hd1 := hd1.below bw4
    replace hd2 := hd2.below bw4
    replace BB := also BB bw4
    replace x_a := x_a.on bw4
    replace x_z := x_z.on bw4
    replace q3 := q3.below bw4
    have ⟨x_a_0, x_a_1, x_a_2, x_a_3, x_a_4, x_a_5, x_a_6, x_a_7⟩ := x_a
    go_wp2_with (go_at_call 65; fail)
    refine (hfDiv g1 a3 h1 l3 k1 c3 _ G w4 hd2 q3 fD fG g0).mono ?_
    rintro e w5 ⟨a5, l5, c5, br, mr, dr, rfl, q5, qs, f5, fs, bw5⟩
    clear x_a_0 x_a_1 x_a_2 x_a_3 x_a_4 x_a_5 x_a_6 x_a_7
    have zbw5 := bw5.size
    replace x := x.below bw5
    replace hd1 := hd1.below bw5
    replace hd2 := hd2.below bw5
    replace BB := also BB bw5
    replace x_a := x_a.on bw5
    replace x_z := x_z.on bw5
    replace q3 := q3.below bw5
    replace q4 := q4.below bw5
    have ⟨x_a_0, x_a_1, x_a_2, x_a_3, x_a_4, x_a_5, x_a_6, x_a_7⟩ := x_a
    have ⟨x_z_0, x_z_1, x_z_2, x_z_3, x_z_4, x_z_5, x_z_6, x_z_7⟩ := x_z
    go_wp2
    exact bodyPost_ret (v := .agg #[.int .i64 s1, .slice a4 l4 c4, .int .i64 1, .slice a5 l5 c5]) (by simp [results, Tryz.results35, go_sem, *]) rfl (endRQ _ (by omega) BB ⟨⟨by rw [HA.out]; exact q4, HSg.out⟩, rn_nat (by rw [HE.out]; exact q5) d0, d0, hS, hT, kk⟩ (f4 _ (by omega)) (f5 _ (by omega)) (fun j hj _ => ⟨f4 j (by omega), f5 j (by omega)⟩) _ _ _ _)
set_option maxRecDepth 100000 in
set_option maxHeartbeats 1000000 in
theorem rqSame (n : Bool) (a : Option Addr) (la ca : Nat) (d : Option Addr) (ld cd : Nat) (za : Int) (Da : Nat) (s1 : Int) (d1 : Option Addr) (l1 c1 : Nat) (t1 : Int) (g1 : Option Addr) (h1 k1 : Nat) (N1 : Int) (D1 : Nat) (K : Nat) (w : World) (q : QN w n a la ca d ld cd za Da) (x : RQ w K s1 d1 l1 c1 t1 g1 h1 k1 N1 D1) (hN : za = lowN N1 D1) (hD : Da = lowD N1 D1) :
    Calls Tryz.prog 9 #[.agg #[.bool n, .slice a la ca, .slice d ld cd], .agg #[.int .i64 s1, .slice d1 l1 c1, .int .i64 t1, .slice g1 h1 k1]] w fun e w' => e = .returned (.bool true) ∧ Below w.heap.size w w' := by
  have HN : Hid _ := hN
  have HD : Hid _ := hD
  clear hN hD
  obtain ⟨W, hW, bW, x_a, x_b, sW⟩ := bs_34 w (.bool n) (.slice a la ca) (.slice d ld cd) (.int .i64 s1) (.slice d1 l1 c1) (.int .i64 t1) (.slice g1 h1 k1) 27 34
  have zbW := bW.size
  replace q := q.below bW
  replace x := x.below bW
  have BB := bW
  go_enter Tryz.func9, Tryz.ntmps9
  go_wp2_with (go_at_call 35; fail)
  rw [← hW]
  clear hW
  refine (rqLow s1 d1 l1 c1 t1 g1 h1 k1 N1 D1 K W x za Da HN.out HD.out).mono ?_
  rintro e w1 ⟨s2, d2, l2, c2, t2, g2, h2, k2, rfl, y, f2, bw1⟩
  have zbw1 := bw1.size
  replace q := q.below bw1
  replace x := x.below bw1
  replace BB := also BB bw1
  replace x_a := x_a.on bw1
  replace x_b := x_b.on bw1
  obtain ⟨V1, hV1, bV1, x_l, sV1⟩ := bs_4 w1 (.int .i64 s2) (.slice d2 l2 c2) (.int .i64 t2) (.slice g2 h2 k2) 34
  have zbV1 := bV1.size
  replace q := q.below bV1
  replace x := x.below bV1
  replace BB := also BB bV1
  replace x_a := x_a.on bV1
  replace x_b := x_b.on bV1
  replace y := y.below bV1
  have st_a_0 : (w1.alloc (.cells #[.int .i64 s2, .slice d2 l2 c2, .int .i64 t2, .slice g2 h2 k2] 34)).cell? ⟨w.heap.size, 0, none⟩ = some (.bool n) := by rw [← hV1]; exact x_a.c0
  have st_a_1 : (w1.alloc (.cells #[.int .i64 s2, .slice d2 l2 c2, .int .i64 t2, .slice g2 h2 k2] 34)).cell? ⟨w.heap.size, 1, none⟩ = some (.slice a la ca) := by rw [← hV1]; exact x_a.c1
  have st_a_2 : (w1.alloc (.cells #[.int .i64 s2, .slice d2 l2 c2, .int .i64 t2, .slice g2 h2 k2] 34)).cell? ⟨w.heap.size, 2, none⟩ = some (.slice d ld cd) := by rw [← hV1]; exact x_a.c2
  have sf_a_0 : (w1.alloc (.cells #[.int .i64 s2, .slice d2 l2 c2, .int .i64 t2, .slice g2 h2 k2] 34)).frozen? ⟨w.heap.size, 0, none⟩ = false := by rw [← hV1]; exact x_a.f0
  have sf_a_1 : (w1.alloc (.cells #[.int .i64 s2, .slice d2 l2 c2, .int .i64 t2, .slice g2 h2 k2] 34)).frozen? ⟨w.heap.size, 1, none⟩ = false := by rw [← hV1]; exact x_a.f1
  have sf_a_2 : (w1.alloc (.cells #[.int .i64 s2, .slice d2 l2 c2, .int .i64 t2, .slice g2 h2 k2] 34)).frozen? ⟨w.heap.size, 2, none⟩ = false := by rw [← hV1]; exact x_a.f2
  go_wp2_with (go_at_call 27; fail)
  rw [← hV1]
  clear hV1 st_a_0 st_a_1 st_a_2 sf_a_0 sf_a_1 sf_a_2
  refine (rwSame n s2 a d2 la ca l2 c2 za V1 q.wn y.rn y.fn).mono ?_
  rintro e w2 ⟨rfl, bw2⟩
  have zbw2 := bw2.size
  replace q := q.below bw2
  replace x := x.below bw2
  replace BB := also BB bw2
  replace x_a := x_a.on bw2
  replace x_b := x_b.on bw2
  replace y := y.below bw2
  replace x_l := x_l.on bw2
  have ⟨x_a_0, x_a_1, x_a_2, x_a_3, x_a_4, x_a_5⟩ := x_a
  have ⟨x_l_0, x_l_1, x_l_2, x_l_3, x_l_4, x_l_5, x_l_6, x_l_7⟩ := x_l
  go_wp2_with (go_at_call 36; fail)
  refine (hSame d g2 ld h2 cd k2 Da w2 q.nd.sl q.nd.len (by have := y.rd.hd; rwa [Int.natAbs_natCast] at this) (by have := y.fd; rwa [Int.natAbs_natCast] at this)).mono ?_
  rintro e w3 ⟨rfl, bw3⟩
  clear x_a_0 x_a_1 x_a_2 x_a_3 x_a_4 x_a_5 x_l_0 x_l_1 x_l_2 x_l_3 x_l_4 x_l_5 x_l_6 x_l_7
  have zbw3 := bw3.size
  replace q := q.below bw3
  replace x := x.below bw3
  replace BB := also BB bw3
  replace x_a := x_a.on bw3
  replace x_b := x_b.on bw3
  replace y := y.below bw3
  replace x_l := x_l.on bw3
  go_wp2
  go_ret
  exact ⟨rfl, BB⟩
end Go.Proofs.YtaekgomplkkocaaGreatDoor
