/-
  Joined texts, part 8:
  What zelligeref05's Low and Same answer.
  What zelligeref05's Show answers.
-/
import Derived.Test.YtaekgomplkkocabGreatDoorP7
import Derived.Test.YtaekgomplkkocabGreatDoorP6
namespace Go.Proofs.YtaekgomplkkocabGreatDoor
open Go.RowKit
set_option linter.unusedVariables false

set_option maxRecDepth 100000 in
set_option maxHeartbeats 1000000 in
theorem rqLow (s1 : Int) (d1 : Option Addr) (l1 c1 : Nat) (t1 : Int) (g1 : Option Addr) (h1 k1 : Nat) (N1 : Int) (D1 : Nat) (K : Nat) (w : World) (x : RQ w K s1 d1 l1 c1 t1 g1 h1 k1 N1 D1) (N : Int) (D : Nat) (hN : N = lowN N1 D1) (hD : D = lowD N1 D1) :
    Calls Tryz.prog 21 #[.agg #[.int .i64 s1, .slice d1 l1 c1, .int .i64 t1, .slice g1 h1 k1]] w (GotRQ w (fun _ => True) K N D) := by
  have kk := x.kk
  have d0 : 0 < D := by rw [hD]; exact lowD_pos x.dp
  have hS : N.natAbs < 4294967296 ^ K := by rw [hN]; exact Nat.lt_of_le_of_lt (lowN_le _ _) x.ns
  have hT : D < 4294967296 ^ K := by rw [hD]; exact Nat.lt_of_le_of_lt (lowD_le _ _) x.ds
  have hs := x.rn.sg
  by_cases h0 : N1 = 0
  · obtain rfl : s1 = 0 := by rw [hs, h0]; rfl
    have HN : Hid (N = 0) := by unfold Hid; rw [hN, h0]; simp [lowN]
    have HD : Hid ((D : Int) = 1) := by unfold Hid; rw [hD, h0]; simp [lowD, Nat.div_self x.dp]
    clear hN hD hs h0
    obtain ⟨W, hW, bW, x_a, x_z, sW⟩ := bs_44 w (.int .i64 0) (.slice d1 l1 c1) (.int .i64 t1) (.slice g1 h1 k1) (.int .i64 0) (.slice none 0 0) (.int .i64 0) (.slice none 0 0) 40 40
    have zbW := bW.size
    replace x := x.below bW
    have BB := bW
    go_enter Tryz.func21, Tryz.ntmps21
    go_wp2_with (go_at_call 20; fail)
    rw [← hW]
    clear hW
    refine (rwLong 1 W (by decide) (by decide)).mono ?_
    rintro e w2 ⟨s2, d2, l2, c2, rfl, h2, f2, bw2⟩
    have zbw2 := bw2.size
    replace x := x.below bw2
    replace BB := also BB bw2
    replace x_a := x_a.on bw2
    replace x_z := x_z.on bw2
    have ⟨x_z_0, x_z_1, x_z_2, x_z_3, x_z_4, x_z_5, x_z_6, x_z_7⟩ := x_z
    go_wp2
    exact bodyPost_ret (v := .agg #[.int .i64 0, .slice none 0 0, .int .i64 s2, .slice d2 l2 c2]) (by simp [results, Tryz.results21, go_sem, *]) rfl (endRQ _ (by omega) BB ⟨by rw [HN.out]; exact rn_zero _ 0, by rw [HD.out]; exact h2, d0, hS, hT, kk⟩ (Or.inl rfl) (f2 _ (by omega) trivial) (fun j hj _ => ⟨Or.inl rfl, f2 j (by omega) trivial⟩) _ _ _ _)
  · have hs0 : ¬ s1 = 0 := by rw [hs]; exact fun e => h0 (sign_nul.1 e)
    have hd1 : HD w d1 l1 c1 N1.natAbs := x.rn.hd
    have hd2 : HD w g1 h1 k1 D1 := by have := x.rd.hd; rwa [Int.natAbs_natCast] at this
    obtain ⟨G, hG⟩ : ∃ G, G = Nat.gcd N1.natAbs D1 := ⟨_, rfl⟩
    have g0 : 0 < G := by rw [hG]; exact Nat.gcd_pos_of_pos_right _ x.dp
    have gK : G < 4294967296 ^ K := by rw [hG]; exact Nat.lt_of_le_of_lt (Nat.le_of_dvd x.dp (Nat.gcd_dvd_right _ _)) x.ds
    have fG : hf.nlen G ≤ 1000000 := hfew gK (by omega)
    have fS : hf.nlen (N1.natAbs + D1) ≤ 1000000 := hfew (K := K + 1) (by have := x.ns; have := x.ds; rw [Nat.pow_succ]; omega) (by omega)
    have fD : hf.nlen D1 ≤ 1000000 := hfew x.ds (by omega)
    have fN := x.fn
    have HA : Hid (N.natAbs = N1.natAbs / G) := by unfold Hid; rw [hN, lowN_abs, hG]
    have HE : Hid (D = D1 / G) := by unfold Hid; rw [hD, hG]; rfl
    have HSg : Hid (s1 = N.sign) := by
      unfold Hid
      have hp : 0 < N1.natAbs / Nat.gcd N1.natAbs D1 := Nat.div_pos (Nat.le_of_dvd (by omega) (Nat.gcd_dvd_left _ _)) (Nat.gcd_pos_of_pos_right _ x.dp)
      rw [hs, hN]
      unfold lowN
      rw [Int.sign_mul, Int.sign_sign, Int.sign_natCast_of_ne_zero (by omega), Int.mul_one]
    clear hN hD hs h0
    obtain ⟨W, hW, bW, x_a, x_z, sW⟩ := bs_44 w (.int .i64 s1) (.slice d1 l1 c1) (.int .i64 t1) (.slice g1 h1 k1) (.int .i64 0) (.slice none 0 0) (.int .i64 0) (.slice none 0 0) 40 40
    have zbW := bW.size
    replace x := x.below bW
    replace hd1 := hd1.below bW
    replace hd2 := hd2.below bW
    have BB := bW
    go_enter Tryz.func21, Tryz.ntmps21
    go_wp2_with (go_at_call 40; fail)
    rw [← hW]
    clear hW
    refine (hGcd d1 g1 l1 h1 c1 k1 _ _ W hd1 hd2 fS).mono ?_
    rw [← hG]
    rintro e w3 ⟨a3, l3, c3, rfl, q3, bw3⟩
    have zbw3 := bw3.size
    replace x := x.below bw3
    replace hd1 := hd1.below bw3
    replace hd2 := hd2.below bw3
    replace BB := also BB bw3
    replace x_a := x_a.on bw3
    replace x_z := x_z.on bw3
    have ⟨x_a_0, x_a_1, x_a_2, x_a_3, x_a_4, x_a_5, x_a_6, x_a_7⟩ := x_a
    go_wp2_with (go_at_call 41; fail)
    refine (hfDiv d1 a3 l1 l3 c1 c3 _ G w3 hd1 q3 fN fG g0).mono ?_
    rintro e w4 ⟨a4, l4, c4, ar, lr, cr, rfl, q4, qr, f4, fr, bw4⟩
    clear x_a_0 x_a_1 x_a_2 x_a_3 x_a_4 x_a_5 x_a_6 x_a_7
    have zbw4 := bw4.size
    replace x := x.below bw4
    replace hd1 := hd1.below bw4
    replace hd2 := hd2.below bw4
    replace BB := also BB bw4
    replace x_a := x_a.on bw4
    replace x_z := x_z.on bw4
    replace q3 := q3.below bw4
    have ⟨x_a_0, x_a_1, x_a_2, x_a_3, x_a_4, x_a_5, x_a_6, x_a_7⟩ := x_a
    go_wp2_with (go_at_call 41; fail)
    refine (hfDiv g1 a3 h1 l3 k1 c3 _ G w4 hd2 q3 fD fG g0).mono ?_
    rintro e w5 ⟨a5, l5, c5, br, mr, dr, rfl, q5, qs, f5, fs, bw5⟩
    clear x_a_0 x_a_1 x_a_2 x_a_3 x_a_4 x_a_5 x_a_6 x_a_7
    have zbw5 := bw5.size
    replace x := x.below bw5
    replace hd1 := hd1.below bw5
    replace hd2 := hd2.below bw5
    replace BB := also BB bw5
    replace x_a := x_a.on bw5
    replace x_z := x_z.on bw5
    replace q3 := q3.below bw5
    replace q4 := q4.below bw5
    have ⟨x_a_0, x_a_1, x_a_2, x_a_3, x_a_4, x_a_5, x_a_6, x_a_7⟩ := x_a
    have ⟨x_z_0, x_z_1, x_z_2, x_z_3, x_z_4, x_z_5, x_z_6, x_z_7⟩ := x_z
    go_wp2
    exact bodyPost_ret (v := .agg #[.int .i64 s1, .slice a4 l4 c4, .int .i64 1, .slice a5 l5 c5]) (by simp [results, Tryz.results21, go_sem, *]) rfl (endRQ _ (by omega) BB ⟨⟨by rw [HA.out]; exact q4, HSg.out⟩, rn_nat (by rw [HE.out]; exact q5) d0, d0, hS, hT, kk⟩ (f4 _ (by omega)) (f5 _ (by omega)) (fun j hj _ => ⟨f4 j (by omega), f5 j (by omega)⟩) _ _ _ _)
set_option maxRecDepth 100000 in
set_option maxHeartbeats 1000000 in
theorem rqSame (n : Bool) (a : Option Addr) (la ca : Nat) (d : Option Addr) (ld cd : Nat) (za : Int) (Da : Nat) (s1 : Int) (d1 : Option Addr) (l1 c1 : Nat) (t1 : Int) (g1 : Option Addr) (h1 k1 : Nat) (N1 : Int) (D1 : Nat) (K : Nat) (w : World) (q : QN w n a la ca d ld cd za Da) (x : RQ w K s1 d1 l1 c1 t1 g1 h1 k1 N1 D1) (hN : za = lowN N1 D1) (hD : Da = lowD N1 D1) :
    Calls Tryz.prog 9 #[.agg #[.bool n, .slice a la ca, .slice d ld cd], .agg #[.int .i64 s1, .slice d1 l1 c1, .int .i64 t1, .slice g1 h1 k1]] w fun e w' => e = .returned (.bool true) ∧ Below w.heap.size w w' := by
  have HN : Hid _ := hN
  have HD : Hid _ := hD
  clear hN hD
  obtain ⟨W, hW, bW, x_a, x_b, sW⟩ := bs_34 w (.bool n) (.slice a la ca) (.slice d ld cd) (.int .i64 s1) (.slice d1 l1 c1) (.int .i64 t1) (.slice g1 h1 k1) 27 40
  have zbW := bW.size
  replace q := q.below bW
  replace x := x.below bW
  have BB := bW
  go_enter Tryz.func9, Tryz.ntmps9
  go_wp2_with (go_at_call 21; fail)
  rw [← hW]
  clear hW
  refine (rqLow s1 d1 l1 c1 t1 g1 h1 k1 N1 D1 K W x za Da HN.out HD.out).mono ?_
  rintro e w1 ⟨s2, d2, l2, c2, t2, g2, h2, k2, rfl, y, f2, bw1⟩
  have zbw1 := bw1.size
  replace q := q.below bw1
  replace x := x.below bw1
  replace BB := also BB bw1
  replace x_a := x_a.on bw1
  replace x_b := x_b.on bw1
  obtain ⟨V1, hV1, bV1, x_l, sV1⟩ := bs_4 w1 (.int .i64 s2) (.slice d2 l2 c2) (.int .i64 t2) (.slice g2 h2 k2) 40
  have zbV1 := bV1.size
  replace q := q.below bV1
  replace x := x.below bV1
  replace BB := also BB bV1
  replace x_a := x_a.on bV1
  replace x_b := x_b.on bV1
  replace y := y.below bV1
  have st_a_0 : (w1.alloc (.cells #[.int .i64 s2, .slice d2 l2 c2, .int .i64 t2, .slice g2 h2 k2] 40)).cell? ⟨w.heap.size, 0, none⟩ = some (.bool n) := by rw [← hV1]; exact x_a.c0
  have st_a_1 : (w1.alloc (.cells #[.int .i64 s2, .slice d2 l2 c2, .int .i64 t2, .slice g2 h2 k2] 40)).cell? ⟨w.heap.size, 1, none⟩ = some (.slice a la ca) := by rw [← hV1]; exact x_a.c1
  have st_a_2 : (w1.alloc (.cells #[.int .i64 s2, .slice d2 l2 c2, .int .i64 t2, .slice g2 h2 k2] 40)).cell? ⟨w.heap.size, 2, none⟩ = some (.slice d ld cd) := by rw [← hV1]; exact x_a.c2
  have sf_a_0 : (w1.alloc (.cells #[.int .i64 s2, .slice d2 l2 c2, .int .i64 t2, .slice g2 h2 k2] 40)).frozen? ⟨w.heap.size, 0, none⟩ = false := by rw [← hV1]; exact x_a.f0
  have sf_a_1 : (w1.alloc (.cells #[.int .i64 s2, .slice d2 l2 c2, .int .i64 t2, .slice g2 h2 k2] 40)).frozen? ⟨w.heap.size, 1, none⟩ = false := by rw [← hV1]; exact x_a.f1
  have sf_a_2 : (w1.alloc (.cells #[.int .i64 s2, .slice d2 l2 c2, .int .i64 t2, .slice g2 h2 k2] 40)).frozen? ⟨w.heap.size, 2, none⟩ = false := by rw [← hV1]; exact x_a.f2
  go_wp2_with (go_at_call 24; fail)
  rw [← hV1]
  clear hV1 st_a_0 st_a_1 st_a_2 sf_a_0 sf_a_1 sf_a_2
  refine (rwSame n s2 a d2 la ca l2 c2 za V1 q.wn y.rn y.fn).mono ?_
  rintro e w2 ⟨rfl, bw2⟩
  have zbw2 := bw2.size
  replace q := q.below bw2
  replace x := x.below bw2
  replace BB := also BB bw2
  replace x_a := x_a.on bw2
  replace x_b := x_b.on bw2
  replace y := y.below bw2
  replace x_l := x_l.on bw2
  have ⟨x_a_0, x_a_1, x_a_2, x_a_3, x_a_4, x_a_5⟩ := x_a
  have ⟨x_l_0, x_l_1, x_l_2, x_l_3, x_l_4, x_l_5, x_l_6, x_l_7⟩ := x_l
  go_wp2_with (go_at_call 25; fail)
  refine (hSame d g2 ld h2 cd k2 Da w2 q.nd.sl q.nd.len (by have := y.rd.hd; rwa [Int.natAbs_natCast] at this) (by have := y.fd; rwa [Int.natAbs_natCast] at this)).mono ?_
  rintro e w3 ⟨rfl, bw3⟩
  clear x_a_0 x_a_1 x_a_2 x_a_3 x_a_4 x_a_5 x_l_0 x_l_1 x_l_2 x_l_3 x_l_4 x_l_5 x_l_6 x_l_7
  have zbw3 := bw3.size
  replace q := q.below bw3
  replace x := x.below bw3
  replace BB := also BB bw3
  replace x_a := x_a.on bw3
  replace x_b := x_b.on bw3
  replace y := y.below bw3
  replace x_l := x_l.on bw3
  go_wp2
  go_ret
  exact ⟨rfl, BB⟩
end Go.Proofs.YtaekgomplkkocabGreatDoor

namespace Go.Proofs.YtaekgomplkkocabGreatDoor
open Go.RowKit
set_option linter.unusedVariables false

theorem decZ_nat (D : Nat) : decZ (D : Int) = decS D := by
  unfold decZ
  rw [if_neg (by omega), Int.natAbs_natCast]
set_option maxRecDepth 100000 in
set_option maxHeartbeats 1000000 in
theorem rqShow (s1 : Int) (d1 : Option Addr) (l1 c1 : Nat) (t1 : Int) (g1 : Option Addr) (h1 k1 : Nat) (N1 : Int) (D1 : Nat) (K : Nat) (w : World) (x : RQ w K s1 d1 l1 c1 t1 g1 h1 k1 N1 D1) {s : ByteArray} (hs : s = qText (lowN N1 D1) (lowD N1 D1)) :
    Calls Tryz.prog 8 #[.agg #[.int .i64 s1, .slice d1 l1 c1, .int .i64 t1, .slice g1 h1 k1]] w fun e w' => e = .returned (.string s) ∧ Below w.heap.size w w' := by
  obtain ⟨N, hN⟩ : ∃ N, N = lowN N1 D1 := ⟨_, rfl⟩
  obtain ⟨E, hE⟩ : ∃ E, E = lowD N1 D1 := ⟨_, rfl⟩
  rw [← hN, ← hE] at hs
  have HNs : Hid (N.natAbs < 4294967296 ^ K) := by unfold Hid; rw [hN]; exact Nat.lt_of_le_of_lt (lowN_le _ _) x.ns
  have HEs : Hid (E < 4294967296 ^ K) := by unfold Hid; rw [hE]; exact Nat.lt_of_le_of_lt (lowD_le _ _) x.ds
  have kk := x.kk
  have HN : Hid _ := hN
  have HE : Hid _ := hE
  obtain ⟨g0, hg⟩ : ∃ g0, g0 = ((E : Int) - 1).sign := ⟨_, rfl⟩
  have HG : Hid _ := hg
  have hp : 0 < E := by rw [hE]; exact lowD_pos x.dp
  clear hN hE
  by_cases q1 : E = 1
  · have HT : Hid (s = decZ N) := by unfold Hid; rw [hs]; unfold qText; rw [if_pos q1]
    obtain rfl : g0 = 0 := by rw [hg, q1]; rfl
    clear hs hg q1
    obtain ⟨W, hW, bW, x_a, sW⟩ := bs_4 w (.int .i64 s1) (.slice d1 l1 c1) (.int .i64 t1) (.slice g1 h1 k1) 40
    have zbW := bW.size
    replace x := x.below bW
    have BB := bW
    go_enter Tryz.func8, Tryz.ntmps8
    go_wp2_with (go_at_call 21; fail)
    rw [← hW]
    clear hW
    refine (rqLow s1 d1 l1 c1 t1 g1 h1 k1 N1 D1 K W x N E HN.out HE.out).mono ?_
    rintro e w1 ⟨s2, d2, l2, c2, t2, g2, h2, k2, rfl, y, f2, bw1⟩
    have zbw1 := bw1.size
    replace x := x.below bw1
    replace BB := also BB bw1
    replace x_a := x_a.on bw1
    obtain ⟨V1, hV1, bV1, x_l, sV1⟩ := bs_4 w1 (.int .i64 s2) (.slice d2 l2 c2) (.int .i64 t2) (.slice g2 h2 k2) 40
    have zbV1 := bV1.size
    replace x := x.below bV1
    replace BB := also BB bV1
    replace x_a := x_a.on bV1
    replace y := y.below bV1
    go_wp2
    rw [← hV1]
    clear hV1
    have dd1 : Below V1.heap.size V1 V1.drew := (Below.refl _ _).drew
    have zdd1 := dd1.size
    replace x := x.below dd1
    replace BB := also BB dd1
    replace x_a := x_a.on dd1
    replace y := y.below dd1
    replace x_l := x_l.on dd1
    refine wp_region_held_drew (S := (fun w' => w'.cell? ⟨w1.heap.size, 0, none⟩ = some (.int .i64 s2) ∧ w'.cell? ⟨w1.heap.size, 1, none⟩ = some (.slice d2 l2 c2) ∧ w'.cell? ⟨w1.heap.size, 2, none⟩ = some (.int .i64 t2) ∧ w'.cell? ⟨w1.heap.size, 3, none⟩ = some (.slice g2 h2 k2) ∧ Below w.heap.size w w')) (by kernel_rfl) ?_ (fun hHeld => ?_)
    · first | exact ⟨x_l.c0, x_l.c1, x_l.c2, x_l.c3, BB⟩ | exact ⟨cell_on bw4 hHeld.1, cell_on bw4 hHeld.2.1, cell_on bw4 hHeld.2.2.1, cell_on bw4 hHeld.2.2.2.1, also hHeld.2.2.2.2 bw4⟩ | exact ⟨cell_on bw3 hHeld.1, cell_on bw3 hHeld.2.1, cell_on bw3 hHeld.2.2.1, cell_on bw3 hHeld.2.2.2.1, also hHeld.2.2.2.2 bw3⟩
    refine take_yes (i := 0) (v := ?vr0) rfl (by kernel_rfl) (by kernel_rfl) (by kernel_rfl) (fun _ _ _ h => h) (by rfl) (by assumption) ?hyr0 ?restr0
    case hyr0 => (intro w hSw; (try dsimp only at hSw); first | (go_simp; done) | (go_simp; with_reducible rfl))
    simp only [Act.put, List.setIfInBounds_toArray, List.set_cons_zero, List.set_cons_succ]
    refine take_yes (i := 1) (v := ?vr1) rfl (by kernel_rfl) (by kernel_rfl) (by kernel_rfl) (fun _ _ _ h => h) (by rfl) (by assumption) ?hyr1 ?restr1
    case hyr1 => (intro w hSw; (try dsimp only at hSw); first | (go_simp; done) | (go_simp; with_reducible rfl))
    simp only [Act.put, List.setIfInBounds_toArray, List.set_cons_zero, List.set_cons_succ]
    refine take_call (i := 2) rfl (by kernel_rfl) (fun Kc hK => ?_)
    go_simp
    (go_at_call 20; refine (rwLong 1 _ (by decide) (by decide)).mono ?_; rintro e w3 ⟨s3, d3, l3, c3, rfl, r3, f3, bw3⟩)
    refine hK.out _ _ ?_ (fun hHeld => ?_)
    · first | exact ⟨x_l.c0, x_l.c1, x_l.c2, x_l.c3, BB⟩ | exact ⟨cell_on bw4 hHeld.1, cell_on bw4 hHeld.2.1, cell_on bw4 hHeld.2.2.1, cell_on bw4 hHeld.2.2.2.1, also hHeld.2.2.2.2 bw4⟩ | exact ⟨cell_on bw3 hHeld.1, cell_on bw3 hHeld.2.1, cell_on bw3 hHeld.2.2.1, cell_on bw3 hHeld.2.2.2.1, also hHeld.2.2.2.2 bw3⟩
    clear hK Kc
    have zbw3 := bw3.size
    replace x := x.below bw3
    replace BB := also BB bw3
    replace x_a := x_a.on bw3
    replace y := y.below bw3
    replace x_l := x_l.on bw3
    refine take_call (i := 3) rfl (by kernel_rfl) (fun Kc hK => ?_)
    go_simp
    (go_at_call 22; refine (rwCmp t2 s3 g2 d3 h2 k2 l3 c3 _ _ _ y.rd r3 y.fd one_few HG.out).mono ?_; rintro e w4 ⟨rfl, bw4⟩)
    refine hK.out _ _ ?_ (fun hHeld => ?_)
    · first | exact ⟨x_l.c0, x_l.c1, x_l.c2, x_l.c3, BB⟩ | exact ⟨cell_on bw4 hHeld.1, cell_on bw4 hHeld.2.1, cell_on bw4 hHeld.2.2.1, cell_on bw4 hHeld.2.2.2.1, also hHeld.2.2.2.2 bw4⟩ | exact ⟨cell_on bw3 hHeld.1, cell_on bw3 hHeld.2.1, cell_on bw3 hHeld.2.2.1, cell_on bw3 hHeld.2.2.2.1, also hHeld.2.2.2.2 bw3⟩
    clear hK Kc
    have zbw4 := bw4.size
    replace x := x.below bw4
    replace BB := also BB bw4
    replace x_a := x_a.on bw4
    replace y := y.below bw4
    replace x_l := x_l.on bw4
    replace r3 := r3.below bw4
    refine take_yes (i := 4) (v := ?vr4) rfl (by kernel_rfl) (by kernel_rfl) (by kernel_rfl) (fun _ _ _ h => h) (by rfl) (by assumption) ?hyr4 ?restr4
    case hyr4 => (intro w hSw; (try dsimp only at hSw); first | (go_simp; done) | (go_simp; with_reducible rfl))
    simp only [Act.put, List.setIfInBounds_toArray, List.set_cons_zero, List.set_cons_succ]
    refine wpAnyH_done (by kernel_rfl) ?_ _
    have ⟨x_l_0, x_l_1, x_l_2, x_l_3, x_l_4, x_l_5, x_l_6, x_l_7⟩ := x_l
    go_wp2_with (go_at_call 23; fail)
    refine (rwShow s2 d2 l2 c2 N w4 y.rn y.fn HT.out).mono ?_
    rintro e w5 ⟨rfl, bw5⟩
    clear x_l_0 x_l_1 x_l_2 x_l_3 x_l_4 x_l_5 x_l_6 x_l_7
    have zbw5 := bw5.size
    replace x := x.below bw5
    replace BB := also BB bw5
    replace x_a := x_a.on bw5
    replace y := y.below bw5
    replace x_l := x_l.on bw5
    replace r3 := r3.below bw5
    go_wp2
    go_ret
    exact ⟨rfl, BB⟩
  · have HT : Hid (s = (decZ N ++ ⟨#[47]⟩) ++ decS E) := by unfold Hid; rw [hs]; unfold qText; rw [if_neg q1]
    have hg0 : ¬ g0 = 0 := by rw [hg]; exact fun e => by have := Int.sign_eq_zero_iff_zero.1 e; omega
    clear hs hg q1
    obtain ⟨u1, hu1⟩ : ∃ u1, u1 = decZ N := ⟨_, rfl⟩
    obtain ⟨u2, hu2⟩ : ∃ u2, u2 = decS E := ⟨_, rfl⟩
    have y1 := decZ_size HNs.out
    have y2 := decS_sz HEs.out
    rw [← hu1] at y1
    rw [← hu2] at y2
    have hz1 : ¬ 9223372036854775807 < u1.size + 1 := by omega
    have hz2 : ¬ 9223372036854775807 < u1.size + 1 + u2.size := by omega
    clear y1 y2
    rw [← hu1, ← hu2] at HT
    have HT1 : Hid _ := hu1
    have HT2 : Hid (u2 = decZ (E : Int)) := by unfold Hid; rw [hu2, decZ_nat]
    clear hu1 hu2
    obtain ⟨W, hW, bW, x_a, sW⟩ := bs_4 w (.int .i64 s1) (.slice d1 l1 c1) (.int .i64 t1) (.slice g1 h1 k1) 40
    have zbW := bW.size
    replace x := x.below bW
    have BB := bW
    go_enter Tryz.func8, Tryz.ntmps8
    go_wp2_with (go_at_call 21; fail)
    rw [← hW]
    clear hW
    refine (rqLow s1 d1 l1 c1 t1 g1 h1 k1 N1 D1 K W x N E HN.out HE.out).mono ?_
    rintro e w1 ⟨s2, d2, l2, c2, t2, g2, h2, k2, rfl, y, f2, bw1⟩
    have zbw1 := bw1.size
    replace x := x.below bw1
    replace BB := also BB bw1
    replace x_a := x_a.on bw1
    obtain ⟨V1, hV1, bV1, x_l, sV1⟩ := bs_4 w1 (.int .i64 s2) (.slice d2 l2 c2) (.int .i64 t2) (.slice g2 h2 k2) 40
    have zbV1 := bV1.size
    replace x := x.below bV1
    replace BB := also BB bV1
    replace x_a := x_a.on bV1
    replace y := y.below bV1
    go_wp2
    rw [← hV1]
    clear hV1
    have dd1 : Below V1.heap.size V1 V1.drew := (Below.refl _ _).drew
    have zdd1 := dd1.size
    replace x := x.below dd1
    replace BB := also BB dd1
    replace x_a := x_a.on dd1
    replace y := y.below dd1
    replace x_l := x_l.on dd1
    refine wp_region_held_drew (S := (fun w' => w'.cell? ⟨w1.heap.size, 0, none⟩ = some (.int .i64 s2) ∧ w'.cell? ⟨w1.heap.size, 1, none⟩ = some (.slice d2 l2 c2) ∧ w'.cell? ⟨w1.heap.size, 2, none⟩ = some (.int .i64 t2) ∧ w'.cell? ⟨w1.heap.size, 3, none⟩ = some (.slice g2 h2 k2) ∧ Below w.heap.size w w')) (by kernel_rfl) ?_ (fun hHeld => ?_)
    · first | exact ⟨x_l.c0, x_l.c1, x_l.c2, x_l.c3, BB⟩ | exact ⟨cell_on bw4 hHeld.1, cell_on bw4 hHeld.2.1, cell_on bw4 hHeld.2.2.1, cell_on bw4 hHeld.2.2.2.1, also hHeld.2.2.2.2 bw4⟩ | exact ⟨cell_on bw3 hHeld.1, cell_on bw3 hHeld.2.1, cell_on bw3 hHeld.2.2.1, cell_on bw3 hHeld.2.2.2.1, also hHeld.2.2.2.2 bw3⟩
    refine take_yes (i := 0) (v := ?vq0) rfl (by kernel_rfl) (by kernel_rfl) (by kernel_rfl) (fun _ _ _ h => h) (by rfl) (by assumption) ?hyq0 ?restq0
    case hyq0 => (intro w hSw; (try dsimp only at hSw); first | (go_simp; done) | (go_simp; with_reducible rfl))
    simp only [Act.put, List.setIfInBounds_toArray, List.set_cons_zero, List.set_cons_succ]
    refine take_yes (i := 1) (v := ?vq1) rfl (by kernel_rfl) (by kernel_rfl) (by kernel_rfl) (fun _ _ _ h => h) (by rfl) (by assumption) ?hyq1 ?restq1
    case hyq1 => (intro w hSw; (try dsimp only at hSw); first | (go_simp; done) | (go_simp; with_reducible rfl))
    simp only [Act.put, List.setIfInBounds_toArray, List.set_cons_zero, List.set_cons_succ]
    refine take_call (i := 2) rfl (by kernel_rfl) (fun Kc hK => ?_)
    go_simp
    (go_at_call 20; refine (rwLong 1 _ (by decide) (by decide)).mono ?_; rintro e w3 ⟨s3, d3, l3, c3, rfl, r3, f3, bw3⟩)
    refine hK.out _ _ ?_ (fun hHeld => ?_)
    · first | exact ⟨x_l.c0, x_l.c1, x_l.c2, x_l.c3, BB⟩ | exact ⟨cell_on bw4 hHeld.1, cell_on bw4 hHeld.2.1, cell_on bw4 hHeld.2.2.1, cell_on bw4 hHeld.2.2.2.1, also hHeld.2.2.2.2 bw4⟩ | exact ⟨cell_on bw3 hHeld.1, cell_on bw3 hHeld.2.1, cell_on bw3 hHeld.2.2.1, cell_on bw3 hHeld.2.2.2.1, also hHeld.2.2.2.2 bw3⟩
    clear hK Kc
    have zbw3 := bw3.size
    replace x := x.below bw3
    replace BB := also BB bw3
    replace x_a := x_a.on bw3
    replace y := y.below bw3
    replace x_l := x_l.on bw3
    refine take_call (i := 3) rfl (by kernel_rfl) (fun Kc hK => ?_)
    go_simp
    (go_at_call 22; refine (rwCmp t2 s3 g2 d3 h2 k2 l3 c3 _ _ _ y.rd r3 y.fd one_few HG.out).mono ?_; rintro e w4 ⟨rfl, bw4⟩)
    refine hK.out _ _ ?_ (fun hHeld => ?_)
    · first | exact ⟨x_l.c0, x_l.c1, x_l.c2, x_l.c3, BB⟩ | exact ⟨cell_on bw4 hHeld.1, cell_on bw4 hHeld.2.1, cell_on bw4 hHeld.2.2.1, cell_on bw4 hHeld.2.2.2.1, also hHeld.2.2.2.2 bw4⟩ | exact ⟨cell_on bw3 hHeld.1, cell_on bw3 hHeld.2.1, cell_on bw3 hHeld.2.2.1, cell_on bw3 hHeld.2.2.2.1, also hHeld.2.2.2.2 bw3⟩
    clear hK Kc
    have zbw4 := bw4.size
    replace x := x.below bw4
    replace BB := also BB bw4
    replace x_a := x_a.on bw4
    replace y := y.below bw4
    replace x_l := x_l.on bw4
    replace r3 := r3.below bw4
    refine take_yes (i := 4) (v := ?vq4) rfl (by kernel_rfl) (by kernel_rfl) (by kernel_rfl) (fun _ _ _ h => h) (by rfl) (by assumption) ?hyq4 ?restq4
    case hyq4 => (intro w hSw; (try dsimp only at hSw); first | (go_simp; done) | (go_simp; with_reducible rfl))
    simp only [Act.put, List.setIfInBounds_toArray, List.set_cons_zero, List.set_cons_succ]
    refine wpAnyH_done (by kernel_rfl) ?_ _
    have ⟨x_l_0, x_l_1, x_l_2, x_l_3, x_l_4, x_l_5, x_l_6, x_l_7⟩ := x_l
    go_wp2
    have dd2 : Below w4.heap.size w4 w4.drew := (Below.refl _ _).drew
    clear x_l_0 x_l_1 x_l_2 x_l_3 x_l_4 x_l_5 x_l_6 x_l_7
    have zdd2 := dd2.size
    replace x := x.below dd2
    replace BB := also BB dd2
    replace x_a := x_a.on dd2
    replace y := y.below dd2
    replace x_l := x_l.on dd2
    replace r3 := r3.below dd2
    refine wp_region_held_drew (S := (fun w' => w'.cell? ⟨w1.heap.size, 0, none⟩ = some (.int .i64 s2) ∧ w'.cell? ⟨w1.heap.size, 1, none⟩ = some (.slice d2 l2 c2) ∧ w'.cell? ⟨w1.heap.size, 2, none⟩ = some (.int .i64 t2) ∧ w'.cell? ⟨w1.heap.size, 3, none⟩ = some (.slice g2 h2 k2) ∧ Below w.heap.size w w')) (by kernel_rfl) ?_ (fun hHeld => ?_)
    · first | exact ⟨x_l.c0, x_l.c1, x_l.c2, x_l.c3, BB⟩ | exact ⟨cell_on bw6 hHeld.1, cell_on bw6 hHeld.2.1, cell_on bw6 hHeld.2.2.1, cell_on bw6 hHeld.2.2.2.1, also hHeld.2.2.2.2 bw6⟩ | exact ⟨cell_on bw5 hHeld.1, cell_on bw5 hHeld.2.1, cell_on bw5 hHeld.2.2.1, cell_on bw5 hHeld.2.2.2.1, also hHeld.2.2.2.2 bw5⟩
    refine take_yes (i := 0) (v := ?vs0) rfl (by kernel_rfl) (by kernel_rfl) (by kernel_rfl) (fun _ _ _ h => h) (by rfl) (by assumption) ?hys0 ?rests0
    case hys0 => (intro w hSw; (try dsimp only at hSw); first | (go_simp; done) | (go_simp; with_reducible rfl))
    simp only [Act.put, List.setIfInBounds_toArray, List.set_cons_zero, List.set_cons_succ]
    refine take_yes (i := 1) (v := ?vs1) rfl (by kernel_rfl) (by kernel_rfl) (by kernel_rfl) (fun _ _ _ h => h) (by rfl) (by assumption) ?hys1 ?rests1
    case hys1 => (intro w hSw; (try dsimp only at hSw); first | (go_simp; done) | (go_simp; with_reducible rfl))
    simp only [Act.put, List.setIfInBounds_toArray, List.set_cons_zero, List.set_cons_succ]
    refine take_yes (i := 4) (v := ?vs4) rfl (by kernel_rfl) (by kernel_rfl) (by kernel_rfl) (fun _ _ _ h => h) (by rfl) (by assumption) ?hys4 ?rests4
    case hys4 => (intro w hSw; (try dsimp only at hSw); first | (go_simp; done) | (go_simp; with_reducible rfl))
    simp only [Act.put, List.setIfInBounds_toArray, List.set_cons_zero, List.set_cons_succ]
    refine take_yes (i := 5) (v := ?vs5) rfl (by kernel_rfl) (by kernel_rfl) (by kernel_rfl) (fun _ _ _ h => h) (by rfl) (by assumption) ?hys5 ?rests5
    case hys5 => (intro w hSw; (try dsimp only at hSw); first | (go_simp; done) | (go_simp; with_reducible rfl))
    simp only [Act.put, List.setIfInBounds_toArray, List.set_cons_zero, List.set_cons_succ]
    refine take_call (i := 2) rfl (by kernel_rfl) (fun Kc hK => ?_)
    go_simp
    (go_at_call 23; refine (rwShow s2 d2 l2 c2 N _ y.rn y.fn HT1.out).mono ?_; rintro e w5 ⟨rfl, bw5⟩)
    refine hK.out _ _ ?_ (fun hHeld => ?_)
    · first | exact ⟨x_l.c0, x_l.c1, x_l.c2, x_l.c3, BB⟩ | exact ⟨cell_on bw6 hHeld.1, cell_on bw6 hHeld.2.1, cell_on bw6 hHeld.2.2.1, cell_on bw6 hHeld.2.2.2.1, also hHeld.2.2.2.2 bw6⟩ | exact ⟨cell_on bw5 hHeld.1, cell_on bw5 hHeld.2.1, cell_on bw5 hHeld.2.2.1, cell_on bw5 hHeld.2.2.2.1, also hHeld.2.2.2.2 bw5⟩
    clear hK Kc
    have zbw5 := bw5.size
    replace x := x.below bw5
    replace BB := also BB bw5
    replace x_a := x_a.on bw5
    replace y := y.below bw5
    replace x_l := x_l.on bw5
    replace r3 := r3.below bw5
    refine take_yes (i := 3) (v := ?vs3) rfl (by kernel_rfl) (by kernel_rfl) (by kernel_rfl) (fun _ _ _ h => h) (by rfl) (by assumption) ?hys3 ?rests3
    case hys3 => (intro w hSw; (try dsimp only at hSw); first | (go_simp; done) | (go_simp; with_reducible rfl))
    simp only [Act.put, List.setIfInBounds_toArray, List.set_cons_zero, List.set_cons_succ]
    refine take_call (i := 6) rfl (by kernel_rfl) (fun Kc hK => ?_)
    go_simp
    (go_at_call 23; refine (rwShow t2 g2 h2 k2 E _ y.rd y.fd HT2.out).mono ?_; rintro e w6 ⟨rfl, bw6⟩)
    refine hK.out _ _ ?_ (fun hHeld => ?_)
    · first | exact ⟨x_l.c0, x_l.c1, x_l.c2, x_l.c3, BB⟩ | exact ⟨cell_on bw6 hHeld.1, cell_on bw6 hHeld.2.1, cell_on bw6 hHeld.2.2.1, cell_on bw6 hHeld.2.2.2.1, also hHeld.2.2.2.2 bw6⟩ | exact ⟨cell_on bw5 hHeld.1, cell_on bw5 hHeld.2.1, cell_on bw5 hHeld.2.2.1, cell_on bw5 hHeld.2.2.2.1, also hHeld.2.2.2.2 bw5⟩
    clear hK Kc
    have zbw6 := bw6.size
    replace x := x.below bw6
    replace BB := also BB bw6
    replace x_a := x_a.on bw6
    replace y := y.below bw6
    replace x_l := x_l.on bw6
    replace r3 := r3.below bw6
    refine take_yes (i := 7) (v := ?vs7) rfl (by kernel_rfl) (by kernel_rfl) (by kernel_rfl) (fun _ _ _ h => h) (by rfl) (by assumption) ?hys7 ?rests7
    case hys7 => (intro w hSw; (try dsimp only at hSw); first | (go_simp; done) | (go_simp; with_reducible rfl))
    simp only [Act.put, List.setIfInBounds_toArray, List.set_cons_zero, List.set_cons_succ]
    refine take_yes (i := 8) (v := ?vs8) rfl (by kernel_rfl) (by kernel_rfl) (by kernel_rfl) (fun _ _ _ h => h) (by rfl) (by assumption) ?hys8 ?rests8
    case hys8 => (intro w hSw; (try dsimp only at hSw); first | (go_simp; done) | (go_simp; with_reducible rfl))
    simp only [Act.put, List.setIfInBounds_toArray, List.set_cons_zero, List.set_cons_succ]
    refine wpAnyH_done (by kernel_rfl) ?_ _
    go_wp2
    go_ret
    exact ⟨by rw [HT.out]; rfl, BB⟩
end Go.Proofs.YtaekgomplkkocabGreatDoor
