/-
  RatAdds: the sum and the difference of any two fractions, and one with the other sign, in lowest terms.
-/
import Derived.Test.YtaekgomplkkocaaGreatDoorP6
import Derived.Test.YtaekgomplkkocaaGreatDoorP9
import Derived.Test.YtaekgomplkkocaaGreatDoorP10
import Derived.Test.YtaekgomplkkocaaGreatDoorP11
namespace Go.Proofs.YtaekgomplkkocaaGreatDoor
open Go.RowKit
set_option linter.unusedVariables false

namespace radds
open Go.ChangeShapes Go.WideShapes Go.ChangeAt
set_option maxRecDepth 100000 in
set_option maxHeartbeats 80000000 in
theorem walk (n : Bool) (a : Option Addr) (la ca u : Nat) (d : Option Addr) (ld cd v : Nat) (m : Bool) (b : Option Addr) (lb cb u' : Nat) (g : Option Addr) (lg cg v' : Nat) (w : World) (ha : Sl w a la ca (wd.dcells la (u : Int))) (hu : u < 4294967296 ^ la) (hd : Sl w d ld cd (wd.dcells ld (v : Int))) (hv : v < 4294967296 ^ ld) (hb : Sl w b lb cb (wd.dcells lb (u' : Int))) (hu' : u' < 4294967296 ^ lb) (hg : Sl w g lg cg (wd.dcells lg (v' : Int))) (hv' : v' < 4294967296 ^ lg) :
    Calls Tryz.prog 3 #[.agg #[.bool n, .slice a la ca, .slice d ld cd], .agg #[.bool m, .slice b lb cb, .slice g lg cg]] w fun e w' => e = .returned (.bool true) ∧ Below w.heap.size w w' := by
  obtain ⟨W, hW, bW, x_a, x_b, sW⟩ := bs_33 w (.bool n) (.slice a la ca) (.slice d ld cd) (.bool m) (.slice b lb cb) (.slice g lg cg) 27 27
  have zbW := bW.size
  replace ha := ha.below bW
  replace hd := hd.below bW
  replace hb := hb.below bW
  replace hg := hg.below bW
  have BB := bW
  go_enter Tryz.func3, Tryz.ntmps3
  go_wp2
  rw [← hW]
  clear hW
  have dd1 : Below W.heap.size W W.drew := (Below.refl _ _).drew
  have zdd1 := dd1.size
  replace ha := ha.below dd1
  replace hd := hd.below dd1
  replace hb := hb.below dd1
  replace hg := hg.below dd1
  replace BB := also BB dd1
  replace x_a := x_a.on dd1
  replace x_b := x_b.on dd1
  have sx := x_a
  have sy := x_b
  obtain ⟨QQ, hQQ⟩ : ∃ QQ : Exit → Act → World → Prop, QQ = fun e act wr => e = .normal ∧ ∃ (a1 : Option Addr) (m1 c1 x1 : Nat) (d1 : Option Addr) (k1 g1 A : Nat) (a2 : Option Addr) (m2 c2 x2 : Nat) (d2 : Option Addr) (k2 g2 B : Nat), act = ⟨#[.agg #[.bool n, .slice a la ca, .slice d ld cd], .agg #[.bool m, .slice b lb cb, .slice g lg cg], .pointer (some ⟨w.heap.size, 0, none⟩), .pointer (some ⟨w.heap.size + 1, 0, none⟩), .bool false, undef, undef, .agg #[.bool n, .slice a la ca, .slice d ld cd], .agg #[.bool n, .slice a1 m1 c1, .slice d1 k1 g1], .agg #[.bool m, .slice b lb cb, .slice g lg cg], .agg #[.bool m, .slice a2 m2 c2, .slice d2 k2 g2], undef, undef, undef, undef, undef, undef, undef, undef, undef, undef, undef, undef, undef, undef, undef, undef, undef, undef, undef, undef, undef, undef, undef, undef, undef, undef, undef, undef, undef, undef, undef, undef, undef, undef, undef, undef], []⟩ ∧ QI wr 6 n a1 m1 c1 d1 k1 g1 (sgz n x1) A ∧ QI wr 6 m a2 m2 c2 d2 k2 g2 (sgz m x2) B ∧ B3 wr w.heap.size (.bool n) (.slice a1 m1 c1) (.slice d1 k1 g1) ∧ B3 wr (w.heap.size + 1) (.bool m) (.slice a2 m2 c2) (.slice d2 k2 g2) ∧ Below w.heap.size w wr ∧ W.heap.size ≤ wr.heap.size := ⟨_, rfl⟩
  have HQQ : Hid _ := hQQ
  clear hQQ
  refine wp_mono (Q := QQ) ?_ ?_
  have kx_a0 : W.cell? ⟨w.heap.size, 0, none⟩ = some (.bool n) := x_a.c0
  have kx_a1 : W.cell? ⟨w.heap.size, 1, none⟩ = some (.slice a la ca) := x_a.c1
  have kx_a2 : W.cell? ⟨w.heap.size, 2, none⟩ = some (.slice d ld cd) := x_a.c2
  have kx_a3 : W.frozen? ⟨w.heap.size, 0, none⟩ = false := x_a.f0
  have kx_a4 : W.frozen? ⟨w.heap.size, 1, none⟩ = false := x_a.f1
  have kx_a5 : W.frozen? ⟨w.heap.size, 2, none⟩ = false := x_a.f2
  have kx_b0 : W.cell? ⟨w.heap.size + 1, 0, none⟩ = some (.bool m) := x_b.c0
  have kx_b1 : W.cell? ⟨w.heap.size + 1, 1, none⟩ = some (.slice b lb cb) := x_b.c1
  have kx_b2 : W.cell? ⟨w.heap.size + 1, 2, none⟩ = some (.slice g lg cg) := x_b.c2
  have kx_b3 : W.frozen? ⟨w.heap.size + 1, 0, none⟩ = false := x_b.f0
  have kx_b4 : W.frozen? ⟨w.heap.size + 1, 1, none⟩ = false := x_b.f1
  have kx_b5 : W.frozen? ⟨w.heap.size + 1, 2, none⟩ = false := x_b.f2
  · go_region_with (first
      | (go_at_call_of 7 [Value.agg #[Value.bool n, Value.slice a la ca, Value.slice d ld cd]]; refine (short5_any n a la ca u d ld cd v _ ha hu hd hv).mono ?_; rintro e w1 ⟨a1, m1, c1, x1, d1, k1, g1, A, rfl, q1, f1, e1, b1⟩; have ⟨x_ab10, x_ab11, x_ab12, x_ab13, x_ab14, x_ab15⟩ := (x_a.on b1); have ⟨x_bb10, x_bb11, x_bb12, x_bb13, x_bb14, x_bb15⟩ := (x_b.on b1))
      | (go_at_call 7; refine (short5_any m b lb cb u' g lg cg v' _ (hb.below b1) hu' (hg.below b1) hv').mono ?_; rintro e w2 ⟨a2, m2, c2, x2, d2, k2, g2, B, rfl, q2, f2, e2, b2⟩; have ⟨x_ab20, x_ab21, x_ab22, x_ab23, x_ab24, x_ab25⟩ := ((x_a.on b1).on b2); have ⟨x_bb20, x_bb21, x_bb22, x_bb23, x_bb24, x_bb25⟩ := ((x_b.on b1).on b2)))
    all_goals (rw [HQQ.out]; have zb1 : W.heap.size ≤ w1.heap.size := b1.size; have zb2 : w1.heap.size ≤ w2.heap.size := b2.size; have F1 : Far W.heap.size a1 m1 := f1; have E1 : Far W.heap.size d1 k1 := e1; exact ⟨rfl, a1, m1, c1, x1, d1, k1, g1, A, a2, m2, c2, x2, d2, k2, g2, B, rfl, (((((((q1.below b2).put (F1 _ (by omega)) (E1 _ (by omega)) 0 _).put (F1 _ (by omega)) (E1 _ (by omega)) 1 _).put (F1 _ (by omega)) (E1 _ (by omega)) 2 _).put (F1 _ (by omega)) (E1 _ (by omega)) 0 _).put (F1 _ (by omega)) (E1 _ (by omega)) 1 _).put (F1 _ (by omega)) (E1 _ (by omega)) 2 _), ((((((q2.put (f2 _ (by omega)) (e2 _ (by omega)) 0 _).put (f2 _ (by omega)) (e2 _ (by omega)) 1 _).put (f2 _ (by omega)) (e2 _ (by omega)) 2 _).put (f2 _ (by omega)) (e2 _ (by omega)) 0 _).put (f2 _ (by omega)) (e2 _ (by omega)) 1 _).put (f2 _ (by omega)) (e2 _ (by omega)) 2 _), ((((x_a.on b1).on b2).set.put (by omega)).put (by omega)).put (by omega), (((((x_b.on b1).on b2).put (by omega)).put (by omega)).put (by omega)).set, below_put3 (below_put3 (also (also BB b1) b2) (by omega) _ _ _) (by omega) _ _ _, by simp only [World.size_setCell]; omega⟩)
  rw [HQQ.out]
  rintro e act U ⟨rfl, a1, m1, c1, x1, d1, k1, g1, A, a2, m2, c2, x2, d2, k2, g2, B, rfl, q1, q2, y_a, y_b, BU, z_U⟩
  clear HQQ QQ ha hd hb hg hu hv hu' hv' x_a x_b sx sy BB
  have x_a := y_a
  have x_b := y_b
  have BB := BU
  clear y_a y_b BU
  dsimp only
  generalize sgz n x1 = X at q1
  generalize sgz m x2 = Y at q2
  go_wp2
  obtain ⟨QQ, hQQ⟩ : ∃ QQ : Exit → Act → World → Prop, QQ = fun e act wr => e = .normal ∧ ∃ (p q : Nat) (s3 : Int) (d3 : Option Addr) (l3 c3 : Nat) (t3 : Int) (g3 : Option Addr) (h3 k3 : Nat) (s4 : Int) (d4 : Option Addr) (l4 c4 : Nat) (t4 : Int) (g4 : Option Addr) (h4 k4 : Nat), act = ⟨#[.agg #[.bool n, .slice a la ca, .slice d ld cd], .agg #[.bool m, .slice b lb cb, .slice g lg cg], .pointer (some ⟨w.heap.size, 0, none⟩), .pointer (some ⟨w.heap.size + 1, 0, none⟩), .bool false, .pointer (some ⟨p, 0, none⟩), .pointer (some ⟨q, 0, none⟩), .agg #[.bool n, .slice a la ca, .slice d ld cd], .agg #[.bool n, .slice a1 m1 c1, .slice d1 k1 g1], .agg #[.bool m, .slice b lb cb, .slice g lg cg], .agg #[.bool m, .slice a2 m2 c2, .slice d2 k2 g2], .agg #[.bool n, .slice a1 m1 c1, .slice d1 k1 g1], .agg #[.int .i64 s3, .slice d3 l3 c3, .int .i64 t3, .slice g3 h3 k3], .agg #[.bool m, .slice a2 m2 c2, .slice d2 k2 g2], .agg #[.int .i64 s4, .slice d4 l4 c4, .int .i64 t4, .slice g4 h4 k4], undef, undef, undef, undef, undef, undef, undef, undef, undef, undef, undef, undef, undef, undef, undef, undef, undef, undef, undef, undef, undef, undef, undef, undef, undef, undef, undef, undef, undef, undef, undef, undef], []⟩ ∧ QI wr 6 n a1 m1 c1 d1 k1 g1 X A ∧ QI wr 6 m a2 m2 c2 d2 k2 g2 Y B ∧ RQ wr 6 s3 d3 l3 c3 t3 g3 h3 k3 (pN X A) (pD A) ∧ RQ wr 6 s4 d4 l4 c4 t4 g4 h4 k4 (pN Y B) (pD B) ∧ B3 wr (w.heap.size) (.bool n) (.slice a1 m1 c1) (.slice d1 k1 g1) ∧ B3 wr (w.heap.size + 1) (.bool m) (.slice a2 m2 c2) (.slice d2 k2 g2) ∧ B4 wr p (.int .i64 s3) (.slice d3 l3 c3) (.int .i64 t3) (.slice g3 h3 k3) ∧ B4 wr q (.int .i64 s4) (.slice d4 l4 c4) (.int .i64 t4) (.slice g4 h4 k4) ∧ Below w.heap.size w wr ∧ U.heap.size ≤ wr.heap.size ∧ (U.heap.size ≤ p ∧ p < wr.heap.size) ∧ (U.heap.size ≤ q ∧ q < wr.heap.size) := ⟨_, rfl⟩
  have HQQ : Hid _ := hQQ
  clear hQQ
  refine wp_mono (Q := QQ) ?_ ?_
  · refine wp_region_held_drew (S := (fun w' => w'.cell? ⟨w.heap.size, 0, none⟩ = some (.bool n) ∧ w'.cell? ⟨w.heap.size, 1, none⟩ = some (.slice a1 m1 c1) ∧ w'.cell? ⟨w.heap.size, 2, none⟩ = some (.slice d1 k1 g1) ∧ w'.cell? ⟨w.heap.size + 1, 0, none⟩ = some (.bool m) ∧ w'.cell? ⟨w.heap.size + 1, 1, none⟩ = some (.slice a2 m2 c2) ∧ w'.cell? ⟨w.heap.size + 1, 2, none⟩ = some (.slice d2 k2 g2) ∧ Below w.heap.size w w')) (by kernel_rfl) ?_ (fun hHeld => ?_)
    · exact ⟨x_a.c0, x_a.c1, x_a.c2, x_b.c0, x_b.c1, x_b.c2, BB.drew⟩
    refine take_yes (i := 0) (v := ?vfa0x1) rfl (by kernel_rfl) (by kernel_rfl) (by kernel_rfl) (fun _ _ _ h => by rw [HQQ.out] at h; exact Exit.noConfusion h.1) (by rfl) (by assumption) ?hyfa0x1 ?restfa0x1
    case hyfa0x1 => (intro w hSw; (try dsimp only at hSw); first | (go_simp; done) | (go_simp; with_reducible rfl))
    simp only [Act.put, List.setIfInBounds_toArray, List.set_cons_zero, List.set_cons_succ]
    refine take_yes (i := 2) (v := ?vfa2x2) rfl (by kernel_rfl) (by kernel_rfl) (by kernel_rfl) (fun _ _ _ h => by rw [HQQ.out] at h; exact Exit.noConfusion h.1) (by rfl) (by assumption) ?hyfa2x2 ?restfa2x2
    case hyfa2x2 => (intro w hSw; (try dsimp only at hSw); first | (go_simp; done) | (go_simp; with_reducible rfl))
    simp only [Act.put, List.setIfInBounds_toArray, List.set_cons_zero, List.set_cons_succ]
    have b0 : Below U.heap.size U U.drew := (Below.refl _ _).drew
    have BU := b0
    generalize U.drew = X0 at b0 BU hHeld ⊢
    replace q1 := q1.below b0
    replace q2 := q2.below b0
    replace x_a := x_a.on b0
    replace x_b := x_b.on b0
    replace BB := also BB b0
    refine wpAnyH_ready (rs := [1, 4, 5]) (by kernel_rfl) (by simp) (AllReadyH.cons (i := 1) rfl (fun Kc hK => ?_) (AllReadyH.cons (i := 4) rfl (fun Kc hK => ?_) (AllReadyH.cons (i := 5) rfl (fun Kc hK => ?_) AllReadyH.nil)))
    · skip
      go_simp
      (go_at_call 8; refine (rqOf n a1 m1 c1 d1 k1 g1 X A 6 _ q1).mono ?_; rintro e X1 ⟨s3, d3, l3, c3, t3, g3, h3, k3, rfl, x3, r3, e1⟩)
      refine hK.out _ _ ⟨cell_on e1 hHeld.1, cell_on e1 hHeld.2.1, cell_on e1 hHeld.2.2.1, cell_on e1 hHeld.2.2.2.1, cell_on e1 hHeld.2.2.2.2.1, cell_on e1 hHeld.2.2.2.2.2.1, also hHeld.2.2.2.2.2.2 e1⟩ (fun hHeld => ?_)
      clear hK Kc
      replace q1 := q1.below e1
      replace q2 := q2.below e1
      replace x_a := x_a.on e1
      replace x_b := x_b.on e1
      replace BB := also BB e1
      replace BU := also BU e1
      refine wpAnyH_ready (rs := [3, 4, 5]) (by kernel_rfl) (by simp) (AllReadyH.cons (i := 3) rfl (fun Kc hK => ?_) (AllReadyH.cons (i := 4) rfl (fun Kc hK => ?_) (AllReadyH.cons (i := 5) rfl (fun Kc hK => ?_) AllReadyH.nil)))
      · skip
        go_simp
        (go_at_call 8; refine (rqOf m a2 m2 c2 d2 k2 g2 Y B 6 _ q2).mono ?_; rintro e X2 ⟨s4, d4, l4, c4, t4, g4, h4, k4, rfl, x4, r4, e2⟩)
        refine hK.out _ _ ⟨cell_on e2 hHeld.1, cell_on e2 hHeld.2.1, cell_on e2 hHeld.2.2.1, cell_on e2 hHeld.2.2.2.1, cell_on e2 hHeld.2.2.2.2.1, cell_on e2 hHeld.2.2.2.2.2.1, also hHeld.2.2.2.2.2.2 e2⟩ (fun hHeld => ?_)
        clear hK Kc
        replace q1 := q1.below e2
        replace q2 := q2.below e2
        replace x3 := x3.below e2
        replace x_a := x_a.on e2
        replace x_b := x_b.on e2
        replace BB := also BB e2
        replace BU := also BU e2
        refine wpAnyH_ready (rs := [4, 5]) (by kernel_rfl) (by simp) (AllReadyH.cons (i := 4) rfl (fun Kc hK => ?_) (AllReadyH.cons (i := 5) rfl (fun Kc hK => ?_) AllReadyH.nil))
        · skip
          go_simp
          refine hK.out _ _ ⟨cell_on ((Below.refl _ _).alloc (Nat.le_refl _) _) hHeld.1, cell_on ((Below.refl _ _).alloc (Nat.le_refl _) _) hHeld.2.1, cell_on ((Below.refl _ _).alloc (Nat.le_refl _) _) hHeld.2.2.1, cell_on ((Below.refl _ _).alloc (Nat.le_refl _) _) hHeld.2.2.2.1, cell_on ((Below.refl _ _).alloc (Nat.le_refl _) _) hHeld.2.2.2.2.1, cell_on ((Below.refl _ _).alloc (Nat.le_refl _) _) hHeld.2.2.2.2.2.1, also hHeld.2.2.2.2.2.2 ((Below.refl _ _).alloc (Nat.le_refl _) _)⟩ (fun hHeld => ?_)
          clear hK Kc
          have y_p := b4_new X2 (.int .i64 0) (.slice none 0 0) (.int .i64 0) (.slice none 0 0) 34
          have e3 : Below X2.heap.size X2 (X2.alloc (.cells #[.int .i64 0, .slice none 0 0, .int .i64 0, .slice none 0 0] 34)) := (Below.refl _ _).alloc (Nat.le_refl _) _
          have lp : X2.heap.size < (X2.alloc (.cells #[.int .i64 0, .slice none 0 0, .int .i64 0, .slice none 0 0] 34)).heap.size := by simp
          have gp : U.heap.size ≤ X2.heap.size := BU.size
          have n_q1_0_p : NA X2.heap.size a1 m1 := q1.wi.ni.sl.na (Nat.le_refl _)
          have n_q1_1_p : NA X2.heap.size d1 k1 := q1.ni.sl.na (Nat.le_refl _)
          have n_q2_0_p : NA X2.heap.size a2 m2 := q2.wi.ni.sl.na (Nat.le_refl _)
          have n_q2_1_p : NA X2.heap.size d2 k2 := q2.ni.sl.na (Nat.le_refl _)
          have n_x3_0_p : NA X2.heap.size d3 l3 := x3.rn.hd.sl.na (Nat.le_refl _)
          have n_x3_1_p : NA X2.heap.size g3 h3 := x3.rd.hd.sl.na (Nat.le_refl _)
          have n_x4_0_p : NA X2.heap.size d4 l4 := x4.rn.hd.sl.na (Nat.le_refl _)
          have n_x4_1_p : NA X2.heap.size g4 h4 := x4.rd.hd.sl.na (Nat.le_refl _)
          generalize X2.alloc (.cells #[.int .i64 0, .slice none 0 0, .int .i64 0, .slice none 0 0] 34) = X3 at y_p e3 lp hHeld ⊢
          replace q1 := q1.below e3
          replace q2 := q2.below e3
          replace x3 := x3.below e3
          replace x4 := x4.below e3
          replace x_a := x_a.on e3
          replace x_b := x_b.on e3
          replace BB := also BB e3
          replace BU := also BU e3
          generalize X2.heap.size = p at y_p lp gp n_q1_0_p n_q1_1_p n_q2_0_p n_q2_1_p n_x3_0_p n_x3_1_p n_x4_0_p n_x4_1_p ⊢
          refine take_call (i := 5) rfl (by kernel_rfl) (fun Kc hK => ?_)
          go_simp
          refine hK.out _ _ ⟨cell_on ((Below.refl _ _).alloc (Nat.le_refl _) _) hHeld.1, cell_on ((Below.refl _ _).alloc (Nat.le_refl _) _) hHeld.2.1, cell_on ((Below.refl _ _).alloc (Nat.le_refl _) _) hHeld.2.2.1, cell_on ((Below.refl _ _).alloc (Nat.le_refl _) _) hHeld.2.2.2.1, cell_on ((Below.refl _ _).alloc (Nat.le_refl _) _) hHeld.2.2.2.2.1, cell_on ((Below.refl _ _).alloc (Nat.le_refl _) _) hHeld.2.2.2.2.2.1, also hHeld.2.2.2.2.2.2 ((Below.refl _ _).alloc (Nat.le_refl _) _)⟩ (fun hHeld => ?_)
          clear hK Kc
          have y_q := b4_new X3 (.int .i64 0) (.slice none 0 0) (.int .i64 0) (.slice none 0 0) 34
          have e4 : Below X3.heap.size X3 (X3.alloc (.cells #[.int .i64 0, .slice none 0 0, .int .i64 0, .slice none 0 0] 34)) := (Below.refl _ _).alloc (Nat.le_refl _) _
          have lq : X3.heap.size < (X3.alloc (.cells #[.int .i64 0, .slice none 0 0, .int .i64 0, .slice none 0 0] 34)).heap.size := by simp
          have gq : U.heap.size ≤ X3.heap.size := BU.size
          have n_q1_0_q : NA X3.heap.size a1 m1 := q1.wi.ni.sl.na (Nat.le_refl _)
          have n_q1_1_q : NA X3.heap.size d1 k1 := q1.ni.sl.na (Nat.le_refl _)
          have n_q2_0_q : NA X3.heap.size a2 m2 := q2.wi.ni.sl.na (Nat.le_refl _)
          have n_q2_1_q : NA X3.heap.size d2 k2 := q2.ni.sl.na (Nat.le_refl _)
          have n_x3_0_q : NA X3.heap.size d3 l3 := x3.rn.hd.sl.na (Nat.le_refl _)
          have n_x3_1_q : NA X3.heap.size g3 h3 := x3.rd.hd.sl.na (Nat.le_refl _)
          have n_x4_0_q : NA X3.heap.size d4 l4 := x4.rn.hd.sl.na (Nat.le_refl _)
          have n_x4_1_q : NA X3.heap.size g4 h4 := x4.rd.hd.sl.na (Nat.le_refl _)
          have pq : p ≠ X3.heap.size := Nat.ne_of_lt lp
          generalize X3.alloc (.cells #[.int .i64 0, .slice none 0 0, .int .i64 0, .slice none 0 0] 34) = X4 at y_q e4 lq hHeld ⊢
          replace q1 := q1.below e4
          replace q2 := q2.below e4
          replace x3 := x3.below e4
          replace x4 := x4.below e4
          replace x_a := x_a.on e4
          replace x_b := x_b.on e4
          replace BB := also BB e4
          replace BU := also BU e4
          replace y_p := y_p.on e4
          replace lp := Nat.lt_of_lt_of_le lp e4.size
          generalize X3.heap.size = q at y_q lq gq n_q1_0_q n_q1_1_q n_q2_0_q n_q2_1_q n_x3_0_q n_x3_1_q n_x4_0_q n_x4_1_q pq ⊢
          have ⟨c_p_0, c_p_1, c_p_2, c_p_3, c_p_4, c_p_5, c_p_6, c_p_7⟩ : B4 X4 p (.int .i64 0) (.slice none 0 0) (.int .i64 0) (.slice none 0 0) := y_p
          refine take_call (i := 6) rfl (by kernel_rfl) (fun Kc hK => ?_)
          go_simp
          refine hK.out _ _ ⟨cell_put4 hHeld.1 (by omega) _ _ _ _, cell_put4 hHeld.2.1 (by omega) _ _ _ _, cell_put4 hHeld.2.2.1 (by omega) _ _ _ _, cell_put4 hHeld.2.2.2.1 (by omega) _ _ _ _, cell_put4 hHeld.2.2.2.2.1 (by omega) _ _ _ _, cell_put4 hHeld.2.2.2.2.2.1 (by omega) _ _ _ _, below_put4 hHeld.2.2.2.2.2.2 (by omega) _ _ _ _⟩ (fun hHeld => ?_)
          clear hK Kc
          have ⟨c_q_0, c_q_1, c_q_2, c_q_3, c_q_4, c_q_5, c_q_6, c_q_7⟩ : B4 ((((X4.setCell ⟨p, 0, none⟩ (.int .i64 s3)).setCell ⟨p, 1, none⟩ (.slice d3 l3 c3)).setCell ⟨p, 2, none⟩ (.int .i64 t3)).setCell ⟨p, 3, none⟩ (.slice g3 h3 k3)) q (.int .i64 0) (.slice none 0 0) (.int .i64 0) (.slice none 0 0) := ((((y_q.put pq).put pq).put pq).put pq)
          refine take_call (i := 7) rfl (by kernel_rfl) (fun Kc hK => ?_)
          go_simp
          refine hK.out _ _ ⟨cell_put4 hHeld.1 (by omega) _ _ _ _, cell_put4 hHeld.2.1 (by omega) _ _ _ _, cell_put4 hHeld.2.2.1 (by omega) _ _ _ _, cell_put4 hHeld.2.2.2.1 (by omega) _ _ _ _, cell_put4 hHeld.2.2.2.2.1 (by omega) _ _ _ _, cell_put4 hHeld.2.2.2.2.2.1 (by omega) _ _ _ _, below_put4 hHeld.2.2.2.2.2.2 (by omega) _ _ _ _⟩ (fun hHeld => ?_)
          clear hK Kc
          refine wpAnyH_done (by kernel_rfl) ?_ _
          rw [HQQ.out]
          exact ⟨rfl, p, q, s3, d3, l3, c3, t3, g3, h3, k3, s4, d4, l4, c4, t4, g4, h4, k4, rfl, ((((((((q1.put n_q1_0_p n_q1_1_p 0 _).put n_q1_0_p n_q1_1_p 1 _).put n_q1_0_p n_q1_1_p 2 _).put n_q1_0_p n_q1_1_p 3 _).put n_q1_0_q n_q1_1_q 0 _).put n_q1_0_q n_q1_1_q 1 _).put n_q1_0_q n_q1_1_q 2 _).put n_q1_0_q n_q1_1_q 3 _), ((((((((q2.put n_q2_0_p n_q2_1_p 0 _).put n_q2_0_p n_q2_1_p 1 _).put n_q2_0_p n_q2_1_p 2 _).put n_q2_0_p n_q2_1_p 3 _).put n_q2_0_q n_q2_1_q 0 _).put n_q2_0_q n_q2_1_q 1 _).put n_q2_0_q n_q2_1_q 2 _).put n_q2_0_q n_q2_1_q 3 _), ((((((((x3.put n_x3_0_p n_x3_1_p 0 _).put n_x3_0_p n_x3_1_p 1 _).put n_x3_0_p n_x3_1_p 2 _).put n_x3_0_p n_x3_1_p 3 _).put n_x3_0_q n_x3_1_q 0 _).put n_x3_0_q n_x3_1_q 1 _).put n_x3_0_q n_x3_1_q 2 _).put n_x3_0_q n_x3_1_q 3 _), ((((((((x4.put n_x4_0_p n_x4_1_p 0 _).put n_x4_0_p n_x4_1_p 1 _).put n_x4_0_p n_x4_1_p 2 _).put n_x4_0_p n_x4_1_p 3 _).put n_x4_0_q n_x4_1_q 0 _).put n_x4_0_q n_x4_1_q 1 _).put n_x4_0_q n_x4_1_q 2 _).put n_x4_0_q n_x4_1_q 3 _), ((((((((x_a.put (by omega)).put (by omega)).put (by omega)).put (by omega)).put (by omega)).put (by omega)).put (by omega)).put (by omega)), ((((((((x_b.put (by omega)).put (by omega)).put (by omega)).put (by omega)).put (by omega)).put (by omega)).put (by omega)).put (by omega)), ((((y_p.set.put (fun e => pq e.symm)).put (fun e => pq e.symm)).put (fun e => pq e.symm)).put (fun e => pq e.symm)), ((((y_q.put pq).put pq).put pq).put pq).set, (below_put4 (below_put4 BB (by omega) _ _ _ _) (by omega) _ _ _ _), by have := BU.size; simp only [World.size_setCell]; omega, ⟨gp, by simp only [World.size_setCell]; omega⟩, ⟨gq, by simp only [World.size_setCell]; omega⟩⟩
        · skip
          go_simp
          refine hK.out _ _ ⟨cell_on ((Below.refl _ _).alloc (Nat.le_refl _) _) hHeld.1, cell_on ((Below.refl _ _).alloc (Nat.le_refl _) _) hHeld.2.1, cell_on ((Below.refl _ _).alloc (Nat.le_refl _) _) hHeld.2.2.1, cell_on ((Below.refl _ _).alloc (Nat.le_refl _) _) hHeld.2.2.2.1, cell_on ((Below.refl _ _).alloc (Nat.le_refl _) _) hHeld.2.2.2.2.1, cell_on ((Below.refl _ _).alloc (Nat.le_refl _) _) hHeld.2.2.2.2.2.1, also hHeld.2.2.2.2.2.2 ((Below.refl _ _).alloc (Nat.le_refl _) _)⟩ (fun hHeld => ?_)
          clear hK Kc
          have y_q := b4_new X2 (.int .i64 0) (.slice none 0 0) (.int .i64 0) (.slice none 0 0) 34
          have e5 : Below X2.heap.size X2 (X2.alloc (.cells #[.int .i64 0, .slice none 0 0, .int .i64 0, .slice none 0 0] 34)) := (Below.refl _ _).alloc (Nat.le_refl _) _
          have lq : X2.heap.size < (X2.alloc (.cells #[.int .i64 0, .slice none 0 0, .int .i64 0, .slice none 0 0] 34)).heap.size := by simp
          have gq : U.heap.size ≤ X2.heap.size := BU.size
          have n_q1_0_q : NA X2.heap.size a1 m1 := q1.wi.ni.sl.na (Nat.le_refl _)
          have n_q1_1_q : NA X2.heap.size d1 k1 := q1.ni.sl.na (Nat.le_refl _)
          have n_q2_0_q : NA X2.heap.size a2 m2 := q2.wi.ni.sl.na (Nat.le_refl _)
          have n_q2_1_q : NA X2.heap.size d2 k2 := q2.ni.sl.na (Nat.le_refl _)
          have n_x3_0_q : NA X2.heap.size d3 l3 := x3.rn.hd.sl.na (Nat.le_refl _)
          have n_x3_1_q : NA X2.heap.size g3 h3 := x3.rd.hd.sl.na (Nat.le_refl _)
          have n_x4_0_q : NA X2.heap.size d4 l4 := x4.rn.hd.sl.na (Nat.le_refl _)
          have n_x4_1_q : NA X2.heap.size g4 h4 := x4.rd.hd.sl.na (Nat.le_refl _)
          generalize X2.alloc (.cells #[.int .i64 0, .slice none 0 0, .int .i64 0, .slice none 0 0] 34) = X5 at y_q e5 lq hHeld ⊢
          replace q1 := q1.below e5
          replace q2 := q2.below e5
          replace x3 := x3.below e5
          replace x4 := x4.below e5
          replace x_a := x_a.on e5
          replace x_b := x_b.on e5
          replace BB := also BB e5
          replace BU := also BU e5
          generalize X2.heap.size = q at y_q lq gq n_q1_0_q n_q1_1_q n_q2_0_q n_q2_1_q n_x3_0_q n_x3_1_q n_x4_0_q n_x4_1_q ⊢
          refine take_call (i := 4) rfl (by kernel_rfl) (fun Kc hK => ?_)
          go_simp
          refine hK.out _ _ ⟨cell_on ((Below.refl _ _).alloc (Nat.le_refl _) _) hHeld.1, cell_on ((Below.refl _ _).alloc (Nat.le_refl _) _) hHeld.2.1, cell_on ((Below.refl _ _).alloc (Nat.le_refl _) _) hHeld.2.2.1, cell_on ((Below.refl _ _).alloc (Nat.le_refl _) _) hHeld.2.2.2.1, cell_on ((Below.refl _ _).alloc (Nat.le_refl _) _) hHeld.2.2.2.2.1, cell_on ((Below.refl _ _).alloc (Nat.le_refl _) _) hHeld.2.2.2.2.2.1, also hHeld.2.2.2.2.2.2 ((Below.refl _ _).alloc (Nat.le_refl _) _)⟩ (fun hHeld => ?_)
          clear hK Kc
          have y_p := b4_new X5 (.int .i64 0) (.slice none 0 0) (.int .i64 0) (.slice none 0 0) 34
          have e6 : Below X5.heap.size X5 (X5.alloc (.cells #[.int .i64 0, .slice none 0 0, .int .i64 0, .slice none 0 0] 34)) := (Below.refl _ _).alloc (Nat.le_refl _) _
          have lp : X5.heap.size < (X5.alloc (.cells #[.int .i64 0, .slice none 0 0, .int .i64 0, .slice none 0 0] 34)).heap.size := by simp
          have gp : U.heap.size ≤ X5.heap.size := BU.size
          have n_q1_0_p : NA X5.heap.size a1 m1 := q1.wi.ni.sl.na (Nat.le_refl _)
          have n_q1_1_p : NA X5.heap.size d1 k1 := q1.ni.sl.na (Nat.le_refl _)
          have n_q2_0_p : NA X5.heap.size a2 m2 := q2.wi.ni.sl.na (Nat.le_refl _)
          have n_q2_1_p : NA X5.heap.size d2 k2 := q2.ni.sl.na (Nat.le_refl _)
          have n_x3_0_p : NA X5.heap.size d3 l3 := x3.rn.hd.sl.na (Nat.le_refl _)
          have n_x3_1_p : NA X5.heap.size g3 h3 := x3.rd.hd.sl.na (Nat.le_refl _)
          have n_x4_0_p : NA X5.heap.size d4 l4 := x4.rn.hd.sl.na (Nat.le_refl _)
          have n_x4_1_p : NA X5.heap.size g4 h4 := x4.rd.hd.sl.na (Nat.le_refl _)
          have pq : X5.heap.size ≠ q := Nat.ne_of_gt lq
          generalize X5.alloc (.cells #[.int .i64 0, .slice none 0 0, .int .i64 0, .slice none 0 0] 34) = X6 at y_p e6 lp hHeld ⊢
          replace q1 := q1.below e6
          replace q2 := q2.below e6
          replace x3 := x3.below e6
          replace x4 := x4.below e6
          replace x_a := x_a.on e6
          replace x_b := x_b.on e6
          replace BB := also BB e6
          replace BU := also BU e6
          replace y_q := y_q.on e6
          replace lq := Nat.lt_of_lt_of_le lq e6.size
          generalize X5.heap.size = p at y_p lp gp n_q1_0_p n_q1_1_p n_q2_0_p n_q2_1_p n_x3_0_p n_x3_1_p n_x4_0_p n_x4_1_p pq ⊢
          have ⟨c_p_0, c_p_1, c_p_2, c_p_3, c_p_4, c_p_5, c_p_6, c_p_7⟩ : B4 X6 p (.int .i64 0) (.slice none 0 0) (.int .i64 0) (.slice none 0 0) := y_p
          refine take_call (i := 6) rfl (by kernel_rfl) (fun Kc hK => ?_)
          go_simp
          refine hK.out _ _ ⟨cell_put4 hHeld.1 (by omega) _ _ _ _, cell_put4 hHeld.2.1 (by omega) _ _ _ _, cell_put4 hHeld.2.2.1 (by omega) _ _ _ _, cell_put4 hHeld.2.2.2.1 (by omega) _ _ _ _, cell_put4 hHeld.2.2.2.2.1 (by omega) _ _ _ _, cell_put4 hHeld.2.2.2.2.2.1 (by omega) _ _ _ _, below_put4 hHeld.2.2.2.2.2.2 (by omega) _ _ _ _⟩ (fun hHeld => ?_)
          clear hK Kc
          have ⟨c_q_0, c_q_1, c_q_2, c_q_3, c_q_4, c_q_5, c_q_6, c_q_7⟩ : B4 ((((X6.setCell ⟨p, 0, none⟩ (.int .i64 s3)).setCell ⟨p, 1, none⟩ (.slice d3 l3 c3)).setCell ⟨p, 2, none⟩ (.int .i64 t3)).setCell ⟨p, 3, none⟩ (.slice g3 h3 k3)) q (.int .i64 0) (.slice none 0 0) (.int .i64 0) (.slice none 0 0) := ((((y_q.put pq).put pq).put pq).put pq)
          refine take_call (i := 7) rfl (by kernel_rfl) (fun Kc hK => ?_)
          go_simp
          refine hK.out _ _ ⟨cell_put4 hHeld.1 (by omega) _ _ _ _, cell_put4 hHeld.2.1 (by omega) _ _ _ _, cell_put4 hHeld.2.2.1 (by omega) _ _ _ _, cell_put4 hHeld.2.2.2.1 (by omega) _ _ _ _, cell_put4 hHeld.2.2.2.2.1 (by omega) _ _ _ _, cell_put4 hHeld.2.2.2.2.2.1 (by omega) _ _ _ _, below_put4 hHeld.2.2.2.2.2.2 (by omega) _ _ _ _⟩ (fun hHeld => ?_)
          clear hK Kc
          refine wpAnyH_done (by kernel_rfl) ?_ _
          rw [HQQ.out]
          exact ⟨rfl, p, q, s3, d3, l3, c3, t3, g3, h3, k3, s4, d4, l4, c4, t4, g4, h4, k4, rfl, ((((((((q1.put n_q1_0_p n_q1_1_p 0 _).put n_q1_0_p n_q1_1_p 1 _).put n_q1_0_p n_q1_1_p 2 _).put n_q1_0_p n_q1_1_p 3 _).put n_q1_0_q n_q1_1_q 0 _).put n_q1_0_q n_q1_1_q 1 _).put n_q1_0_q n_q1_1_q 2 _).put n_q1_0_q n_q1_1_q 3 _), ((((((((q2.put n_q2_0_p n_q2_1_p 0 _).put n_q2_0_p n_q2_1_p 1 _).put n_q2_0_p n_q2_1_p 2 _).put n_q2_0_p n_q2_1_p 3 _).put n_q2_0_q n_q2_1_q 0 _).put n_q2_0_q n_q2_1_q 1 _).put n_q2_0_q n_q2_1_q 2 _).put n_q2_0_q n_q2_1_q 3 _), ((((((((x3.put n_x3_0_p n_x3_1_p 0 _).put n_x3_0_p n_x3_1_p 1 _).put n_x3_0_p n_x3_1_p 2 _).put n_x3_0_p n_x3_1_p 3 _).put n_x3_0_q n_x3_1_q 0 _).put n_x3_0_q n_x3_1_q 1 _).put n_x3_0_q n_x3_1_q 2 _).put n_x3_0_q n_x3_1_q 3 _), ((((((((x4.put n_x4_0_p n_x4_1_p 0 _).put n_x4_0_p n_x4_1_p 1 _).put n_x4_0_p n_x4_1_p 2 _).put n_x4_0_p n_x4_1_p 3 _).put n_x4_0_q n_x4_1_q 0 _).put n_x4_0_q n_x4_1_q 1 _).put n_x4_0_q n_x4_1_q 2 _).put n_x4_0_q n_x4_1_q 3 _), ((((((((x_a.put (by omega)).put (by omega)).put (by omega)).put (by omega)).put (by omega)).put (by omega)).put (by omega)).put (by omega)), ((((((((x_b.put (by omega)).put (by omega)).put (by omega)).put (by omega)).put (by omega)).put (by omega)).put (by omega)).put (by omega)), ((((y_p.set.put (fun e => pq e.symm)).put (fun e => pq e.symm)).put (fun e => pq e.symm)).put (fun e => pq e.symm)), ((((y_q.put pq).put pq).put pq).put pq).set, (below_put4 (below_put4 BB (by omega) _ _ _ _) (by omega) _ _ _ _), by have := BU.size; simp only [World.size_setCell]; omega, ⟨gp, by simp only [World.size_setCell]; omega⟩, ⟨gq, by simp only [World.size_setCell]; omega⟩⟩
      · skip
        go_simp
        refine hK.out _ _ ⟨cell_on ((Below.refl _ _).alloc (Nat.le_refl _) _) hHeld.1, cell_on ((Below.refl _ _).alloc (Nat.le_refl _) _) hHeld.2.1, cell_on ((Below.refl _ _).alloc (Nat.le_refl _) _) hHeld.2.2.1, cell_on ((Below.refl _ _).alloc (Nat.le_refl _) _) hHeld.2.2.2.1, cell_on ((Below.refl _ _).alloc (Nat.le_refl _) _) hHeld.2.2.2.2.1, cell_on ((Below.refl _ _).alloc (Nat.le_refl _) _) hHeld.2.2.2.2.2.1, also hHeld.2.2.2.2.2.2 ((Below.refl _ _).alloc (Nat.le_refl _) _)⟩ (fun hHeld => ?_)
        clear hK Kc
        have y_p := b4_new X1 (.int .i64 0) (.slice none 0 0) (.int .i64 0) (.slice none 0 0) 34
        have e7 : Below X1.heap.size X1 (X1.alloc (.cells #[.int .i64 0, .slice none 0 0, .int .i64 0, .slice none 0 0] 34)) := (Below.refl _ _).alloc (Nat.le_refl _) _
        have lp : X1.heap.size < (X1.alloc (.cells #[.int .i64 0, .slice none 0 0, .int .i64 0, .slice none 0 0] 34)).heap.size := by simp
        have gp : U.heap.size ≤ X1.heap.size := BU.size
        have n_q1_0_p : NA X1.heap.size a1 m1 := q1.wi.ni.sl.na (Nat.le_refl _)
        have n_q1_1_p : NA X1.heap.size d1 k1 := q1.ni.sl.na (Nat.le_refl _)
        have n_q2_0_p : NA X1.heap.size a2 m2 := q2.wi.ni.sl.na (Nat.le_refl _)
        have n_q2_1_p : NA X1.heap.size d2 k2 := q2.ni.sl.na (Nat.le_refl _)
        have n_x3_0_p : NA X1.heap.size d3 l3 := x3.rn.hd.sl.na (Nat.le_refl _)
        have n_x3_1_p : NA X1.heap.size g3 h3 := x3.rd.hd.sl.na (Nat.le_refl _)
        generalize X1.alloc (.cells #[.int .i64 0, .slice none 0 0, .int .i64 0, .slice none 0 0] 34) = X7 at y_p e7 lp hHeld ⊢
        replace q1 := q1.below e7
        replace q2 := q2.below e7
        replace x3 := x3.below e7
        replace x_a := x_a.on e7
        replace x_b := x_b.on e7
        replace BB := also BB e7
        replace BU := also BU e7
        generalize X1.heap.size = p at y_p lp gp n_q1_0_p n_q1_1_p n_q2_0_p n_q2_1_p n_x3_0_p n_x3_1_p ⊢
        refine wpAnyH_ready (rs := [3, 5]) (by kernel_rfl) (by simp) (AllReadyH.cons (i := 3) rfl (fun Kc hK => ?_) (AllReadyH.cons (i := 5) rfl (fun Kc hK => ?_) AllReadyH.nil))
        · skip
          go_simp
          (go_at_call 8; refine (rqOf m a2 m2 c2 d2 k2 g2 Y B 6 _ q2).mono ?_; rintro e X8 ⟨s4, d4, l4, c4, t4, g4, h4, k4, rfl, x4, r4, e8⟩)
          refine hK.out _ _ ⟨cell_on e8 hHeld.1, cell_on e8 hHeld.2.1, cell_on e8 hHeld.2.2.1, cell_on e8 hHeld.2.2.2.1, cell_on e8 hHeld.2.2.2.2.1, cell_on e8 hHeld.2.2.2.2.2.1, also hHeld.2.2.2.2.2.2 e8⟩ (fun hHeld => ?_)
          clear hK Kc
          have n_x4_0_p : NA p d4 l4 := (r4 p lp trivial).1
          have n_x4_1_p : NA p g4 h4 := (r4 p lp trivial).2
          replace q1 := q1.below e8
          replace q2 := q2.below e8
          replace x3 := x3.below e8
          replace x_a := x_a.on e8
          replace x_b := x_b.on e8
          replace BB := also BB e8
          replace BU := also BU e8
          replace y_p := y_p.on e8
          replace lp := Nat.lt_of_lt_of_le lp e8.size
          refine take_call (i := 5) rfl (by kernel_rfl) (fun Kc hK => ?_)
          go_simp
          refine hK.out _ _ ⟨cell_on ((Below.refl _ _).alloc (Nat.le_refl _) _) hHeld.1, cell_on ((Below.refl _ _).alloc (Nat.le_refl _) _) hHeld.2.1, cell_on ((Below.refl _ _).alloc (Nat.le_refl _) _) hHeld.2.2.1, cell_on ((Below.refl _ _).alloc (Nat.le_refl _) _) hHeld.2.2.2.1, cell_on ((Below.refl _ _).alloc (Nat.le_refl _) _) hHeld.2.2.2.2.1, cell_on ((Below.refl _ _).alloc (Nat.le_refl _) _) hHeld.2.2.2.2.2.1, also hHeld.2.2.2.2.2.2 ((Below.refl _ _).alloc (Nat.le_refl _) _)⟩ (fun hHeld => ?_)
          clear hK Kc
          have y_q := b4_new X8 (.int .i64 0) (.slice none 0 0) (.int .i64 0) (.slice none 0 0) 34
          have e9 : Below X8.heap.size X8 (X8.alloc (.cells #[.int .i64 0, .slice none 0 0, .int .i64 0, .slice none 0 0] 34)) := (Below.refl _ _).alloc (Nat.le_refl _) _
          have lq : X8.heap.size < (X8.alloc (.cells #[.int .i64 0, .slice none 0 0, .int .i64 0, .slice none 0 0] 34)).heap.size := by simp
          have gq : U.heap.size ≤ X8.heap.size := BU.size
          have n_q1_0_q : NA X8.heap.size a1 m1 := q1.wi.ni.sl.na (Nat.le_refl _)
          have n_q1_1_q : NA X8.heap.size d1 k1 := q1.ni.sl.na (Nat.le_refl _)
          have n_q2_0_q : NA X8.heap.size a2 m2 := q2.wi.ni.sl.na (Nat.le_refl _)
          have n_q2_1_q : NA X8.heap.size d2 k2 := q2.ni.sl.na (Nat.le_refl _)
          have n_x3_0_q : NA X8.heap.size d3 l3 := x3.rn.hd.sl.na (Nat.le_refl _)
          have n_x3_1_q : NA X8.heap.size g3 h3 := x3.rd.hd.sl.na (Nat.le_refl _)
          have n_x4_0_q : NA X8.heap.size d4 l4 := x4.rn.hd.sl.na (Nat.le_refl _)
          have n_x4_1_q : NA X8.heap.size g4 h4 := x4.rd.hd.sl.na (Nat.le_refl _)
          have pq : p ≠ X8.heap.size := Nat.ne_of_lt lp
          generalize X8.alloc (.cells #[.int .i64 0, .slice none 0 0, .int .i64 0, .slice none 0 0] 34) = X9 at y_q e9 lq hHeld ⊢
          replace q1 := q1.below e9
          replace q2 := q2.below e9
          replace x3 := x3.below e9
          replace x4 := x4.below e9
          replace x_a := x_a.on e9
          replace x_b := x_b.on e9
          replace BB := also BB e9
          replace BU := also BU e9
          replace y_p := y_p.on e9
          replace lp := Nat.lt_of_lt_of_le lp e9.size
          generalize X8.heap.size = q at y_q lq gq n_q1_0_q n_q1_1_q n_q2_0_q n_q2_1_q n_x3_0_q n_x3_1_q n_x4_0_q n_x4_1_q pq ⊢
          have ⟨c_p_0, c_p_1, c_p_2, c_p_3, c_p_4, c_p_5, c_p_6, c_p_7⟩ : B4 X9 p (.int .i64 0) (.slice none 0 0) (.int .i64 0) (.slice none 0 0) := y_p
          refine take_call (i := 6) rfl (by kernel_rfl) (fun Kc hK => ?_)
          go_simp
          refine hK.out _ _ ⟨cell_put4 hHeld.1 (by omega) _ _ _ _, cell_put4 hHeld.2.1 (by omega) _ _ _ _, cell_put4 hHeld.2.2.1 (by omega) _ _ _ _, cell_put4 hHeld.2.2.2.1 (by omega) _ _ _ _, cell_put4 hHeld.2.2.2.2.1 (by omega) _ _ _ _, cell_put4 hHeld.2.2.2.2.2.1 (by omega) _ _ _ _, below_put4 hHeld.2.2.2.2.2.2 (by omega) _ _ _ _⟩ (fun hHeld => ?_)
          clear hK Kc
          have ⟨c_q_0, c_q_1, c_q_2, c_q_3, c_q_4, c_q_5, c_q_6, c_q_7⟩ : B4 ((((X9.setCell ⟨p, 0, none⟩ (.int .i64 s3)).setCell ⟨p, 1, none⟩ (.slice d3 l3 c3)).setCell ⟨p, 2, none⟩ (.int .i64 t3)).setCell ⟨p, 3, none⟩ (.slice g3 h3 k3)) q (.int .i64 0) (.slice none 0 0) (.int .i64 0) (.slice none 0 0) := ((((y_q.put pq).put pq).put pq).put pq)
          refine take_call (i := 7) rfl (by kernel_rfl) (fun Kc hK => ?_)
          go_simp
          refine hK.out _ _ ⟨cell_put4 hHeld.1 (by omega) _ _ _ _, cell_put4 hHeld.2.1 (by omega) _ _ _ _, cell_put4 hHeld.2.2.1 (by omega) _ _ _ _, cell_put4 hHeld.2.2.2.1 (by omega) _ _ _ _, cell_put4 hHeld.2.2.2.2.1 (by omega) _ _ _ _, cell_put4 hHeld.2.2.2.2.2.1 (by omega) _ _ _ _, below_put4 hHeld.2.2.2.2.2.2 (by omega) _ _ _ _⟩ (fun hHeld => ?_)
          clear hK Kc
          refine wpAnyH_done (by kernel_rfl) ?_ _
          rw [HQQ.out]
          exact ⟨rfl, p, q, s3, d3, l3, c3, t3, g3, h3, k3, s4, d4, l4, c4, t4, g4, h4, k4, rfl, ((((((((q1.put n_q1_0_p n_q1_1_p 0 _).put n_q1_0_p n_q1_1_p 1 _).put n_q1_0_p n_q1_1_p 2 _).put n_q1_0_p n_q1_1_p 3 _).put n_q1_0_q n_q1_1_q 0 _).put n_q1_0_q n_q1_1_q 1 _).put n_q1_0_q n_q1_1_q 2 _).put n_q1_0_q n_q1_1_q 3 _), ((((((((q2.put n_q2_0_p n_q2_1_p 0 _).put n_q2_0_p n_q2_1_p 1 _).put n_q2_0_p n_q2_1_p 2 _).put n_q2_0_p n_q2_1_p 3 _).put n_q2_0_q n_q2_1_q 0 _).put n_q2_0_q n_q2_1_q 1 _).put n_q2_0_q n_q2_1_q 2 _).put n_q2_0_q n_q2_1_q 3 _), ((((((((x3.put n_x3_0_p n_x3_1_p 0 _).put n_x3_0_p n_x3_1_p 1 _).put n_x3_0_p n_x3_1_p 2 _).put n_x3_0_p n_x3_1_p 3 _).put n_x3_0_q n_x3_1_q 0 _).put n_x3_0_q n_x3_1_q 1 _).put n_x3_0_q n_x3_1_q 2 _).put n_x3_0_q n_x3_1_q 3 _), ((((((((x4.put n_x4_0_p n_x4_1_p 0 _).put n_x4_0_p n_x4_1_p 1 _).put n_x4_0_p n_x4_1_p 2 _).put n_x4_0_p n_x4_1_p 3 _).put n_x4_0_q n_x4_1_q 0 _).put n_x4_0_q n_x4_1_q 1 _).put n_x4_0_q n_x4_1_q 2 _).put n_x4_0_q n_x4_1_q 3 _), ((((((((x_a.put (by omega)).put (by omega)).put (by omega)).put (by omega)).put (by omega)).put (by omega)).put (by omega)).put (by omega)), ((((((((x_b.put (by omega)).put (by omega)).put (by omega)).put (by omega)).put (by omega)).put (by omega)).put (by omega)).put (by omega)), ((((y_p.set.put (fun e => pq e.symm)).put (fun e => pq e.symm)).put (fun e => pq e.symm)).put (fun e => pq e.symm)), ((((y_q.put pq).put pq).put pq).put pq).set, (below_put4 (below_put4 BB (by omega) _ _ _ _) (by omega) _ _ _ _), by have := BU.size; simp only [World.size_setCell]; omega, ⟨gp, by simp only [World.size_setCell]; omega⟩, ⟨gq, by simp only [World.size_setCell]; omega⟩⟩
        · skip
          go_simp
          refine hK.out _ _ ⟨cell_on ((Below.refl _ _).alloc (Nat.le_refl _) _) hHeld.1, cell_on ((Below.refl _ _).alloc (Nat.le_refl _) _) hHeld.2.1, cell_on ((Below.refl _ _).alloc (Nat.le_refl _) _) hHeld.2.2.1, cell_on ((Below.refl _ _).alloc (Nat.le_refl _) _) hHeld.2.2.2.1, cell_on ((Below.refl _ _).alloc (Nat.le_refl _) _) hHeld.2.2.2.2.1, cell_on ((Below.refl _ _).alloc (Nat.le_refl _) _) hHeld.2.2.2.2.2.1, also hHeld.2.2.2.2.2.2 ((Below.refl _ _).alloc (Nat.le_refl _) _)⟩ (fun hHeld => ?_)
          clear hK Kc
          have y_q := b4_new X7 (.int .i64 0) (.slice none 0 0) (.int .i64 0) (.slice none 0 0) 34
          have e10 : Below X7.heap.size X7 (X7.alloc (.cells #[.int .i64 0, .slice none 0 0, .int .i64 0, .slice none 0 0] 34)) := (Below.refl _ _).alloc (Nat.le_refl _) _
          have lq : X7.heap.size < (X7.alloc (.cells #[.int .i64 0, .slice none 0 0, .int .i64 0, .slice none 0 0] 34)).heap.size := by simp
          have gq : U.heap.size ≤ X7.heap.size := BU.size
          have n_q1_0_q : NA X7.heap.size a1 m1 := q1.wi.ni.sl.na (Nat.le_refl _)
          have n_q1_1_q : NA X7.heap.size d1 k1 := q1.ni.sl.na (Nat.le_refl _)
          have n_q2_0_q : NA X7.heap.size a2 m2 := q2.wi.ni.sl.na (Nat.le_refl _)
          have n_q2_1_q : NA X7.heap.size d2 k2 := q2.ni.sl.na (Nat.le_refl _)
          have n_x3_0_q : NA X7.heap.size d3 l3 := x3.rn.hd.sl.na (Nat.le_refl _)
          have n_x3_1_q : NA X7.heap.size g3 h3 := x3.rd.hd.sl.na (Nat.le_refl _)
          have pq : p ≠ X7.heap.size := Nat.ne_of_lt lp
          generalize X7.alloc (.cells #[.int .i64 0, .slice none 0 0, .int .i64 0, .slice none 0 0] 34) = X10 at y_q e10 lq hHeld ⊢
          replace q1 := q1.below e10
          replace q2 := q2.below e10
          replace x3 := x3.below e10
          replace x_a := x_a.on e10
          replace x_b := x_b.on e10
          replace BB := also BB e10
          replace BU := also BU e10
          replace y_p := y_p.on e10
          replace lp := Nat.lt_of_lt_of_le lp e10.size
          generalize X7.heap.size = q at y_q lq gq n_q1_0_q n_q1_1_q n_q2_0_q n_q2_1_q n_x3_0_q n_x3_1_q pq ⊢
          refine take_call (i := 3) rfl (by kernel_rfl) (fun Kc hK => ?_)
          go_simp
          (go_at_call 8; refine (rqOf m a2 m2 c2 d2 k2 g2 Y B 6 _ q2).mono ?_; rintro e X11 ⟨s4, d4, l4, c4, t4, g4, h4, k4, rfl, x4, r4, e11⟩)
          refine hK.out _ _ ⟨cell_on e11 hHeld.1, cell_on e11 hHeld.2.1, cell_on e11 hHeld.2.2.1, cell_on e11 hHeld.2.2.2.1, cell_on e11 hHeld.2.2.2.2.1, cell_on e11 hHeld.2.2.2.2.2.1, also hHeld.2.2.2.2.2.2 e11⟩ (fun hHeld => ?_)
          clear hK Kc
          have n_x4_0_p : NA p d4 l4 := (r4 p lp trivial).1
          have n_x4_0_q : NA q d4 l4 := (r4 q lq trivial).1
          have n_x4_1_p : NA p g4 h4 := (r4 p lp trivial).2
          have n_x4_1_q : NA q g4 h4 := (r4 q lq trivial).2
          replace q1 := q1.below e11
          replace q2 := q2.below e11
          replace x3 := x3.below e11
          replace x_a := x_a.on e11
          replace x_b := x_b.on e11
          replace BB := also BB e11
          replace BU := also BU e11
          replace y_p := y_p.on e11
          replace lp := Nat.lt_of_lt_of_le lp e11.size
          replace y_q := y_q.on e11
          replace lq := Nat.lt_of_lt_of_le lq e11.size
          have ⟨c_p_0, c_p_1, c_p_2, c_p_3, c_p_4, c_p_5, c_p_6, c_p_7⟩ : B4 X11 p (.int .i64 0) (.slice none 0 0) (.int .i64 0) (.slice none 0 0) := y_p
          refine take_call (i := 6) rfl (by kernel_rfl) (fun Kc hK => ?_)
          go_simp
          refine hK.out _ _ ⟨cell_put4 hHeld.1 (by omega) _ _ _ _, cell_put4 hHeld.2.1 (by omega) _ _ _ _, cell_put4 hHeld.2.2.1 (by omega) _ _ _ _, cell_put4 hHeld.2.2.2.1 (by omega) _ _ _ _, cell_put4 hHeld.2.2.2.2.1 (by omega) _ _ _ _, cell_put4 hHeld.2.2.2.2.2.1 (by omega) _ _ _ _, below_put4 hHeld.2.2.2.2.2.2 (by omega) _ _ _ _⟩ (fun hHeld => ?_)
          clear hK Kc
          have ⟨c_q_0, c_q_1, c_q_2, c_q_3, c_q_4, c_q_5, c_q_6, c_q_7⟩ : B4 ((((X11.setCell ⟨p, 0, none⟩ (.int .i64 s3)).setCell ⟨p, 1, none⟩ (.slice d3 l3 c3)).setCell ⟨p, 2, none⟩ (.int .i64 t3)).setCell ⟨p, 3, none⟩ (.slice g3 h3 k3)) q (.int .i64 0) (.slice none 0 0) (.int .i64 0) (.slice none 0 0) := ((((y_q.put pq).put pq).put pq).put pq)
          refine take_call (i := 7) rfl (by kernel_rfl) (fun Kc hK => ?_)
          go_simp
          refine hK.out _ _ ⟨cell_put4 hHeld.1 (by omega) _ _ _ _, cell_put4 hHeld.2.1 (by omega) _ _ _ _, cell_put4 hHeld.2.2.1 (by omega) _ _ _ _, cell_put4 hHeld.2.2.2.1 (by omega) _ _ _ _, cell_put4 hHeld.2.2.2.2.1 (by omega) _ _ _ _, cell_put4 hHeld.2.2.2.2.2.1 (by omega) _ _ _ _, below_put4 hHeld.2.2.2.2.2.2 (by omega) _ _ _ _⟩ (fun hHeld => ?_)
          clear hK Kc
          refine wpAnyH_done (by kernel_rfl) ?_ _
          rw [HQQ.out]
          exact ⟨rfl, p, q, s3, d3, l3, c3, t3, g3, h3, k3, s4, d4, l4, c4, t4, g4, h4, k4, rfl, ((((((((q1.put n_q1_0_p n_q1_1_p 0 _).put n_q1_0_p n_q1_1_p 1 _).put n_q1_0_p n_q1_1_p 2 _).put n_q1_0_p n_q1_1_p 3 _).put n_q1_0_q n_q1_1_q 0 _).put n_q1_0_q n_q1_1_q 1 _).put n_q1_0_q n_q1_1_q 2 _).put n_q1_0_q n_q1_1_q 3 _), ((((((((q2.put n_q2_0_p n_q2_1_p 0 _).put n_q2_0_p n_q2_1_p 1 _).put n_q2_0_p n_q2_1_p 2 _).put n_q2_0_p n_q2_1_p 3 _).put n_q2_0_q n_q2_1_q 0 _).put n_q2_0_q n_q2_1_q 1 _).put n_q2_0_q n_q2_1_q 2 _).put n_q2_0_q n_q2_1_q 3 _), ((((((((x3.put n_x3_0_p n_x3_1_p 0 _).put n_x3_0_p n_x3_1_p 1 _).put n_x3_0_p n_x3_1_p 2 _).put n_x3_0_p n_x3_1_p 3 _).put n_x3_0_q n_x3_1_q 0 _).put n_x3_0_q n_x3_1_q 1 _).put n_x3_0_q n_x3_1_q 2 _).put n_x3_0_q n_x3_1_q 3 _), ((((((((x4.put n_x4_0_p n_x4_1_p 0 _).put n_x4_0_p n_x4_1_p 1 _).put n_x4_0_p n_x4_1_p 2 _).put n_x4_0_p n_x4_1_p 3 _).put n_x4_0_q n_x4_1_q 0 _).put n_x4_0_q n_x4_1_q 1 _).put n_x4_0_q n_x4_1_q 2 _).put n_x4_0_q n_x4_1_q 3 _), ((((((((x_a.put (by omega)).put (by omega)).put (by omega)).put (by omega)).put (by omega)).put (by omega)).put (by omega)).put (by omega)), ((((((((x_b.put (by omega)).put (by omega)).put (by omega)).put (by omega)).put (by omega)).put (by omega)).put (by omega)).put (by omega)), ((((y_p.set.put (fun e => pq e.symm)).put (fun e => pq e.symm)).put (fun e => pq e.symm)).put (fun e => pq e.symm)), ((((y_q.put pq).put pq).put pq).put pq).set, (below_put4 (below_put4 BB (by omega) _ _ _ _) (by omega) _ _ _ _), by have := BU.size; simp only [World.size_setCell]; omega, ⟨gp, by simp only [World.size_setCell]; omega⟩, ⟨gq, by simp only [World.size_setCell]; omega⟩⟩
      · skip
        go_simp
        refine hK.out _ _ ⟨cell_on ((Below.refl _ _).alloc (Nat.le_refl _) _) hHeld.1, cell_on ((Below.refl _ _).alloc (Nat.le_refl _) _) hHeld.2.1, cell_on ((Below.refl _ _).alloc (Nat.le_refl _) _) hHeld.2.2.1, cell_on ((Below.refl _ _).alloc (Nat.le_refl _) _) hHeld.2.2.2.1, cell_on ((Below.refl _ _).alloc (Nat.le_refl _) _) hHeld.2.2.2.2.1, cell_on ((Below.refl _ _).alloc (Nat.le_refl _) _) hHeld.2.2.2.2.2.1, also hHeld.2.2.2.2.2.2 ((Below.refl _ _).alloc (Nat.le_refl _) _)⟩ (fun hHeld => ?_)
        clear hK Kc
        have y_q := b4_new X1 (.int .i64 0) (.slice none 0 0) (.int .i64 0) (.slice none 0 0) 34
        have e12 : Below X1.heap.size X1 (X1.alloc (.cells #[.int .i64 0, .slice none 0 0, .int .i64 0, .slice none 0 0] 34)) := (Below.refl _ _).alloc (Nat.le_refl _) _
        have lq : X1.heap.size < (X1.alloc (.cells #[.int .i64 0, .slice none 0 0, .int .i64 0, .slice none 0 0] 34)).heap.size := by simp
        have gq : U.heap.size ≤ X1.heap.size := BU.size
        have n_q1_0_q : NA X1.heap.size a1 m1 := q1.wi.ni.sl.na (Nat.le_refl _)
        have n_q1_1_q : NA X1.heap.size d1 k1 := q1.ni.sl.na (Nat.le_refl _)
        have n_q2_0_q : NA X1.heap.size a2 m2 := q2.wi.ni.sl.na (Nat.le_refl _)
        have n_q2_1_q : NA X1.heap.size d2 k2 := q2.ni.sl.na (Nat.le_refl _)
        have n_x3_0_q : NA X1.heap.size d3 l3 := x3.rn.hd.sl.na (Nat.le_refl _)
        have n_x3_1_q : NA X1.heap.size g3 h3 := x3.rd.hd.sl.na (Nat.le_refl _)
        generalize X1.alloc (.cells #[.int .i64 0, .slice none 0 0, .int .i64 0, .slice none 0 0] 34) = X12 at y_q e12 lq hHeld ⊢
        replace q1 := q1.below e12
        replace q2 := q2.below e12
        replace x3 := x3.below e12
        replace x_a := x_a.on e12
        replace x_b := x_b.on e12
        replace BB := also BB e12
        replace BU := also BU e12
        generalize X1.heap.size = q at y_q lq gq n_q1_0_q n_q1_1_q n_q2_0_q n_q2_1_q n_x3_0_q n_x3_1_q ⊢
        refine wpAnyH_ready (rs := [3, 4]) (by kernel_rfl) (by simp) (AllReadyH.cons (i := 3) rfl (fun Kc hK => ?_) (AllReadyH.cons (i := 4) rfl (fun Kc hK => ?_) AllReadyH.nil))
        · skip
          go_simp
          (go_at_call 8; refine (rqOf m a2 m2 c2 d2 k2 g2 Y B 6 _ q2).mono ?_; rintro e X13 ⟨s4, d4, l4, c4, t4, g4, h4, k4, rfl, x4, r4, e13⟩)
          refine hK.out _ _ ⟨cell_on e13 hHeld.1, cell_on e13 hHeld.2.1, cell_on e13 hHeld.2.2.1, cell_on e13 hHeld.2.2.2.1, cell_on e13 hHeld.2.2.2.2.1, cell_on e13 hHeld.2.2.2.2.2.1, also hHeld.2.2.2.2.2.2 e13⟩ (fun hHeld => ?_)
          clear hK Kc
          have n_x4_0_q : NA q d4 l4 := (r4 q lq trivial).1
          have n_x4_1_q : NA q g4 h4 := (r4 q lq trivial).2
          replace q1 := q1.below e13
          replace q2 := q2.below e13
          replace x3 := x3.below e13
          replace x_a := x_a.on e13
          replace x_b := x_b.on e13
          replace BB := also BB e13
          replace BU := also BU e13
          replace y_q := y_q.on e13
          replace lq := Nat.lt_of_lt_of_le lq e13.size
          refine take_call (i := 4) rfl (by kernel_rfl) (fun Kc hK => ?_)
          go_simp
          refine hK.out _ _ ⟨cell_on ((Below.refl _ _).alloc (Nat.le_refl _) _) hHeld.1, cell_on ((Below.refl _ _).alloc (Nat.le_refl _) _) hHeld.2.1, cell_on ((Below.refl _ _).alloc (Nat.le_refl _) _) hHeld.2.2.1, cell_on ((Below.refl _ _).alloc (Nat.le_refl _) _) hHeld.2.2.2.1, cell_on ((Below.refl _ _).alloc (Nat.le_refl _) _) hHeld.2.2.2.2.1, cell_on ((Below.refl _ _).alloc (Nat.le_refl _) _) hHeld.2.2.2.2.2.1, also hHeld.2.2.2.2.2.2 ((Below.refl _ _).alloc (Nat.le_refl _) _)⟩ (fun hHeld => ?_)
          clear hK Kc
          have y_p := b4_new X13 (.int .i64 0) (.slice none 0 0) (.int .i64 0) (.slice none 0 0) 34
          have e14 : Below X13.heap.size X13 (X13.alloc (.cells #[.int .i64 0, .slice none 0 0, .int .i64 0, .slice none 0 0] 34)) := (Below.refl _ _).alloc (Nat.le_refl _) _
          have lp : X13.heap.size < (X13.alloc (.cells #[.int .i64 0, .slice none 0 0, .int .i64 0, .slice none 0 0] 34)).heap.size := by simp
          have gp : U.heap.size ≤ X13.heap.size := BU.size
          have n_q1_0_p : NA X13.heap.size a1 m1 := q1.wi.ni.sl.na (Nat.le_refl _)
          have n_q1_1_p : NA X13.heap.size d1 k1 := q1.ni.sl.na (Nat.le_refl _)
          have n_q2_0_p : NA X13.heap.size a2 m2 := q2.wi.ni.sl.na (Nat.le_refl _)
          have n_q2_1_p : NA X13.heap.size d2 k2 := q2.ni.sl.na (Nat.le_refl _)
          have n_x3_0_p : NA X13.heap.size d3 l3 := x3.rn.hd.sl.na (Nat.le_refl _)
          have n_x3_1_p : NA X13.heap.size g3 h3 := x3.rd.hd.sl.na (Nat.le_refl _)
          have n_x4_0_p : NA X13.heap.size d4 l4 := x4.rn.hd.sl.na (Nat.le_refl _)
          have n_x4_1_p : NA X13.heap.size g4 h4 := x4.rd.hd.sl.na (Nat.le_refl _)
          have pq : X13.heap.size ≠ q := Nat.ne_of_gt lq
          generalize X13.alloc (.cells #[.int .i64 0, .slice none 0 0, .int .i64 0, .slice none 0 0] 34) = X14 at y_p e14 lp hHeld ⊢
          replace q1 := q1.below e14
          replace q2 := q2.below e14
          replace x3 := x3.below e14
          replace x4 := x4.below e14
          replace x_a := x_a.on e14
          replace x_b := x_b.on e14
          replace BB := also BB e14
          replace BU := also BU e14
          replace y_q := y_q.on e14
          replace lq := Nat.lt_of_lt_of_le lq e14.size
          generalize X13.heap.size = p at y_p lp gp n_q1_0_p n_q1_1_p n_q2_0_p n_q2_1_p n_x3_0_p n_x3_1_p n_x4_0_p n_x4_1_p pq ⊢
          have ⟨c_p_0, c_p_1, c_p_2, c_p_3, c_p_4, c_p_5, c_p_6, c_p_7⟩ : B4 X14 p (.int .i64 0) (.slice none 0 0) (.int .i64 0) (.slice none 0 0) := y_p
          refine take_call (i := 6) rfl (by kernel_rfl) (fun Kc hK => ?_)
          go_simp
          refine hK.out _ _ ⟨cell_put4 hHeld.1 (by omega) _ _ _ _, cell_put4 hHeld.2.1 (by omega) _ _ _ _, cell_put4 hHeld.2.2.1 (by omega) _ _ _ _, cell_put4 hHeld.2.2.2.1 (by omega) _ _ _ _, cell_put4 hHeld.2.2.2.2.1 (by omega) _ _ _ _, cell_put4 hHeld.2.2.2.2.2.1 (by omega) _ _ _ _, below_put4 hHeld.2.2.2.2.2.2 (by omega) _ _ _ _⟩ (fun hHeld => ?_)
          clear hK Kc
          have ⟨c_q_0, c_q_1, c_q_2, c_q_3, c_q_4, c_q_5, c_q_6, c_q_7⟩ : B4 ((((X14.setCell ⟨p, 0, none⟩ (.int .i64 s3)).setCell ⟨p, 1, none⟩ (.slice d3 l3 c3)).setCell ⟨p, 2, none⟩ (.int .i64 t3)).setCell ⟨p, 3, none⟩ (.slice g3 h3 k3)) q (.int .i64 0) (.slice none 0 0) (.int .i64 0) (.slice none 0 0) := ((((y_q.put pq).put pq).put pq).put pq)
          refine take_call (i := 7) rfl (by kernel_rfl) (fun Kc hK => ?_)
          go_simp
          refine hK.out _ _ ⟨cell_put4 hHeld.1 (by omega) _ _ _ _, cell_put4 hHeld.2.1 (by omega) _ _ _ _, cell_put4 hHeld.2.2.1 (by omega) _ _ _ _, cell_put4 hHeld.2.2.2.1 (by omega) _ _ _ _, cell_put4 hHeld.2.2.2.2.1 (by omega) _ _ _ _, cell_put4 hHeld.2.2.2.2.2.1 (by omega) _ _ _ _, below_put4 hHeld.2.2.2.2.2.2 (by omega) _ _ _ _⟩ (fun hHeld => ?_)
          clear hK Kc
          refine wpAnyH_done (by kernel_rfl) ?_ _
          rw [HQQ.out]
          exact ⟨rfl, p, q, s3, d3, l3, c3, t3, g3, h3, k3, s4, d4, l4, c4, t4, g4, h4, k4, rfl, ((((((((q1.put n_q1_0_p n_q1_1_p 0 _).put n_q1_0_p n_q1_1_p 1 _).put n_q1_0_p n_q1_1_p 2 _).put n_q1_0_p n_q1_1_p 3 _).put n_q1_0_q n_q1_1_q 0 _).put n_q1_0_q n_q1_1_q 1 _).put n_q1_0_q n_q1_1_q 2 _).put n_q1_0_q n_q1_1_q 3 _), ((((((((q2.put n_q2_0_p n_q2_1_p 0 _).put n_q2_0_p n_q2_1_p 1 _).put n_q2_0_p n_q2_1_p 2 _).put n_q2_0_p n_q2_1_p 3 _).put n_q2_0_q n_q2_1_q 0 _).put n_q2_0_q n_q2_1_q 1 _).put n_q2_0_q n_q2_1_q 2 _).put n_q2_0_q n_q2_1_q 3 _), ((((((((x3.put n_x3_0_p n_x3_1_p 0 _).put n_x3_0_p n_x3_1_p 1 _).put n_x3_0_p n_x3_1_p 2 _).put n_x3_0_p n_x3_1_p 3 _).put n_x3_0_q n_x3_1_q 0 _).put n_x3_0_q n_x3_1_q 1 _).put n_x3_0_q n_x3_1_q 2 _).put n_x3_0_q n_x3_1_q 3 _), ((((((((x4.put n_x4_0_p n_x4_1_p 0 _).put n_x4_0_p n_x4_1_p 1 _).put n_x4_0_p n_x4_1_p 2 _).put n_x4_0_p n_x4_1_p 3 _).put n_x4_0_q n_x4_1_q 0 _).put n_x4_0_q n_x4_1_q 1 _).put n_x4_0_q n_x4_1_q 2 _).put n_x4_0_q n_x4_1_q 3 _), ((((((((x_a.put (by omega)).put (by omega)).put (by omega)).put (by omega)).put (by omega)).put (by omega)).put (by omega)).put (by omega)), ((((((((x_b.put (by omega)).put (by omega)).put (by omega)).put (by omega)).put (by omega)).put (by omega)).put (by omega)).put (by omega)), ((((y_p.set.put (fun e => pq e.symm)).put (fun e => pq e.symm)).put (fun e => pq e.symm)).put (fun e => pq e.symm)), ((((y_q.put pq).put pq).put pq).put pq).set, (below_put4 (below_put4 BB (by omega) _ _ _ _) (by omega) _ _ _ _), by have := BU.size; simp only [World.size_setCell]; omega, ⟨gp, by simp only [World.size_setCell]; omega⟩, ⟨gq, by simp only [World.size_setCell]; omega⟩⟩
        · skip
          go_simp
          refine hK.out _ _ ⟨cell_on ((Below.refl _ _).alloc (Nat.le_refl _) _) hHeld.1, cell_on ((Below.refl _ _).alloc (Nat.le_refl _) _) hHeld.2.1, cell_on ((Below.refl _ _).alloc (Nat.le_refl _) _) hHeld.2.2.1, cell_on ((Below.refl _ _).alloc (Nat.le_refl _) _) hHeld.2.2.2.1, cell_on ((Below.refl _ _).alloc (Nat.le_refl _) _) hHeld.2.2.2.2.1, cell_on ((Below.refl _ _).alloc (Nat.le_refl _) _) hHeld.2.2.2.2.2.1, also hHeld.2.2.2.2.2.2 ((Below.refl _ _).alloc (Nat.le_refl _) _)⟩ (fun hHeld => ?_)
          clear hK Kc
          have y_p := b4_new X12 (.int .i64 0) (.slice none 0 0) (.int .i64 0) (.slice none 0 0) 34
          have e15 : Below X12.heap.size X12 (X12.alloc (.cells #[.int .i64 0, .slice none 0 0, .int .i64 0, .slice none 0 0] 34)) := (Below.refl _ _).alloc (Nat.le_refl _) _
          have lp : X12.heap.size < (X12.alloc (.cells #[.int .i64 0, .slice none 0 0, .int .i64 0, .slice none 0 0] 34)).heap.size := by simp
          have gp : U.heap.size ≤ X12.heap.size := BU.size
          have n_q1_0_p : NA X12.heap.size a1 m1 := q1.wi.ni.sl.na (Nat.le_refl _)
          have n_q1_1_p : NA X12.heap.size d1 k1 := q1.ni.sl.na (Nat.le_refl _)
          have n_q2_0_p : NA X12.heap.size a2 m2 := q2.wi.ni.sl.na (Nat.le_refl _)
          have n_q2_1_p : NA X12.heap.size d2 k2 := q2.ni.sl.na (Nat.le_refl _)
          have n_x3_0_p : NA X12.heap.size d3 l3 := x3.rn.hd.sl.na (Nat.le_refl _)
          have n_x3_1_p : NA X12.heap.size g3 h3 := x3.rd.hd.sl.na (Nat.le_refl _)
          have pq : X12.heap.size ≠ q := Nat.ne_of_gt lq
          generalize X12.alloc (.cells #[.int .i64 0, .slice none 0 0, .int .i64 0, .slice none 0 0] 34) = X15 at y_p e15 lp hHeld ⊢
          replace q1 := q1.below e15
          replace q2 := q2.below e15
          replace x3 := x3.below e15
          replace x_a := x_a.on e15
          replace x_b := x_b.on e15
          replace BB := also BB e15
          replace BU := also BU e15
          replace y_q := y_q.on e15
          replace lq := Nat.lt_of_lt_of_le lq e15.size
          generalize X12.heap.size = p at y_p lp gp n_q1_0_p n_q1_1_p n_q2_0_p n_q2_1_p n_x3_0_p n_x3_1_p pq ⊢
          refine take_call (i := 3) rfl (by kernel_rfl) (fun Kc hK => ?_)
          go_simp
          (go_at_call 8; refine (rqOf m a2 m2 c2 d2 k2 g2 Y B 6 _ q2).mono ?_; rintro e X16 ⟨s4, d4, l4, c4, t4, g4, h4, k4, rfl, x4, r4, e16⟩)
          refine hK.out _ _ ⟨cell_on e16 hHeld.1, cell_on e16 hHeld.2.1, cell_on e16 hHeld.2.2.1, cell_on e16 hHeld.2.2.2.1, cell_on e16 hHeld.2.2.2.2.1, cell_on e16 hHeld.2.2.2.2.2.1, also hHeld.2.2.2.2.2.2 e16⟩ (fun hHeld => ?_)
          clear hK Kc
          have n_x4_0_q : NA q d4 l4 := (r4 q lq trivial).1
          have n_x4_0_p : NA p d4 l4 := (r4 p lp trivial).1
          have n_x4_1_q : NA q g4 h4 := (r4 q lq trivial).2
          have n_x4_1_p : NA p g4 h4 := (r4 p lp trivial).2
          replace q1 := q1.below e16
          replace q2 := q2.below e16
          replace x3 := x3.below e16
          replace x_a := x_a.on e16
          replace x_b := x_b.on e16
          replace BB := also BB e16
          replace BU := also BU e16
          replace y_q := y_q.on e16
          replace lq := Nat.lt_of_lt_of_le lq e16.size
          replace y_p := y_p.on e16
          replace lp := Nat.lt_of_lt_of_le lp e16.size
          have ⟨c_p_0, c_p_1, c_p_2, c_p_3, c_p_4, c_p_5, c_p_6, c_p_7⟩ : B4 X16 p (.int .i64 0) (.slice none 0 0) (.int .i64 0) (.slice none 0 0) := y_p
          refine take_call (i := 6) rfl (by kernel_rfl) (fun Kc hK => ?_)
          go_simp
          refine hK.out _ _ ⟨cell_put4 hHeld.1 (by omega) _ _ _ _, cell_put4 hHeld.2.1 (by omega) _ _ _ _, cell_put4 hHeld.2.2.1 (by omega) _ _ _ _, cell_put4 hHeld.2.2.2.1 (by omega) _ _ _ _, cell_put4 hHeld.2.2.2.2.1 (by omega) _ _ _ _, cell_put4 hHeld.2.2.2.2.2.1 (by omega) _ _ _ _, below_put4 hHeld.2.2.2.2.2.2 (by omega) _ _ _ _⟩ (fun hHeld => ?_)
          clear hK Kc
          have ⟨c_q_0, c_q_1, c_q_2, c_q_3, c_q_4, c_q_5, c_q_6, c_q_7⟩ : B4 ((((X16.setCell ⟨p, 0, none⟩ (.int .i64 s3)).setCell ⟨p, 1, none⟩ (.slice d3 l3 c3)).setCell ⟨p, 2, none⟩ (.int .i64 t3)).setCell ⟨p, 3, none⟩ (.slice g3 h3 k3)) q (.int .i64 0) (.slice none 0 0) (.int .i64 0) (.slice none 0 0) := ((((y_q.put pq).put pq).put pq).put pq)
          refine take_call (i := 7) rfl (by kernel_rfl) (fun Kc hK => ?_)
          go_simp
          refine hK.out _ _ ⟨cell_put4 hHeld.1 (by omega) _ _ _ _, cell_put4 hHeld.2.1 (by omega) _ _ _ _, cell_put4 hHeld.2.2.1 (by omega) _ _ _ _, cell_put4 hHeld.2.2.2.1 (by omega) _ _ _ _, cell_put4 hHeld.2.2.2.2.1 (by omega) _ _ _ _, cell_put4 hHeld.2.2.2.2.2.1 (by omega) _ _ _ _, below_put4 hHeld.2.2.2.2.2.2 (by omega) _ _ _ _⟩ (fun hHeld => ?_)
          clear hK Kc
          refine wpAnyH_done (by kernel_rfl) ?_ _
          rw [HQQ.out]
          exact ⟨rfl, p, q, s3, d3, l3, c3, t3, g3, h3, k3, s4, d4, l4, c4, t4, g4, h4, k4, rfl, ((((((((q1.put n_q1_0_p n_q1_1_p 0 _).put n_q1_0_p n_q1_1_p 1 _).put n_q1_0_p n_q1_1_p 2 _).put n_q1_0_p n_q1_1_p 3 _).put n_q1_0_q n_q1_1_q 0 _).put n_q1_0_q n_q1_1_q 1 _).put n_q1_0_q n_q1_1_q 2 _).put n_q1_0_q n_q1_1_q 3 _), ((((((((q2.put n_q2_0_p n_q2_1_p 0 _).put n_q2_0_p n_q2_1_p 1 _).put n_q2_0_p n_q2_1_p 2 _).put n_q2_0_p n_q2_1_p 3 _).put n_q2_0_q n_q2_1_q 0 _).put n_q2_0_q n_q2_1_q 1 _).put n_q2_0_q n_q2_1_q 2 _).put n_q2_0_q n_q2_1_q 3 _), ((((((((x3.put n_x3_0_p n_x3_1_p 0 _).put n_x3_0_p n_x3_1_p 1 _).put n_x3_0_p n_x3_1_p 2 _).put n_x3_0_p n_x3_1_p 3 _).put n_x3_0_q n_x3_1_q 0 _).put n_x3_0_q n_x3_1_q 1 _).put n_x3_0_q n_x3_1_q 2 _).put n_x3_0_q n_x3_1_q 3 _), ((((((((x4.put n_x4_0_p n_x4_1_p 0 _).put n_x4_0_p n_x4_1_p 1 _).put n_x4_0_p n_x4_1_p 2 _).put n_x4_0_p n_x4_1_p 3 _).put n_x4_0_q n_x4_1_q 0 _).put n_x4_0_q n_x4_1_q 1 _).put n_x4_0_q n_x4_1_q 2 _).put n_x4_0_q n_x4_1_q 3 _), ((((((((x_a.put (by omega)).put (by omega)).put (by omega)).put (by omega)).put (by omega)).put (by omega)).put (by omega)).put (by omega)), ((((((((x_b.put (by omega)).put (by omega)).put (by omega)).put (by omega)).put (by omega)).put (by omega)).put (by omega)).put (by omega)), ((((y_p.set.put (fun e => pq e.symm)).put (fun e => pq e.symm)).put (fun e => pq e.symm)).put (fun e => pq e.symm)), ((((y_q.put pq).put pq).put pq).put pq).set, (below_put4 (below_put4 BB (by omega) _ _ _ _) (by omega) _ _ _ _), by have := BU.size; simp only [World.size_setCell]; omega, ⟨gp, by simp only [World.size_setCell]; omega⟩, ⟨gq, by simp only [World.size_setCell]; omega⟩⟩
    · skip
      go_simp
      refine hK.out _ _ ⟨cell_on ((Below.refl _ _).alloc (Nat.le_refl _) _) hHeld.1, cell_on ((Below.refl _ _).alloc (Nat.le_refl _) _) hHeld.2.1, cell_on ((Below.refl _ _).alloc (Nat.le_refl _) _) hHeld.2.2.1, cell_on ((Below.refl _ _).alloc (Nat.le_refl _) _) hHeld.2.2.2.1, cell_on ((Below.refl _ _).alloc (Nat.le_refl _) _) hHeld.2.2.2.2.1, cell_on ((Below.refl _ _).alloc (Nat.le_refl _) _) hHeld.2.2.2.2.2.1, also hHeld.2.2.2.2.2.2 ((Below.refl _ _).alloc (Nat.le_refl _) _)⟩ (fun hHeld => ?_)
      clear hK Kc
      have y_p := b4_new X0 (.int .i64 0) (.slice none 0 0) (.int .i64 0) (.slice none 0 0) 34
      have e17 : Below X0.heap.size X0 (X0.alloc (.cells #[.int .i64 0, .slice none 0 0, .int .i64 0, .slice none 0 0] 34)) := (Below.refl _ _).alloc (Nat.le_refl _) _
      have lp : X0.heap.size < (X0.alloc (.cells #[.int .i64 0, .slice none 0 0, .int .i64 0, .slice none 0 0] 34)).heap.size := by simp
      have gp : U.heap.size ≤ X0.heap.size := BU.size
      have n_q1_0_p : NA X0.heap.size a1 m1 := q1.wi.ni.sl.na (Nat.le_refl _)
      have n_q1_1_p : NA X0.heap.size d1 k1 := q1.ni.sl.na (Nat.le_refl _)
      have n_q2_0_p : NA X0.heap.size a2 m2 := q2.wi.ni.sl.na (Nat.le_refl _)
      have n_q2_1_p : NA X0.heap.size d2 k2 := q2.ni.sl.na (Nat.le_refl _)
      generalize X0.alloc (.cells #[.int .i64 0, .slice none 0 0, .int .i64 0, .slice none 0 0] 34) = X17 at y_p e17 lp hHeld ⊢
      replace q1 := q1.below e17
      replace q2 := q2.below e17
      replace x_a := x_a.on e17
      replace x_b := x_b.on e17
      replace BB := also BB e17
      replace BU := also BU e17
      generalize X0.heap.size = p at y_p lp gp n_q1_0_p n_q1_1_p n_q2_0_p n_q2_1_p ⊢
      refine wpAnyH_ready (rs := [1, 5]) (by kernel_rfl) (by simp) (AllReadyH.cons (i := 1) rfl (fun Kc hK => ?_) (AllReadyH.cons (i := 5) rfl (fun Kc hK => ?_) AllReadyH.nil))
      · skip
        go_simp
        (go_at_call 8; refine (rqOf n a1 m1 c1 d1 k1 g1 X A 6 _ q1).mono ?_; rintro e X18 ⟨s3, d3, l3, c3, t3, g3, h3, k3, rfl, x3, r3, e18⟩)
        refine hK.out _ _ ⟨cell_on e18 hHeld.1, cell_on e18 hHeld.2.1, cell_on e18 hHeld.2.2.1, cell_on e18 hHeld.2.2.2.1, cell_on e18 hHeld.2.2.2.2.1, cell_on e18 hHeld.2.2.2.2.2.1, also hHeld.2.2.2.2.2.2 e18⟩ (fun hHeld => ?_)
        clear hK Kc
        have n_x3_0_p : NA p d3 l3 := (r3 p lp trivial).1
        have n_x3_1_p : NA p g3 h3 := (r3 p lp trivial).2
        replace q1 := q1.below e18
        replace q2 := q2.below e18
        replace x_a := x_a.on e18
        replace x_b := x_b.on e18
        replace BB := also BB e18
        replace BU := also BU e18
        replace y_p := y_p.on e18
        replace lp := Nat.lt_of_lt_of_le lp e18.size
        refine wpAnyH_ready (rs := [3, 5]) (by kernel_rfl) (by simp) (AllReadyH.cons (i := 3) rfl (fun Kc hK => ?_) (AllReadyH.cons (i := 5) rfl (fun Kc hK => ?_) AllReadyH.nil))
        · skip
          go_simp
          (go_at_call 8; refine (rqOf m a2 m2 c2 d2 k2 g2 Y B 6 _ q2).mono ?_; rintro e X19 ⟨s4, d4, l4, c4, t4, g4, h4, k4, rfl, x4, r4, e19⟩)
          refine hK.out _ _ ⟨cell_on e19 hHeld.1, cell_on e19 hHeld.2.1, cell_on e19 hHeld.2.2.1, cell_on e19 hHeld.2.2.2.1, cell_on e19 hHeld.2.2.2.2.1, cell_on e19 hHeld.2.2.2.2.2.1, also hHeld.2.2.2.2.2.2 e19⟩ (fun hHeld => ?_)
          clear hK Kc
          have n_x4_0_p : NA p d4 l4 := (r4 p lp trivial).1
          have n_x4_1_p : NA p g4 h4 := (r4 p lp trivial).2
          replace q1 := q1.below e19
          replace q2 := q2.below e19
          replace x3 := x3.below e19
          replace x_a := x_a.on e19
          replace x_b := x_b.on e19
          replace BB := also BB e19
          replace BU := also BU e19
          replace y_p := y_p.on e19
          replace lp := Nat.lt_of_lt_of_le lp e19.size
          refine take_call (i := 5) rfl (by kernel_rfl) (fun Kc hK => ?_)
          go_simp
          refine hK.out _ _ ⟨cell_on ((Below.refl _ _).alloc (Nat.le_refl _) _) hHeld.1, cell_on ((Below.refl _ _).alloc (Nat.le_refl _) _) hHeld.2.1, cell_on ((Below.refl _ _).alloc (Nat.le_refl _) _) hHeld.2.2.1, cell_on ((Below.refl _ _).alloc (Nat.le_refl _) _) hHeld.2.2.2.1, cell_on ((Below.refl _ _).alloc (Nat.le_refl _) _) hHeld.2.2.2.2.1, cell_on ((Below.refl _ _).alloc (Nat.le_refl _) _) hHeld.2.2.2.2.2.1, also hHeld.2.2.2.2.2.2 ((Below.refl _ _).alloc (Nat.le_refl _) _)⟩ (fun hHeld => ?_)
          clear hK Kc
          have y_q := b4_new X19 (.int .i64 0) (.slice none 0 0) (.int .i64 0) (.slice none 0 0) 34
          have e20 : Below X19.heap.size X19 (X19.alloc (.cells #[.int .i64 0, .slice none 0 0, .int .i64 0, .slice none 0 0] 34)) := (Below.refl _ _).alloc (Nat.le_refl _) _
          have lq : X19.heap.size < (X19.alloc (.cells #[.int .i64 0, .slice none 0 0, .int .i64 0, .slice none 0 0] 34)).heap.size := by simp
          have gq : U.heap.size ≤ X19.heap.size := BU.size
          have n_q1_0_q : NA X19.heap.size a1 m1 := q1.wi.ni.sl.na (Nat.le_refl _)
          have n_q1_1_q : NA X19.heap.size d1 k1 := q1.ni.sl.na (Nat.le_refl _)
          have n_q2_0_q : NA X19.heap.size a2 m2 := q2.wi.ni.sl.na (Nat.le_refl _)
          have n_q2_1_q : NA X19.heap.size d2 k2 := q2.ni.sl.na (Nat.le_refl _)
          have n_x3_0_q : NA X19.heap.size d3 l3 := x3.rn.hd.sl.na (Nat.le_refl _)
          have n_x3_1_q : NA X19.heap.size g3 h3 := x3.rd.hd.sl.na (Nat.le_refl _)
          have n_x4_0_q : NA X19.heap.size d4 l4 := x4.rn.hd.sl.na (Nat.le_refl _)
          have n_x4_1_q : NA X19.heap.size g4 h4 := x4.rd.hd.sl.na (Nat.le_refl _)
          have pq : p ≠ X19.heap.size := Nat.ne_of_lt lp
          generalize X19.alloc (.cells #[.int .i64 0, .slice none 0 0, .int .i64 0, .slice none 0 0] 34) = X20 at y_q e20 lq hHeld ⊢
          replace q1 := q1.below e20
          replace q2 := q2.below e20
          replace x3 := x3.below e20
          replace x4 := x4.below e20
          replace x_a := x_a.on e20
          replace x_b := x_b.on e20
          replace BB := also BB e20
          replace BU := also BU e20
          replace y_p := y_p.on e20
          replace lp := Nat.lt_of_lt_of_le lp e20.size
          generalize X19.heap.size = q at y_q lq gq n_q1_0_q n_q1_1_q n_q2_0_q n_q2_1_q n_x3_0_q n_x3_1_q n_x4_0_q n_x4_1_q pq ⊢
          have ⟨c_p_0, c_p_1, c_p_2, c_p_3, c_p_4, c_p_5, c_p_6, c_p_7⟩ : B4 X20 p (.int .i64 0) (.slice none 0 0) (.int .i64 0) (.slice none 0 0) := y_p
          refine take_call (i := 6) rfl (by kernel_rfl) (fun Kc hK => ?_)
          go_simp
          refine hK.out _ _ ⟨cell_put4 hHeld.1 (by omega) _ _ _ _, cell_put4 hHeld.2.1 (by omega) _ _ _ _, cell_put4 hHeld.2.2.1 (by omega) _ _ _ _, cell_put4 hHeld.2.2.2.1 (by omega) _ _ _ _, cell_put4 hHeld.2.2.2.2.1 (by omega) _ _ _ _, cell_put4 hHeld.2.2.2.2.2.1 (by omega) _ _ _ _, below_put4 hHeld.2.2.2.2.2.2 (by omega) _ _ _ _⟩ (fun hHeld => ?_)
          clear hK Kc
          have ⟨c_q_0, c_q_1, c_q_2, c_q_3, c_q_4, c_q_5, c_q_6, c_q_7⟩ : B4 ((((X20.setCell ⟨p, 0, none⟩ (.int .i64 s3)).setCell ⟨p, 1, none⟩ (.slice d3 l3 c3)).setCell ⟨p, 2, none⟩ (.int .i64 t3)).setCell ⟨p, 3, none⟩ (.slice g3 h3 k3)) q (.int .i64 0) (.slice none 0 0) (.int .i64 0) (.slice none 0 0) := ((((y_q.put pq).put pq).put pq).put pq)
          refine take_call (i := 7) rfl (by kernel_rfl) (fun Kc hK => ?_)
          go_simp
          refine hK.out _ _ ⟨cell_put4 hHeld.1 (by omega) _ _ _ _, cell_put4 hHeld.2.1 (by omega) _ _ _ _, cell_put4 hHeld.2.2.1 (by omega) _ _ _ _, cell_put4 hHeld.2.2.2.1 (by omega) _ _ _ _, cell_put4 hHeld.2.2.2.2.1 (by omega) _ _ _ _, cell_put4 hHeld.2.2.2.2.2.1 (by omega) _ _ _ _, below_put4 hHeld.2.2.2.2.2.2 (by omega) _ _ _ _⟩ (fun hHeld => ?_)
          clear hK Kc
          refine wpAnyH_done (by kernel_rfl) ?_ _
          rw [HQQ.out]
          exact ⟨rfl, p, q, s3, d3, l3, c3, t3, g3, h3, k3, s4, d4, l4, c4, t4, g4, h4, k4, rfl, ((((((((q1.put n_q1_0_p n_q1_1_p 0 _).put n_q1_0_p n_q1_1_p 1 _).put n_q1_0_p n_q1_1_p 2 _).put n_q1_0_p n_q1_1_p 3 _).put n_q1_0_q n_q1_1_q 0 _).put n_q1_0_q n_q1_1_q 1 _).put n_q1_0_q n_q1_1_q 2 _).put n_q1_0_q n_q1_1_q 3 _), ((((((((q2.put n_q2_0_p n_q2_1_p 0 _).put n_q2_0_p n_q2_1_p 1 _).put n_q2_0_p n_q2_1_p 2 _).put n_q2_0_p n_q2_1_p 3 _).put n_q2_0_q n_q2_1_q 0 _).put n_q2_0_q n_q2_1_q 1 _).put n_q2_0_q n_q2_1_q 2 _).put n_q2_0_q n_q2_1_q 3 _), ((((((((x3.put n_x3_0_p n_x3_1_p 0 _).put n_x3_0_p n_x3_1_p 1 _).put n_x3_0_p n_x3_1_p 2 _).put n_x3_0_p n_x3_1_p 3 _).put n_x3_0_q n_x3_1_q 0 _).put n_x3_0_q n_x3_1_q 1 _).put n_x3_0_q n_x3_1_q 2 _).put n_x3_0_q n_x3_1_q 3 _), ((((((((x4.put n_x4_0_p n_x4_1_p 0 _).put n_x4_0_p n_x4_1_p 1 _).put n_x4_0_p n_x4_1_p 2 _).put n_x4_0_p n_x4_1_p 3 _).put n_x4_0_q n_x4_1_q 0 _).put n_x4_0_q n_x4_1_q 1 _).put n_x4_0_q n_x4_1_q 2 _).put n_x4_0_q n_x4_1_q 3 _), ((((((((x_a.put (by omega)).put (by omega)).put (by omega)).put (by omega)).put (by omega)).put (by omega)).put (by omega)).put (by omega)), ((((((((x_b.put (by omega)).put (by omega)).put (by omega)).put (by omega)).put (by omega)).put (by omega)).put (by omega)).put (by omega)), ((((y_p.set.put (fun e => pq e.symm)).put (fun e => pq e.symm)).put (fun e => pq e.symm)).put (fun e => pq e.symm)), ((((y_q.put pq).put pq).put pq).put pq).set, (below_put4 (below_put4 BB (by omega) _ _ _ _) (by omega) _ _ _ _), by have := BU.size; simp only [World.size_setCell]; omega, ⟨gp, by simp only [World.size_setCell]; omega⟩, ⟨gq, by simp only [World.size_setCell]; omega⟩⟩
        · skip
          go_simp
          refine hK.out _ _ ⟨cell_on ((Below.refl _ _).alloc (Nat.le_refl _) _) hHeld.1, cell_on ((Below.refl _ _).alloc (Nat.le_refl _) _) hHeld.2.1, cell_on ((Below.refl _ _).alloc (Nat.le_refl _) _) hHeld.2.2.1, cell_on ((Below.refl _ _).alloc (Nat.le_refl _) _) hHeld.2.2.2.1, cell_on ((Below.refl _ _).alloc (Nat.le_refl _) _) hHeld.2.2.2.2.1, cell_on ((Below.refl _ _).alloc (Nat.le_refl _) _) hHeld.2.2.2.2.2.1, also hHeld.2.2.2.2.2.2 ((Below.refl _ _).alloc (Nat.le_refl _) _)⟩ (fun hHeld => ?_)
          clear hK Kc
          have y_q := b4_new X18 (.int .i64 0) (.slice none 0 0) (.int .i64 0) (.slice none 0 0) 34
          have e21 : Below X18.heap.size X18 (X18.alloc (.cells #[.int .i64 0, .slice none 0 0, .int .i64 0, .slice none 0 0] 34)) := (Below.refl _ _).alloc (Nat.le_refl _) _
          have lq : X18.heap.size < (X18.alloc (.cells #[.int .i64 0, .slice none 0 0, .int .i64 0, .slice none 0 0] 34)).heap.size := by simp
          have gq : U.heap.size ≤ X18.heap.size := BU.size
          have n_q1_0_q : NA X18.heap.size a1 m1 := q1.wi.ni.sl.na (Nat.le_refl _)
          have n_q1_1_q : NA X18.heap.size d1 k1 := q1.ni.sl.na (Nat.le_refl _)
          have n_q2_0_q : NA X18.heap.size a2 m2 := q2.wi.ni.sl.na (Nat.le_refl _)
          have n_q2_1_q : NA X18.heap.size d2 k2 := q2.ni.sl.na (Nat.le_refl _)
          have n_x3_0_q : NA X18.heap.size d3 l3 := x3.rn.hd.sl.na (Nat.le_refl _)
          have n_x3_1_q : NA X18.heap.size g3 h3 := x3.rd.hd.sl.na (Nat.le_refl _)
          have pq : p ≠ X18.heap.size := Nat.ne_of_lt lp
          generalize X18.alloc (.cells #[.int .i64 0, .slice none 0 0, .int .i64 0, .slice none 0 0] 34) = X21 at y_q e21 lq hHeld ⊢
          replace q1 := q1.below e21
          replace q2 := q2.below e21
          replace x3 := x3.below e21
          replace x_a := x_a.on e21
          replace x_b := x_b.on e21
          replace BB := also BB e21
          replace BU := also BU e21
          replace y_p := y_p.on e21
          replace lp := Nat.lt_of_lt_of_le lp e21.size
          generalize X18.heap.size = q at y_q lq gq n_q1_0_q n_q1_1_q n_q2_0_q n_q2_1_q n_x3_0_q n_x3_1_q pq ⊢
          refine take_call (i := 3) rfl (by kernel_rfl) (fun Kc hK => ?_)
          go_simp
          (go_at_call 8; refine (rqOf m a2 m2 c2 d2 k2 g2 Y B 6 _ q2).mono ?_; rintro e X22 ⟨s4, d4, l4, c4, t4, g4, h4, k4, rfl, x4, r4, e22⟩)
          refine hK.out _ _ ⟨cell_on e22 hHeld.1, cell_on e22 hHeld.2.1, cell_on e22 hHeld.2.2.1, cell_on e22 hHeld.2.2.2.1, cell_on e22 hHeld.2.2.2.2.1, cell_on e22 hHeld.2.2.2.2.2.1, also hHeld.2.2.2.2.2.2 e22⟩ (fun hHeld => ?_)
          clear hK Kc
          have n_x4_0_p : NA p d4 l4 := (r4 p lp trivial).1
          have n_x4_0_q : NA q d4 l4 := (r4 q lq trivial).1
          have n_x4_1_p : NA p g4 h4 := (r4 p lp trivial).2
          have n_x4_1_q : NA q g4 h4 := (r4 q lq trivial).2
          replace q1 := q1.below e22
          replace q2 := q2.below e22
          replace x3 := x3.below e22
          replace x_a := x_a.on e22
          replace x_b := x_b.on e22
          replace BB := also BB e22
          replace BU := also BU e22
          replace y_p := y_p.on e22
          replace lp := Nat.lt_of_lt_of_le lp e22.size
          replace y_q := y_q.on e22
          replace lq := Nat.lt_of_lt_of_le lq e22.size
          have ⟨c_p_0, c_p_1, c_p_2, c_p_3, c_p_4, c_p_5, c_p_6, c_p_7⟩ : B4 X22 p (.int .i64 0) (.slice none 0 0) (.int .i64 0) (.slice none 0 0) := y_p
          refine take_call (i := 6) rfl (by kernel_rfl) (fun Kc hK => ?_)
          go_simp
          refine hK.out _ _ ⟨cell_put4 hHeld.1 (by omega) _ _ _ _, cell_put4 hHeld.2.1 (by omega) _ _ _ _, cell_put4 hHeld.2.2.1 (by omega) _ _ _ _, cell_put4 hHeld.2.2.2.1 (by omega) _ _ _ _, cell_put4 hHeld.2.2.2.2.1 (by omega) _ _ _ _, cell_put4 hHeld.2.2.2.2.2.1 (by omega) _ _ _ _, below_put4 hHeld.2.2.2.2.2.2 (by omega) _ _ _ _⟩ (fun hHeld => ?_)
          clear hK Kc
          have ⟨c_q_0, c_q_1, c_q_2, c_q_3, c_q_4, c_q_5, c_q_6, c_q_7⟩ : B4 ((((X22.setCell ⟨p, 0, none⟩ (.int .i64 s3)).setCell ⟨p, 1, none⟩ (.slice d3 l3 c3)).setCell ⟨p, 2, none⟩ (.int .i64 t3)).setCell ⟨p, 3, none⟩ (.slice g3 h3 k3)) q (.int .i64 0) (.slice none 0 0) (.int .i64 0) (.slice none 0 0) := ((((y_q.put pq).put pq).put pq).put pq)
          refine take_call (i := 7) rfl (by kernel_rfl) (fun Kc hK => ?_)
          go_simp
          refine hK.out _ _ ⟨cell_put4 hHeld.1 (by omega) _ _ _ _, cell_put4 hHeld.2.1 (by omega) _ _ _ _, cell_put4 hHeld.2.2.1 (by omega) _ _ _ _, cell_put4 hHeld.2.2.2.1 (by omega) _ _ _ _, cell_put4 hHeld.2.2.2.2.1 (by omega) _ _ _ _, cell_put4 hHeld.2.2.2.2.2.1 (by omega) _ _ _ _, below_put4 hHeld.2.2.2.2.2.2 (by omega) _ _ _ _⟩ (fun hHeld => ?_)
          clear hK Kc
          refine wpAnyH_done (by kernel_rfl) ?_ _
          rw [HQQ.out]
          exact ⟨rfl, p, q, s3, d3, l3, c3, t3, g3, h3, k3, s4, d4, l4, c4, t4, g4, h4, k4, rfl, ((((((((q1.put n_q1_0_p n_q1_1_p 0 _).put n_q1_0_p n_q1_1_p 1 _).put n_q1_0_p n_q1_1_p 2 _).put n_q1_0_p n_q1_1_p 3 _).put n_q1_0_q n_q1_1_q 0 _).put n_q1_0_q n_q1_1_q 1 _).put n_q1_0_q n_q1_1_q 2 _).put n_q1_0_q n_q1_1_q 3 _), ((((((((q2.put n_q2_0_p n_q2_1_p 0 _).put n_q2_0_p n_q2_1_p 1 _).put n_q2_0_p n_q2_1_p 2 _).put n_q2_0_p n_q2_1_p 3 _).put n_q2_0_q n_q2_1_q 0 _).put n_q2_0_q n_q2_1_q 1 _).put n_q2_0_q n_q2_1_q 2 _).put n_q2_0_q n_q2_1_q 3 _), ((((((((x3.put n_x3_0_p n_x3_1_p 0 _).put n_x3_0_p n_x3_1_p 1 _).put n_x3_0_p n_x3_1_p 2 _).put n_x3_0_p n_x3_1_p 3 _).put n_x3_0_q n_x3_1_q 0 _).put n_x3_0_q n_x3_1_q 1 _).put n_x3_0_q n_x3_1_q 2 _).put n_x3_0_q n_x3_1_q 3 _), ((((((((x4.put n_x4_0_p n_x4_1_p 0 _).put n_x4_0_p n_x4_1_p 1 _).put n_x4_0_p n_x4_1_p 2 _).put n_x4_0_p n_x4_1_p 3 _).put n_x4_0_q n_x4_1_q 0 _).put n_x4_0_q n_x4_1_q 1 _).put n_x4_0_q n_x4_1_q 2 _).put n_x4_0_q n_x4_1_q 3 _), ((((((((x_a.put (by omega)).put (by omega)).put (by omega)).put (by omega)).put (by omega)).put (by omega)).put (by omega)).put (by omega)), ((((((((x_b.put (by omega)).put (by omega)).put (by omega)).put (by omega)).put (by omega)).put (by omega)).put (by omega)).put (by omega)), ((((y_p.set.put (fun e => pq e.symm)).put (fun e => pq e.symm)).put (fun e => pq e.symm)).put (fun e => pq e.symm)), ((((y_q.put pq).put pq).put pq).put pq).set, (below_put4 (below_put4 BB (by omega) _ _ _ _) (by omega) _ _ _ _), by have := BU.size; simp only [World.size_setCell]; omega, ⟨gp, by simp only [World.size_setCell]; omega⟩, ⟨gq, by simp only [World.size_setCell]; omega⟩⟩
      · skip
        go_simp
        refine hK.out _ _ ⟨cell_on ((Below.refl _ _).alloc (Nat.le_refl _) _) hHeld.1, cell_on ((Below.refl _ _).alloc (Nat.le_refl _) _) hHeld.2.1, cell_on ((Below.refl _ _).alloc (Nat.le_refl _) _) hHeld.2.2.1, cell_on ((Below.refl _ _).alloc (Nat.le_refl _) _) hHeld.2.2.2.1, cell_on ((Below.refl _ _).alloc (Nat.le_refl _) _) hHeld.2.2.2.2.1, cell_on ((Below.refl _ _).alloc (Nat.le_refl _) _) hHeld.2.2.2.2.2.1, also hHeld.2.2.2.2.2.2 ((Below.refl _ _).alloc (Nat.le_refl _) _)⟩ (fun hHeld => ?_)
        clear hK Kc
        have y_q := b4_new X17 (.int .i64 0) (.slice none 0 0) (.int .i64 0) (.slice none 0 0) 34
        have e23 : Below X17.heap.size X17 (X17.alloc (.cells #[.int .i64 0, .slice none 0 0, .int .i64 0, .slice none 0 0] 34)) := (Below.refl _ _).alloc (Nat.le_refl _) _
        have lq : X17.heap.size < (X17.alloc (.cells #[.int .i64 0, .slice none 0 0, .int .i64 0, .slice none 0 0] 34)).heap.size := by simp
        have gq : U.heap.size ≤ X17.heap.size := BU.size
        have n_q1_0_q : NA X17.heap.size a1 m1 := q1.wi.ni.sl.na (Nat.le_refl _)
        have n_q1_1_q : NA X17.heap.size d1 k1 := q1.ni.sl.na (Nat.le_refl _)
        have n_q2_0_q : NA X17.heap.size a2 m2 := q2.wi.ni.sl.na (Nat.le_refl _)
        have n_q2_1_q : NA X17.heap.size d2 k2 := q2.ni.sl.na (Nat.le_refl _)
        have pq : p ≠ X17.heap.size := Nat.ne_of_lt lp
        generalize X17.alloc (.cells #[.int .i64 0, .slice none 0 0, .int .i64 0, .slice none 0 0] 34) = X23 at y_q e23 lq hHeld ⊢
        replace q1 := q1.below e23
        replace q2 := q2.below e23
        replace x_a := x_a.on e23
        replace x_b := x_b.on e23
        replace BB := also BB e23
        replace BU := also BU e23
        replace y_p := y_p.on e23
        replace lp := Nat.lt_of_lt_of_le lp e23.size
        generalize X17.heap.size = q at y_q lq gq n_q1_0_q n_q1_1_q n_q2_0_q n_q2_1_q pq ⊢
        refine take_call (i := 1) rfl (by kernel_rfl) (fun Kc hK => ?_)
        go_simp
        (go_at_call 8; refine (rqOf n a1 m1 c1 d1 k1 g1 X A 6 _ q1).mono ?_; rintro e X24 ⟨s3, d3, l3, c3, t3, g3, h3, k3, rfl, x3, r3, e24⟩)
        refine hK.out _ _ ⟨cell_on e24 hHeld.1, cell_on e24 hHeld.2.1, cell_on e24 hHeld.2.2.1, cell_on e24 hHeld.2.2.2.1, cell_on e24 hHeld.2.2.2.2.1, cell_on e24 hHeld.2.2.2.2.2.1, also hHeld.2.2.2.2.2.2 e24⟩ (fun hHeld => ?_)
        clear hK Kc
        have n_x3_0_p : NA p d3 l3 := (r3 p lp trivial).1
        have n_x3_0_q : NA q d3 l3 := (r3 q lq trivial).1
        have n_x3_1_p : NA p g3 h3 := (r3 p lp trivial).2
        have n_x3_1_q : NA q g3 h3 := (r3 q lq trivial).2
        replace q1 := q1.below e24
        replace q2 := q2.below e24
        replace x_a := x_a.on e24
        replace x_b := x_b.on e24
        replace BB := also BB e24
        replace BU := also BU e24
        replace y_p := y_p.on e24
        replace lp := Nat.lt_of_lt_of_le lp e24.size
        replace y_q := y_q.on e24
        replace lq := Nat.lt_of_lt_of_le lq e24.size
        refine take_call (i := 3) rfl (by kernel_rfl) (fun Kc hK => ?_)
        go_simp
        (go_at_call 8; refine (rqOf m a2 m2 c2 d2 k2 g2 Y B 6 _ q2).mono ?_; rintro e X25 ⟨s4, d4, l4, c4, t4, g4, h4, k4, rfl, x4, r4, e25⟩)
        refine hK.out _ _ ⟨cell_on e25 hHeld.1, cell_on e25 hHeld.2.1, cell_on e25 hHeld.2.2.1, cell_on e25 hHeld.2.2.2.1, cell_on e25 hHeld.2.2.2.2.1, cell_on e25 hHeld.2.2.2.2.2.1, also hHeld.2.2.2.2.2.2 e25⟩ (fun hHeld => ?_)
        clear hK Kc
        have n_x4_0_p : NA p d4 l4 := (r4 p lp trivial).1
        have n_x4_0_q : NA q d4 l4 := (r4 q lq trivial).1
        have n_x4_1_p : NA p g4 h4 := (r4 p lp trivial).2
        have n_x4_1_q : NA q g4 h4 := (r4 q lq trivial).2
        replace q1 := q1.below e25
        replace q2 := q2.below e25
        replace x3 := x3.below e25
        replace x_a := x_a.on e25
        replace x_b := x_b.on e25
        replace BB := also BB e25
        replace BU := also BU e25
        replace y_p := y_p.on e25
        replace lp := Nat.lt_of_lt_of_le lp e25.size
        replace y_q := y_q.on e25
        replace lq := Nat.lt_of_lt_of_le lq e25.size
        have ⟨c_p_0, c_p_1, c_p_2, c_p_3, c_p_4, c_p_5, c_p_6, c_p_7⟩ : B4 X25 p (.int .i64 0) (.slice none 0 0) (.int .i64 0) (.slice none 0 0) := y_p
        refine take_call (i := 6) rfl (by kernel_rfl) (fun Kc hK => ?_)
        go_simp
        refine hK.out _ _ ⟨cell_put4 hHeld.1 (by omega) _ _ _ _, cell_put4 hHeld.2.1 (by omega) _ _ _ _, cell_put4 hHeld.2.2.1 (by omega) _ _ _ _, cell_put4 hHeld.2.2.2.1 (by omega) _ _ _ _, cell_put4 hHeld.2.2.2.2.1 (by omega) _ _ _ _, cell_put4 hHeld.2.2.2.2.2.1 (by omega) _ _ _ _, below_put4 hHeld.2.2.2.2.2.2 (by omega) _ _ _ _⟩ (fun hHeld => ?_)
        clear hK Kc
        have ⟨c_q_0, c_q_1, c_q_2, c_q_3, c_q_4, c_q_5, c_q_6, c_q_7⟩ : B4 ((((X25.setCell ⟨p, 0, none⟩ (.int .i64 s3)).setCell ⟨p, 1, none⟩ (.slice d3 l3 c3)).setCell ⟨p, 2, none⟩ (.int .i64 t3)).setCell ⟨p, 3, none⟩ (.slice g3 h3 k3)) q (.int .i64 0) (.slice none 0 0) (.int .i64 0) (.slice none 0 0) := ((((y_q.put pq).put pq).put pq).put pq)
        refine take_call (i := 7) rfl (by kernel_rfl) (fun Kc hK => ?_)
        go_simp
        refine hK.out _ _ ⟨cell_put4 hHeld.1 (by omega) _ _ _ _, cell_put4 hHeld.2.1 (by omega) _ _ _ _, cell_put4 hHeld.2.2.1 (by omega) _ _ _ _, cell_put4 hHeld.2.2.2.1 (by omega) _ _ _ _, cell_put4 hHeld.2.2.2.2.1 (by omega) _ _ _ _, cell_put4 hHeld.2.2.2.2.2.1 (by omega) _ _ _ _, below_put4 hHeld.2.2.2.2.2.2 (by omega) _ _ _ _⟩ (fun hHeld => ?_)
        clear hK Kc
        refine wpAnyH_done (by kernel_rfl) ?_ _
        rw [HQQ.out]
        exact ⟨rfl, p, q, s3, d3, l3, c3, t3, g3, h3, k3, s4, d4, l4, c4, t4, g4, h4, k4, rfl, ((((((((q1.put n_q1_0_p n_q1_1_p 0 _).put n_q1_0_p n_q1_1_p 1 _).put n_q1_0_p n_q1_1_p 2 _).put n_q1_0_p n_q1_1_p 3 _).put n_q1_0_q n_q1_1_q 0 _).put n_q1_0_q n_q1_1_q 1 _).put n_q1_0_q n_q1_1_q 2 _).put n_q1_0_q n_q1_1_q 3 _), ((((((((q2.put n_q2_0_p n_q2_1_p 0 _).put n_q2_0_p n_q2_1_p 1 _).put n_q2_0_p n_q2_1_p 2 _).put n_q2_0_p n_q2_1_p 3 _).put n_q2_0_q n_q2_1_q 0 _).put n_q2_0_q n_q2_1_q 1 _).put n_q2_0_q n_q2_1_q 2 _).put n_q2_0_q n_q2_1_q 3 _), ((((((((x3.put n_x3_0_p n_x3_1_p 0 _).put n_x3_0_p n_x3_1_p 1 _).put n_x3_0_p n_x3_1_p 2 _).put n_x3_0_p n_x3_1_p 3 _).put n_x3_0_q n_x3_1_q 0 _).put n_x3_0_q n_x3_1_q 1 _).put n_x3_0_q n_x3_1_q 2 _).put n_x3_0_q n_x3_1_q 3 _), ((((((((x4.put n_x4_0_p n_x4_1_p 0 _).put n_x4_0_p n_x4_1_p 1 _).put n_x4_0_p n_x4_1_p 2 _).put n_x4_0_p n_x4_1_p 3 _).put n_x4_0_q n_x4_1_q 0 _).put n_x4_0_q n_x4_1_q 1 _).put n_x4_0_q n_x4_1_q 2 _).put n_x4_0_q n_x4_1_q 3 _), ((((((((x_a.put (by omega)).put (by omega)).put (by omega)).put (by omega)).put (by omega)).put (by omega)).put (by omega)).put (by omega)), ((((((((x_b.put (by omega)).put (by omega)).put (by omega)).put (by omega)).put (by omega)).put (by omega)).put (by omega)).put (by omega)), ((((y_p.set.put (fun e => pq e.symm)).put (fun e => pq e.symm)).put (fun e => pq e.symm)).put (fun e => pq e.symm)), ((((y_q.put pq).put pq).put pq).put pq).set, (below_put4 (below_put4 BB (by omega) _ _ _ _) (by omega) _ _ _ _), by have := BU.size; simp only [World.size_setCell]; omega, ⟨gp, by simp only [World.size_setCell]; omega⟩, ⟨gq, by simp only [World.size_setCell]; omega⟩⟩
    · skip
      go_simp
      refine hK.out _ _ ⟨cell_on ((Below.refl _ _).alloc (Nat.le_refl _) _) hHeld.1, cell_on ((Below.refl _ _).alloc (Nat.le_refl _) _) hHeld.2.1, cell_on ((Below.refl _ _).alloc (Nat.le_refl _) _) hHeld.2.2.1, cell_on ((Below.refl _ _).alloc (Nat.le_refl _) _) hHeld.2.2.2.1, cell_on ((Below.refl _ _).alloc (Nat.le_refl _) _) hHeld.2.2.2.2.1, cell_on ((Below.refl _ _).alloc (Nat.le_refl _) _) hHeld.2.2.2.2.2.1, also hHeld.2.2.2.2.2.2 ((Below.refl _ _).alloc (Nat.le_refl _) _)⟩ (fun hHeld => ?_)
      clear hK Kc
      have y_q := b4_new X0 (.int .i64 0) (.slice none 0 0) (.int .i64 0) (.slice none 0 0) 34
      have e26 : Below X0.heap.size X0 (X0.alloc (.cells #[.int .i64 0, .slice none 0 0, .int .i64 0, .slice none 0 0] 34)) := (Below.refl _ _).alloc (Nat.le_refl _) _
      have lq : X0.heap.size < (X0.alloc (.cells #[.int .i64 0, .slice none 0 0, .int .i64 0, .slice none 0 0] 34)).heap.size := by simp
      have gq : U.heap.size ≤ X0.heap.size := BU.size
      have n_q1_0_q : NA X0.heap.size a1 m1 := q1.wi.ni.sl.na (Nat.le_refl _)
      have n_q1_1_q : NA X0.heap.size d1 k1 := q1.ni.sl.na (Nat.le_refl _)
      have n_q2_0_q : NA X0.heap.size a2 m2 := q2.wi.ni.sl.na (Nat.le_refl _)
      have n_q2_1_q : NA X0.heap.size d2 k2 := q2.ni.sl.na (Nat.le_refl _)
      generalize X0.alloc (.cells #[.int .i64 0, .slice none 0 0, .int .i64 0, .slice none 0 0] 34) = X26 at y_q e26 lq hHeld ⊢
      replace q1 := q1.below e26
      replace q2 := q2.below e26
      replace x_a := x_a.on e26
      replace x_b := x_b.on e26
      replace BB := also BB e26
      replace BU := also BU e26
      generalize X0.heap.size = q at y_q lq gq n_q1_0_q n_q1_1_q n_q2_0_q n_q2_1_q ⊢
      refine wpAnyH_ready (rs := [1, 4]) (by kernel_rfl) (by simp) (AllReadyH.cons (i := 1) rfl (fun Kc hK => ?_) (AllReadyH.cons (i := 4) rfl (fun Kc hK => ?_) AllReadyH.nil))
      · skip
        go_simp
        (go_at_call 8; refine (rqOf n a1 m1 c1 d1 k1 g1 X A 6 _ q1).mono ?_; rintro e X27 ⟨s3, d3, l3, c3, t3, g3, h3, k3, rfl, x3, r3, e27⟩)
        refine hK.out _ _ ⟨cell_on e27 hHeld.1, cell_on e27 hHeld.2.1, cell_on e27 hHeld.2.2.1, cell_on e27 hHeld.2.2.2.1, cell_on e27 hHeld.2.2.2.2.1, cell_on e27 hHeld.2.2.2.2.2.1, also hHeld.2.2.2.2.2.2 e27⟩ (fun hHeld => ?_)
        clear hK Kc
        have n_x3_0_q : NA q d3 l3 := (r3 q lq trivial).1
        have n_x3_1_q : NA q g3 h3 := (r3 q lq trivial).2
        replace q1 := q1.below e27
        replace q2 := q2.below e27
        replace x_a := x_a.on e27
        replace x_b := x_b.on e27
        replace BB := also BB e27
        replace BU := also BU e27
        replace y_q := y_q.on e27
        replace lq := Nat.lt_of_lt_of_le lq e27.size
        refine wpAnyH_ready (rs := [3, 4]) (by kernel_rfl) (by simp) (AllReadyH.cons (i := 3) rfl (fun Kc hK => ?_) (AllReadyH.cons (i := 4) rfl (fun Kc hK => ?_) AllReadyH.nil))
        · skip
          go_simp
          (go_at_call 8; refine (rqOf m a2 m2 c2 d2 k2 g2 Y B 6 _ q2).mono ?_; rintro e X28 ⟨s4, d4, l4, c4, t4, g4, h4, k4, rfl, x4, r4, e28⟩)
          refine hK.out _ _ ⟨cell_on e28 hHeld.1, cell_on e28 hHeld.2.1, cell_on e28 hHeld.2.2.1, cell_on e28 hHeld.2.2.2.1, cell_on e28 hHeld.2.2.2.2.1, cell_on e28 hHeld.2.2.2.2.2.1, also hHeld.2.2.2.2.2.2 e28⟩ (fun hHeld => ?_)
          clear hK Kc
          have n_x4_0_q : NA q d4 l4 := (r4 q lq trivial).1
          have n_x4_1_q : NA q g4 h4 := (r4 q lq trivial).2
          replace q1 := q1.below e28
          replace q2 := q2.below e28
          replace x3 := x3.below e28
          replace x_a := x_a.on e28
          replace x_b := x_b.on e28
          replace BB := also BB e28
          replace BU := also BU e28
          replace y_q := y_q.on e28
          replace lq := Nat.lt_of_lt_of_le lq e28.size
          refine take_call (i := 4) rfl (by kernel_rfl) (fun Kc hK => ?_)
          go_simp
          refine hK.out _ _ ⟨cell_on ((Below.refl _ _).alloc (Nat.le_refl _) _) hHeld.1, cell_on ((Below.refl _ _).alloc (Nat.le_refl _) _) hHeld.2.1, cell_on ((Below.refl _ _).alloc (Nat.le_refl _) _) hHeld.2.2.1, cell_on ((Below.refl _ _).alloc (Nat.le_refl _) _) hHeld.2.2.2.1, cell_on ((Below.refl _ _).alloc (Nat.le_refl _) _) hHeld.2.2.2.2.1, cell_on ((Below.refl _ _).alloc (Nat.le_refl _) _) hHeld.2.2.2.2.2.1, also hHeld.2.2.2.2.2.2 ((Below.refl _ _).alloc (Nat.le_refl _) _)⟩ (fun hHeld => ?_)
          clear hK Kc
          have y_p := b4_new X28 (.int .i64 0) (.slice none 0 0) (.int .i64 0) (.slice none 0 0) 34
          have e29 : Below X28.heap.size X28 (X28.alloc (.cells #[.int .i64 0, .slice none 0 0, .int .i64 0, .slice none 0 0] 34)) := (Below.refl _ _).alloc (Nat.le_refl _) _
          have lp : X28.heap.size < (X28.alloc (.cells #[.int .i64 0, .slice none 0 0, .int .i64 0, .slice none 0 0] 34)).heap.size := by simp
          have gp : U.heap.size ≤ X28.heap.size := BU.size
          have n_q1_0_p : NA X28.heap.size a1 m1 := q1.wi.ni.sl.na (Nat.le_refl _)
          have n_q1_1_p : NA X28.heap.size d1 k1 := q1.ni.sl.na (Nat.le_refl _)
          have n_q2_0_p : NA X28.heap.size a2 m2 := q2.wi.ni.sl.na (Nat.le_refl _)
          have n_q2_1_p : NA X28.heap.size d2 k2 := q2.ni.sl.na (Nat.le_refl _)
          have n_x3_0_p : NA X28.heap.size d3 l3 := x3.rn.hd.sl.na (Nat.le_refl _)
          have n_x3_1_p : NA X28.heap.size g3 h3 := x3.rd.hd.sl.na (Nat.le_refl _)
          have n_x4_0_p : NA X28.heap.size d4 l4 := x4.rn.hd.sl.na (Nat.le_refl _)
          have n_x4_1_p : NA X28.heap.size g4 h4 := x4.rd.hd.sl.na (Nat.le_refl _)
          have pq : X28.heap.size ≠ q := Nat.ne_of_gt lq
          generalize X28.alloc (.cells #[.int .i64 0, .slice none 0 0, .int .i64 0, .slice none 0 0] 34) = X29 at y_p e29 lp hHeld ⊢
          replace q1 := q1.below e29
          replace q2 := q2.below e29
          replace x3 := x3.below e29
          replace x4 := x4.below e29
          replace x_a := x_a.on e29
          replace x_b := x_b.on e29
          replace BB := also BB e29
          replace BU := also BU e29
          replace y_q := y_q.on e29
          replace lq := Nat.lt_of_lt_of_le lq e29.size
          generalize X28.heap.size = p at y_p lp gp n_q1_0_p n_q1_1_p n_q2_0_p n_q2_1_p n_x3_0_p n_x3_1_p n_x4_0_p n_x4_1_p pq ⊢
          have ⟨c_p_0, c_p_1, c_p_2, c_p_3, c_p_4, c_p_5, c_p_6, c_p_7⟩ : B4 X29 p (.int .i64 0) (.slice none 0 0) (.int .i64 0) (.slice none 0 0) := y_p
          refine take_call (i := 6) rfl (by kernel_rfl) (fun Kc hK => ?_)
          go_simp
          refine hK.out _ _ ⟨cell_put4 hHeld.1 (by omega) _ _ _ _, cell_put4 hHeld.2.1 (by omega) _ _ _ _, cell_put4 hHeld.2.2.1 (by omega) _ _ _ _, cell_put4 hHeld.2.2.2.1 (by omega) _ _ _ _, cell_put4 hHeld.2.2.2.2.1 (by omega) _ _ _ _, cell_put4 hHeld.2.2.2.2.2.1 (by omega) _ _ _ _, below_put4 hHeld.2.2.2.2.2.2 (by omega) _ _ _ _⟩ (fun hHeld => ?_)
          clear hK Kc
          have ⟨c_q_0, c_q_1, c_q_2, c_q_3, c_q_4, c_q_5, c_q_6, c_q_7⟩ : B4 ((((X29.setCell ⟨p, 0, none⟩ (.int .i64 s3)).setCell ⟨p, 1, none⟩ (.slice d3 l3 c3)).setCell ⟨p, 2, none⟩ (.int .i64 t3)).setCell ⟨p, 3, none⟩ (.slice g3 h3 k3)) q (.int .i64 0) (.slice none 0 0) (.int .i64 0) (.slice none 0 0) := ((((y_q.put pq).put pq).put pq).put pq)
          refine take_call (i := 7) rfl (by kernel_rfl) (fun Kc hK => ?_)
          go_simp
          refine hK.out _ _ ⟨cell_put4 hHeld.1 (by omega) _ _ _ _, cell_put4 hHeld.2.1 (by omega) _ _ _ _, cell_put4 hHeld.2.2.1 (by omega) _ _ _ _, cell_put4 hHeld.2.2.2.1 (by omega) _ _ _ _, cell_put4 hHeld.2.2.2.2.1 (by omega) _ _ _ _, cell_put4 hHeld.2.2.2.2.2.1 (by omega) _ _ _ _, below_put4 hHeld.2.2.2.2.2.2 (by omega) _ _ _ _⟩ (fun hHeld => ?_)
          clear hK Kc
          refine wpAnyH_done (by kernel_rfl) ?_ _
          rw [HQQ.out]
          exact ⟨rfl, p, q, s3, d3, l3, c3, t3, g3, h3, k3, s4, d4, l4, c4, t4, g4, h4, k4, rfl, ((((((((q1.put n_q1_0_p n_q1_1_p 0 _).put n_q1_0_p n_q1_1_p 1 _).put n_q1_0_p n_q1_1_p 2 _).put n_q1_0_p n_q1_1_p 3 _).put n_q1_0_q n_q1_1_q 0 _).put n_q1_0_q n_q1_1_q 1 _).put n_q1_0_q n_q1_1_q 2 _).put n_q1_0_q n_q1_1_q 3 _), ((((((((q2.put n_q2_0_p n_q2_1_p 0 _).put n_q2_0_p n_q2_1_p 1 _).put n_q2_0_p n_q2_1_p 2 _).put n_q2_0_p n_q2_1_p 3 _).put n_q2_0_q n_q2_1_q 0 _).put n_q2_0_q n_q2_1_q 1 _).put n_q2_0_q n_q2_1_q 2 _).put n_q2_0_q n_q2_1_q 3 _), ((((((((x3.put n_x3_0_p n_x3_1_p 0 _).put n_x3_0_p n_x3_1_p 1 _).put n_x3_0_p n_x3_1_p 2 _).put n_x3_0_p n_x3_1_p 3 _).put n_x3_0_q n_x3_1_q 0 _).put n_x3_0_q n_x3_1_q 1 _).put n_x3_0_q n_x3_1_q 2 _).put n_x3_0_q n_x3_1_q 3 _), ((((((((x4.put n_x4_0_p n_x4_1_p 0 _).put n_x4_0_p n_x4_1_p 1 _).put n_x4_0_p n_x4_1_p 2 _).put n_x4_0_p n_x4_1_p 3 _).put n_x4_0_q n_x4_1_q 0 _).put n_x4_0_q n_x4_1_q 1 _).put n_x4_0_q n_x4_1_q 2 _).put n_x4_0_q n_x4_1_q 3 _), ((((((((x_a.put (by omega)).put (by omega)).put (by omega)).put (by omega)).put (by omega)).put (by omega)).put (by omega)).put (by omega)), ((((((((x_b.put (by omega)).put (by omega)).put (by omega)).put (by omega)).put (by omega)).put (by omega)).put (by omega)).put (by omega)), ((((y_p.set.put (fun e => pq e.symm)).put (fun e => pq e.symm)).put (fun e => pq e.symm)).put (fun e => pq e.symm)), ((((y_q.put pq).put pq).put pq).put pq).set, (below_put4 (below_put4 BB (by omega) _ _ _ _) (by omega) _ _ _ _), by have := BU.size; simp only [World.size_setCell]; omega, ⟨gp, by simp only [World.size_setCell]; omega⟩, ⟨gq, by simp only [World.size_setCell]; omega⟩⟩
        · skip
          go_simp
          refine hK.out _ _ ⟨cell_on ((Below.refl _ _).alloc (Nat.le_refl _) _) hHeld.1, cell_on ((Below.refl _ _).alloc (Nat.le_refl _) _) hHeld.2.1, cell_on ((Below.refl _ _).alloc (Nat.le_refl _) _) hHeld.2.2.1, cell_on ((Below.refl _ _).alloc (Nat.le_refl _) _) hHeld.2.2.2.1, cell_on ((Below.refl _ _).alloc (Nat.le_refl _) _) hHeld.2.2.2.2.1, cell_on ((Below.refl _ _).alloc (Nat.le_refl _) _) hHeld.2.2.2.2.2.1, also hHeld.2.2.2.2.2.2 ((Below.refl _ _).alloc (Nat.le_refl _) _)⟩ (fun hHeld => ?_)
          clear hK Kc
          have y_p := b4_new X27 (.int .i64 0) (.slice none 0 0) (.int .i64 0) (.slice none 0 0) 34
          have e30 : Below X27.heap.size X27 (X27.alloc (.cells #[.int .i64 0, .slice none 0 0, .int .i64 0, .slice none 0 0] 34)) := (Below.refl _ _).alloc (Nat.le_refl _) _
          have lp : X27.heap.size < (X27.alloc (.cells #[.int .i64 0, .slice none 0 0, .int .i64 0, .slice none 0 0] 34)).heap.size := by simp
          have gp : U.heap.size ≤ X27.heap.size := BU.size
          have n_q1_0_p : NA X27.heap.size a1 m1 := q1.wi.ni.sl.na (Nat.le_refl _)
          have n_q1_1_p : NA X27.heap.size d1 k1 := q1.ni.sl.na (Nat.le_refl _)
          have n_q2_0_p : NA X27.heap.size a2 m2 := q2.wi.ni.sl.na (Nat.le_refl _)
          have n_q2_1_p : NA X27.heap.size d2 k2 := q2.ni.sl.na (Nat.le_refl _)
          have n_x3_0_p : NA X27.heap.size d3 l3 := x3.rn.hd.sl.na (Nat.le_refl _)
          have n_x3_1_p : NA X27.heap.size g3 h3 := x3.rd.hd.sl.na (Nat.le_refl _)
          have pq : X27.heap.size ≠ q := Nat.ne_of_gt lq
          generalize X27.alloc (.cells #[.int .i64 0, .slice none 0 0, .int .i64 0, .slice none 0 0] 34) = X30 at y_p e30 lp hHeld ⊢
          replace q1 := q1.below e30
          replace q2 := q2.below e30
          replace x3 := x3.below e30
          replace x_a := x_a.on e30
          replace x_b := x_b.on e30
          replace BB := also BB e30
          replace BU := also BU e30
          replace y_q := y_q.on e30
          replace lq := Nat.lt_of_lt_of_le lq e30.size
          generalize X27.heap.size = p at y_p lp gp n_q1_0_p n_q1_1_p n_q2_0_p n_q2_1_p n_x3_0_p n_x3_1_p pq ⊢
          refine take_call (i := 3) rfl (by kernel_rfl) (fun Kc hK => ?_)
          go_simp
          (go_at_call 8; refine (rqOf m a2 m2 c2 d2 k2 g2 Y B 6 _ q2).mono ?_; rintro e X31 ⟨s4, d4, l4, c4, t4, g4, h4, k4, rfl, x4, r4, e31⟩)
          refine hK.out _ _ ⟨cell_on e31 hHeld.1, cell_on e31 hHeld.2.1, cell_on e31 hHeld.2.2.1, cell_on e31 hHeld.2.2.2.1, cell_on e31 hHeld.2.2.2.2.1, cell_on e31 hHeld.2.2.2.2.2.1, also hHeld.2.2.2.2.2.2 e31⟩ (fun hHeld => ?_)
          clear hK Kc
          have n_x4_0_q : NA q d4 l4 := (r4 q lq trivial).1
          have n_x4_0_p : NA p d4 l4 := (r4 p lp trivial).1
          have n_x4_1_q : NA q g4 h4 := (r4 q lq trivial).2
          have n_x4_1_p : NA p g4 h4 := (r4 p lp trivial).2
          replace q1 := q1.below e31
          replace q2 := q2.below e31
          replace x3 := x3.below e31
          replace x_a := x_a.on e31
          replace x_b := x_b.on e31
          replace BB := also BB e31
          replace BU := also BU e31
          replace y_q := y_q.on e31
          replace lq := Nat.lt_of_lt_of_le lq e31.size
          replace y_p := y_p.on e31
          replace lp := Nat.lt_of_lt_of_le lp e31.size
          have ⟨c_p_0, c_p_1, c_p_2, c_p_3, c_p_4, c_p_5, c_p_6, c_p_7⟩ : B4 X31 p (.int .i64 0) (.slice none 0 0) (.int .i64 0) (.slice none 0 0) := y_p
          refine take_call (i := 6) rfl (by kernel_rfl) (fun Kc hK => ?_)
          go_simp
          refine hK.out _ _ ⟨cell_put4 hHeld.1 (by omega) _ _ _ _, cell_put4 hHeld.2.1 (by omega) _ _ _ _, cell_put4 hHeld.2.2.1 (by omega) _ _ _ _, cell_put4 hHeld.2.2.2.1 (by omega) _ _ _ _, cell_put4 hHeld.2.2.2.2.1 (by omega) _ _ _ _, cell_put4 hHeld.2.2.2.2.2.1 (by omega) _ _ _ _, below_put4 hHeld.2.2.2.2.2.2 (by omega) _ _ _ _⟩ (fun hHeld => ?_)
          clear hK Kc
          have ⟨c_q_0, c_q_1, c_q_2, c_q_3, c_q_4, c_q_5, c_q_6, c_q_7⟩ : B4 ((((X31.setCell ⟨p, 0, none⟩ (.int .i64 s3)).setCell ⟨p, 1, none⟩ (.slice d3 l3 c3)).setCell ⟨p, 2, none⟩ (.int .i64 t3)).setCell ⟨p, 3, none⟩ (.slice g3 h3 k3)) q (.int .i64 0) (.slice none 0 0) (.int .i64 0) (.slice none 0 0) := ((((y_q.put pq).put pq).put pq).put pq)
          refine take_call (i := 7) rfl (by kernel_rfl) (fun Kc hK => ?_)
          go_simp
          refine hK.out _ _ ⟨cell_put4 hHeld.1 (by omega) _ _ _ _, cell_put4 hHeld.2.1 (by omega) _ _ _ _, cell_put4 hHeld.2.2.1 (by omega) _ _ _ _, cell_put4 hHeld.2.2.2.1 (by omega) _ _ _ _, cell_put4 hHeld.2.2.2.2.1 (by omega) _ _ _ _, cell_put4 hHeld.2.2.2.2.2.1 (by omega) _ _ _ _, below_put4 hHeld.2.2.2.2.2.2 (by omega) _ _ _ _⟩ (fun hHeld => ?_)
          clear hK Kc
          refine wpAnyH_done (by kernel_rfl) ?_ _
          rw [HQQ.out]
          exact ⟨rfl, p, q, s3, d3, l3, c3, t3, g3, h3, k3, s4, d4, l4, c4, t4, g4, h4, k4, rfl, ((((((((q1.put n_q1_0_p n_q1_1_p 0 _).put n_q1_0_p n_q1_1_p 1 _).put n_q1_0_p n_q1_1_p 2 _).put n_q1_0_p n_q1_1_p 3 _).put n_q1_0_q n_q1_1_q 0 _).put n_q1_0_q n_q1_1_q 1 _).put n_q1_0_q n_q1_1_q 2 _).put n_q1_0_q n_q1_1_q 3 _), ((((((((q2.put n_q2_0_p n_q2_1_p 0 _).put n_q2_0_p n_q2_1_p 1 _).put n_q2_0_p n_q2_1_p 2 _).put n_q2_0_p n_q2_1_p 3 _).put n_q2_0_q n_q2_1_q 0 _).put n_q2_0_q n_q2_1_q 1 _).put n_q2_0_q n_q2_1_q 2 _).put n_q2_0_q n_q2_1_q 3 _), ((((((((x3.put n_x3_0_p n_x3_1_p 0 _).put n_x3_0_p n_x3_1_p 1 _).put n_x3_0_p n_x3_1_p 2 _).put n_x3_0_p n_x3_1_p 3 _).put n_x3_0_q n_x3_1_q 0 _).put n_x3_0_q n_x3_1_q 1 _).put n_x3_0_q n_x3_1_q 2 _).put n_x3_0_q n_x3_1_q 3 _), ((((((((x4.put n_x4_0_p n_x4_1_p 0 _).put n_x4_0_p n_x4_1_p 1 _).put n_x4_0_p n_x4_1_p 2 _).put n_x4_0_p n_x4_1_p 3 _).put n_x4_0_q n_x4_1_q 0 _).put n_x4_0_q n_x4_1_q 1 _).put n_x4_0_q n_x4_1_q 2 _).put n_x4_0_q n_x4_1_q 3 _), ((((((((x_a.put (by omega)).put (by omega)).put (by omega)).put (by omega)).put (by omega)).put (by omega)).put (by omega)).put (by omega)), ((((((((x_b.put (by omega)).put (by omega)).put (by omega)).put (by omega)).put (by omega)).put (by omega)).put (by omega)).put (by omega)), ((((y_p.set.put (fun e => pq e.symm)).put (fun e => pq e.symm)).put (fun e => pq e.symm)).put (fun e => pq e.symm)), ((((y_q.put pq).put pq).put pq).put pq).set, (below_put4 (below_put4 BB (by omega) _ _ _ _) (by omega) _ _ _ _), by have := BU.size; simp only [World.size_setCell]; omega, ⟨gp, by simp only [World.size_setCell]; omega⟩, ⟨gq, by simp only [World.size_setCell]; omega⟩⟩
      · skip
        go_simp
        refine hK.out _ _ ⟨cell_on ((Below.refl _ _).alloc (Nat.le_refl _) _) hHeld.1, cell_on ((Below.refl _ _).alloc (Nat.le_refl _) _) hHeld.2.1, cell_on ((Below.refl _ _).alloc (Nat.le_refl _) _) hHeld.2.2.1, cell_on ((Below.refl _ _).alloc (Nat.le_refl _) _) hHeld.2.2.2.1, cell_on ((Below.refl _ _).alloc (Nat.le_refl _) _) hHeld.2.2.2.2.1, cell_on ((Below.refl _ _).alloc (Nat.le_refl _) _) hHeld.2.2.2.2.2.1, also hHeld.2.2.2.2.2.2 ((Below.refl _ _).alloc (Nat.le_refl _) _)⟩ (fun hHeld => ?_)
        clear hK Kc
        have y_p := b4_new X26 (.int .i64 0) (.slice none 0 0) (.int .i64 0) (.slice none 0 0) 34
        have e32 : Below X26.heap.size X26 (X26.alloc (.cells #[.int .i64 0, .slice none 0 0, .int .i64 0, .slice none 0 0] 34)) := (Below.refl _ _).alloc (Nat.le_refl _) _
        have lp : X26.heap.size < (X26.alloc (.cells #[.int .i64 0, .slice none 0 0, .int .i64 0, .slice none 0 0] 34)).heap.size := by simp
        have gp : U.heap.size ≤ X26.heap.size := BU.size
        have n_q1_0_p : NA X26.heap.size a1 m1 := q1.wi.ni.sl.na (Nat.le_refl _)
        have n_q1_1_p : NA X26.heap.size d1 k1 := q1.ni.sl.na (Nat.le_refl _)
        have n_q2_0_p : NA X26.heap.size a2 m2 := q2.wi.ni.sl.na (Nat.le_refl _)
        have n_q2_1_p : NA X26.heap.size d2 k2 := q2.ni.sl.na (Nat.le_refl _)
        have pq : X26.heap.size ≠ q := Nat.ne_of_gt lq
        generalize X26.alloc (.cells #[.int .i64 0, .slice none 0 0, .int .i64 0, .slice none 0 0] 34) = X32 at y_p e32 lp hHeld ⊢
        replace q1 := q1.below e32
        replace q2 := q2.below e32
        replace x_a := x_a.on e32
        replace x_b := x_b.on e32
        replace BB := also BB e32
        replace BU := also BU e32
        replace y_q := y_q.on e32
        replace lq := Nat.lt_of_lt_of_le lq e32.size
        generalize X26.heap.size = p at y_p lp gp n_q1_0_p n_q1_1_p n_q2_0_p n_q2_1_p pq ⊢
        refine take_call (i := 1) rfl (by kernel_rfl) (fun Kc hK => ?_)
        go_simp
        (go_at_call 8; refine (rqOf n a1 m1 c1 d1 k1 g1 X A 6 _ q1).mono ?_; rintro e X33 ⟨s3, d3, l3, c3, t3, g3, h3, k3, rfl, x3, r3, e33⟩)
        refine hK.out _ _ ⟨cell_on e33 hHeld.1, cell_on e33 hHeld.2.1, cell_on e33 hHeld.2.2.1, cell_on e33 hHeld.2.2.2.1, cell_on e33 hHeld.2.2.2.2.1, cell_on e33 hHeld.2.2.2.2.2.1, also hHeld.2.2.2.2.2.2 e33⟩ (fun hHeld => ?_)
        clear hK Kc
        have n_x3_0_q : NA q d3 l3 := (r3 q lq trivial).1
        have n_x3_0_p : NA p d3 l3 := (r3 p lp trivial).1
        have n_x3_1_q : NA q g3 h3 := (r3 q lq trivial).2
        have n_x3_1_p : NA p g3 h3 := (r3 p lp trivial).2
        replace q1 := q1.below e33
        replace q2 := q2.below e33
        replace x_a := x_a.on e33
        replace x_b := x_b.on e33
        replace BB := also BB e33
        replace BU := also BU e33
        replace y_q := y_q.on e33
        replace lq := Nat.lt_of_lt_of_le lq e33.size
        replace y_p := y_p.on e33
        replace lp := Nat.lt_of_lt_of_le lp e33.size
        refine take_call (i := 3) rfl (by kernel_rfl) (fun Kc hK => ?_)
        go_simp
        (go_at_call 8; refine (rqOf m a2 m2 c2 d2 k2 g2 Y B 6 _ q2).mono ?_; rintro e X34 ⟨s4, d4, l4, c4, t4, g4, h4, k4, rfl, x4, r4, e34⟩)
        refine hK.out _ _ ⟨cell_on e34 hHeld.1, cell_on e34 hHeld.2.1, cell_on e34 hHeld.2.2.1, cell_on e34 hHeld.2.2.2.1, cell_on e34 hHeld.2.2.2.2.1, cell_on e34 hHeld.2.2.2.2.2.1, also hHeld.2.2.2.2.2.2 e34⟩ (fun hHeld => ?_)
        clear hK Kc
        have n_x4_0_q : NA q d4 l4 := (r4 q lq trivial).1
        have n_x4_0_p : NA p d4 l4 := (r4 p lp trivial).1
        have n_x4_1_q : NA q g4 h4 := (r4 q lq trivial).2
        have n_x4_1_p : NA p g4 h4 := (r4 p lp trivial).2
        replace q1 := q1.below e34
        replace q2 := q2.below e34
        replace x3 := x3.below e34
        replace x_a := x_a.on e34
        replace x_b := x_b.on e34
        replace BB := also BB e34
        replace BU := also BU e34
        replace y_q := y_q.on e34
        replace lq := Nat.lt_of_lt_of_le lq e34.size
        replace y_p := y_p.on e34
        replace lp := Nat.lt_of_lt_of_le lp e34.size
        have ⟨c_p_0, c_p_1, c_p_2, c_p_3, c_p_4, c_p_5, c_p_6, c_p_7⟩ : B4 X34 p (.int .i64 0) (.slice none 0 0) (.int .i64 0) (.slice none 0 0) := y_p
        refine take_call (i := 6) rfl (by kernel_rfl) (fun Kc hK => ?_)
        go_simp
        refine hK.out _ _ ⟨cell_put4 hHeld.1 (by omega) _ _ _ _, cell_put4 hHeld.2.1 (by omega) _ _ _ _, cell_put4 hHeld.2.2.1 (by omega) _ _ _ _, cell_put4 hHeld.2.2.2.1 (by omega) _ _ _ _, cell_put4 hHeld.2.2.2.2.1 (by omega) _ _ _ _, cell_put4 hHeld.2.2.2.2.2.1 (by omega) _ _ _ _, below_put4 hHeld.2.2.2.2.2.2 (by omega) _ _ _ _⟩ (fun hHeld => ?_)
        clear hK Kc
        have ⟨c_q_0, c_q_1, c_q_2, c_q_3, c_q_4, c_q_5, c_q_6, c_q_7⟩ : B4 ((((X34.setCell ⟨p, 0, none⟩ (.int .i64 s3)).setCell ⟨p, 1, none⟩ (.slice d3 l3 c3)).setCell ⟨p, 2, none⟩ (.int .i64 t3)).setCell ⟨p, 3, none⟩ (.slice g3 h3 k3)) q (.int .i64 0) (.slice none 0 0) (.int .i64 0) (.slice none 0 0) := ((((y_q.put pq).put pq).put pq).put pq)
        refine take_call (i := 7) rfl (by kernel_rfl) (fun Kc hK => ?_)
        go_simp
        refine hK.out _ _ ⟨cell_put4 hHeld.1 (by omega) _ _ _ _, cell_put4 hHeld.2.1 (by omega) _ _ _ _, cell_put4 hHeld.2.2.1 (by omega) _ _ _ _, cell_put4 hHeld.2.2.2.1 (by omega) _ _ _ _, cell_put4 hHeld.2.2.2.2.1 (by omega) _ _ _ _, cell_put4 hHeld.2.2.2.2.2.1 (by omega) _ _ _ _, below_put4 hHeld.2.2.2.2.2.2 (by omega) _ _ _ _⟩ (fun hHeld => ?_)
        clear hK Kc
        refine wpAnyH_done (by kernel_rfl) ?_ _
        rw [HQQ.out]
        exact ⟨rfl, p, q, s3, d3, l3, c3, t3, g3, h3, k3, s4, d4, l4, c4, t4, g4, h4, k4, rfl, ((((((((q1.put n_q1_0_p n_q1_1_p 0 _).put n_q1_0_p n_q1_1_p 1 _).put n_q1_0_p n_q1_1_p 2 _).put n_q1_0_p n_q1_1_p 3 _).put n_q1_0_q n_q1_1_q 0 _).put n_q1_0_q n_q1_1_q 1 _).put n_q1_0_q n_q1_1_q 2 _).put n_q1_0_q n_q1_1_q 3 _), ((((((((q2.put n_q2_0_p n_q2_1_p 0 _).put n_q2_0_p n_q2_1_p 1 _).put n_q2_0_p n_q2_1_p 2 _).put n_q2_0_p n_q2_1_p 3 _).put n_q2_0_q n_q2_1_q 0 _).put n_q2_0_q n_q2_1_q 1 _).put n_q2_0_q n_q2_1_q 2 _).put n_q2_0_q n_q2_1_q 3 _), ((((((((x3.put n_x3_0_p n_x3_1_p 0 _).put n_x3_0_p n_x3_1_p 1 _).put n_x3_0_p n_x3_1_p 2 _).put n_x3_0_p n_x3_1_p 3 _).put n_x3_0_q n_x3_1_q 0 _).put n_x3_0_q n_x3_1_q 1 _).put n_x3_0_q n_x3_1_q 2 _).put n_x3_0_q n_x3_1_q 3 _), ((((((((x4.put n_x4_0_p n_x4_1_p 0 _).put n_x4_0_p n_x4_1_p 1 _).put n_x4_0_p n_x4_1_p 2 _).put n_x4_0_p n_x4_1_p 3 _).put n_x4_0_q n_x4_1_q 0 _).put n_x4_0_q n_x4_1_q 1 _).put n_x4_0_q n_x4_1_q 2 _).put n_x4_0_q n_x4_1_q 3 _), ((((((((x_a.put (by omega)).put (by omega)).put (by omega)).put (by omega)).put (by omega)).put (by omega)).put (by omega)).put (by omega)), ((((((((x_b.put (by omega)).put (by omega)).put (by omega)).put (by omega)).put (by omega)).put (by omega)).put (by omega)).put (by omega)), ((((y_p.set.put (fun e => pq e.symm)).put (fun e => pq e.symm)).put (fun e => pq e.symm)).put (fun e => pq e.symm)), ((((y_q.put pq).put pq).put pq).put pq).set, (below_put4 (below_put4 BB (by omega) _ _ _ _) (by omega) _ _ _ _), by have := BU.size; simp only [World.size_setCell]; omega, ⟨gp, by simp only [World.size_setCell]; omega⟩, ⟨gq, by simp only [World.size_setCell]; omega⟩⟩
  rw [HQQ.out]
  rintro e act Y1 ⟨rfl, p, q, s3, d3, l3, c3, t3, g3, h3, k3, s4, d4, l4, c4, t4, g4, h4, k4, rfl, q1, q2, x3, x4, x_a, x_b, x_x, x_y, BB, z_Y1, z_Y1_p, z_Y1_q⟩
  clear HQQ QQ
  dsimp only
  have HSub : Hid ((pN X A * (pD B : Int) - pN Y B * (pD A : Int)) = pN X A * (pD B : Int) + -(pN Y B) * (pD A : Int)) := by unfold Hid; rw [Int.neg_mul, Int.sub_eq_add_neg]
  go_wp2
  have dd2 : Below Y1.heap.size Y1 Y1.drew := (Below.refl _ _).drew
  have zdd2 := dd2.size
  replace BB := also BB dd2
  replace x_a := x_a.on dd2
  replace x_b := x_b.on dd2
  replace q1 := q1.below dd2
  replace q2 := q2.below dd2
  replace x3 := x3.below dd2
  replace x4 := x4.below dd2
  replace x_x := x_x.on dd2
  replace x_y := x_y.on dd2
  refine wp_region_held_drew (S := (fun w' => w'.cell? ⟨w.heap.size, 0, none⟩ = some (.bool n) ∧ w'.cell? ⟨w.heap.size, 1, none⟩ = some (.slice a1 m1 c1) ∧ w'.cell? ⟨w.heap.size, 2, none⟩ = some (.slice d1 k1 g1) ∧ w'.cell? ⟨w.heap.size + 1, 0, none⟩ = some (.bool m) ∧ w'.cell? ⟨w.heap.size + 1, 1, none⟩ = some (.slice a2 m2 c2) ∧ w'.cell? ⟨w.heap.size + 1, 2, none⟩ = some (.slice d2 k2 g2) ∧ w'.cell? ⟨p, 0, none⟩ = some (.int .i64 s3) ∧ w'.cell? ⟨p, 1, none⟩ = some (.slice d3 l3 c3) ∧ w'.cell? ⟨p, 2, none⟩ = some (.int .i64 t3) ∧ w'.cell? ⟨p, 3, none⟩ = some (.slice g3 h3 k3) ∧ w'.cell? ⟨q, 0, none⟩ = some (.int .i64 s4) ∧ w'.cell? ⟨q, 1, none⟩ = some (.slice d4 l4 c4) ∧ w'.cell? ⟨q, 2, none⟩ = some (.int .i64 t4) ∧ w'.cell? ⟨q, 3, none⟩ = some (.slice g4 h4 k4) ∧ Below w.heap.size w w')) (by kernel_rfl) ?_ (fun hHeld => ?_)
  · first | exact ⟨x_a.c0, x_a.c1, x_a.c2, x_b.c0, x_b.c1, x_b.c2, x_x.c0, x_x.c1, x_x.c2, x_x.c3, x_y.c0, x_y.c1, x_y.c2, x_y.c3, BB⟩ | exact ⟨cell_on bw16 hHeld.1, cell_on bw16 hHeld.2.1, cell_on bw16 hHeld.2.2.1, cell_on bw16 hHeld.2.2.2.1, cell_on bw16 hHeld.2.2.2.2.1, cell_on bw16 hHeld.2.2.2.2.2.1, cell_on bw16 hHeld.2.2.2.2.2.2.1, cell_on bw16 hHeld.2.2.2.2.2.2.2.1, cell_on bw16 hHeld.2.2.2.2.2.2.2.2.1, cell_on bw16 hHeld.2.2.2.2.2.2.2.2.2.1, cell_on bw16 hHeld.2.2.2.2.2.2.2.2.2.2.1, cell_on bw16 hHeld.2.2.2.2.2.2.2.2.2.2.2.1, cell_on bw16 hHeld.2.2.2.2.2.2.2.2.2.2.2.2.1, cell_on bw16 hHeld.2.2.2.2.2.2.2.2.2.2.2.2.2.1, also hHeld.2.2.2.2.2.2.2.2.2.2.2.2.2.2 bw16⟩ | exact ⟨cell_on bw15 hHeld.1, cell_on bw15 hHeld.2.1, cell_on bw15 hHeld.2.2.1, cell_on bw15 hHeld.2.2.2.1, cell_on bw15 hHeld.2.2.2.2.1, cell_on bw15 hHeld.2.2.2.2.2.1, cell_on bw15 hHeld.2.2.2.2.2.2.1, cell_on bw15 hHeld.2.2.2.2.2.2.2.1, cell_on bw15 hHeld.2.2.2.2.2.2.2.2.1, cell_on bw15 hHeld.2.2.2.2.2.2.2.2.2.1, cell_on bw15 hHeld.2.2.2.2.2.2.2.2.2.2.1, cell_on bw15 hHeld.2.2.2.2.2.2.2.2.2.2.2.1, cell_on bw15 hHeld.2.2.2.2.2.2.2.2.2.2.2.2.1, cell_on bw15 hHeld.2.2.2.2.2.2.2.2.2.2.2.2.2.1, also hHeld.2.2.2.2.2.2.2.2.2.2.2.2.2.2 bw15⟩ | exact ⟨cell_on bw14 hHeld.1, cell_on bw14 hHeld.2.1, cell_on bw14 hHeld.2.2.1, cell_on bw14 hHeld.2.2.2.1, cell_on bw14 hHeld.2.2.2.2.1, cell_on bw14 hHeld.2.2.2.2.2.1, cell_on bw14 hHeld.2.2.2.2.2.2.1, cell_on bw14 hHeld.2.2.2.2.2.2.2.1, cell_on bw14 hHeld.2.2.2.2.2.2.2.2.1, cell_on bw14 hHeld.2.2.2.2.2.2.2.2.2.1, cell_on bw14 hHeld.2.2.2.2.2.2.2.2.2.2.1, cell_on bw14 hHeld.2.2.2.2.2.2.2.2.2.2.2.1, cell_on bw14 hHeld.2.2.2.2.2.2.2.2.2.2.2.2.1, cell_on bw14 hHeld.2.2.2.2.2.2.2.2.2.2.2.2.2.1, also hHeld.2.2.2.2.2.2.2.2.2.2.2.2.2.2 bw14⟩ | exact ⟨cell_on bw13 hHeld.1, cell_on bw13 hHeld.2.1, cell_on bw13 hHeld.2.2.1, cell_on bw13 hHeld.2.2.2.1, cell_on bw13 hHeld.2.2.2.2.1, cell_on bw13 hHeld.2.2.2.2.2.1, cell_on bw13 hHeld.2.2.2.2.2.2.1, cell_on bw13 hHeld.2.2.2.2.2.2.2.1, cell_on bw13 hHeld.2.2.2.2.2.2.2.2.1, cell_on bw13 hHeld.2.2.2.2.2.2.2.2.2.1, cell_on bw13 hHeld.2.2.2.2.2.2.2.2.2.2.1, cell_on bw13 hHeld.2.2.2.2.2.2.2.2.2.2.2.1, cell_on bw13 hHeld.2.2.2.2.2.2.2.2.2.2.2.2.1, cell_on bw13 hHeld.2.2.2.2.2.2.2.2.2.2.2.2.2.1, also hHeld.2.2.2.2.2.2.2.2.2.2.2.2.2.2 bw13⟩ | exact ⟨cell_on bw12 hHeld.1, cell_on bw12 hHeld.2.1, cell_on bw12 hHeld.2.2.1, cell_on bw12 hHeld.2.2.2.1, cell_on bw12 hHeld.2.2.2.2.1, cell_on bw12 hHeld.2.2.2.2.2.1, cell_on bw12 hHeld.2.2.2.2.2.2.1, cell_on bw12 hHeld.2.2.2.2.2.2.2.1, cell_on bw12 hHeld.2.2.2.2.2.2.2.2.1, cell_on bw12 hHeld.2.2.2.2.2.2.2.2.2.1, cell_on bw12 hHeld.2.2.2.2.2.2.2.2.2.2.1, cell_on bw12 hHeld.2.2.2.2.2.2.2.2.2.2.2.1, cell_on bw12 hHeld.2.2.2.2.2.2.2.2.2.2.2.2.1, cell_on bw12 hHeld.2.2.2.2.2.2.2.2.2.2.2.2.2.1, also hHeld.2.2.2.2.2.2.2.2.2.2.2.2.2.2 bw12⟩ | exact ⟨cell_on bw11 hHeld.1, cell_on bw11 hHeld.2.1, cell_on bw11 hHeld.2.2.1, cell_on bw11 hHeld.2.2.2.1, cell_on bw11 hHeld.2.2.2.2.1, cell_on bw11 hHeld.2.2.2.2.2.1, cell_on bw11 hHeld.2.2.2.2.2.2.1, cell_on bw11 hHeld.2.2.2.2.2.2.2.1, cell_on bw11 hHeld.2.2.2.2.2.2.2.2.1, cell_on bw11 hHeld.2.2.2.2.2.2.2.2.2.1, cell_on bw11 hHeld.2.2.2.2.2.2.2.2.2.2.1, cell_on bw11 hHeld.2.2.2.2.2.2.2.2.2.2.2.1, cell_on bw11 hHeld.2.2.2.2.2.2.2.2.2.2.2.2.1, cell_on bw11 hHeld.2.2.2.2.2.2.2.2.2.2.2.2.2.1, also hHeld.2.2.2.2.2.2.2.2.2.2.2.2.2.2 bw11⟩ | exact ⟨cell_on bw10 hHeld.1, cell_on bw10 hHeld.2.1, cell_on bw10 hHeld.2.2.1, cell_on bw10 hHeld.2.2.2.1, cell_on bw10 hHeld.2.2.2.2.1, cell_on bw10 hHeld.2.2.2.2.2.1, cell_on bw10 hHeld.2.2.2.2.2.2.1, cell_on bw10 hHeld.2.2.2.2.2.2.2.1, cell_on bw10 hHeld.2.2.2.2.2.2.2.2.1, cell_on bw10 hHeld.2.2.2.2.2.2.2.2.2.1, cell_on bw10 hHeld.2.2.2.2.2.2.2.2.2.2.1, cell_on bw10 hHeld.2.2.2.2.2.2.2.2.2.2.2.1, cell_on bw10 hHeld.2.2.2.2.2.2.2.2.2.2.2.2.1, cell_on bw10 hHeld.2.2.2.2.2.2.2.2.2.2.2.2.2.1, also hHeld.2.2.2.2.2.2.2.2.2.2.2.2.2.2 bw10⟩ | exact ⟨cell_on bw9 hHeld.1, cell_on bw9 hHeld.2.1, cell_on bw9 hHeld.2.2.1, cell_on bw9 hHeld.2.2.2.1, cell_on bw9 hHeld.2.2.2.2.1, cell_on bw9 hHeld.2.2.2.2.2.1, cell_on bw9 hHeld.2.2.2.2.2.2.1, cell_on bw9 hHeld.2.2.2.2.2.2.2.1, cell_on bw9 hHeld.2.2.2.2.2.2.2.2.1, cell_on bw9 hHeld.2.2.2.2.2.2.2.2.2.1, cell_on bw9 hHeld.2.2.2.2.2.2.2.2.2.2.1, cell_on bw9 hHeld.2.2.2.2.2.2.2.2.2.2.2.1, cell_on bw9 hHeld.2.2.2.2.2.2.2.2.2.2.2.2.1, cell_on bw9 hHeld.2.2.2.2.2.2.2.2.2.2.2.2.2.1, also hHeld.2.2.2.2.2.2.2.2.2.2.2.2.2.2 bw9⟩ | exact ⟨cell_on bw8 hHeld.1, cell_on bw8 hHeld.2.1, cell_on bw8 hHeld.2.2.1, cell_on bw8 hHeld.2.2.2.1, cell_on bw8 hHeld.2.2.2.2.1, cell_on bw8 hHeld.2.2.2.2.2.1, cell_on bw8 hHeld.2.2.2.2.2.2.1, cell_on bw8 hHeld.2.2.2.2.2.2.2.1, cell_on bw8 hHeld.2.2.2.2.2.2.2.2.1, cell_on bw8 hHeld.2.2.2.2.2.2.2.2.2.1, cell_on bw8 hHeld.2.2.2.2.2.2.2.2.2.2.1, cell_on bw8 hHeld.2.2.2.2.2.2.2.2.2.2.2.1, cell_on bw8 hHeld.2.2.2.2.2.2.2.2.2.2.2.2.1, cell_on bw8 hHeld.2.2.2.2.2.2.2.2.2.2.2.2.2.1, also hHeld.2.2.2.2.2.2.2.2.2.2.2.2.2.2 bw8⟩ | exact ⟨cell_on bw7 hHeld.1, cell_on bw7 hHeld.2.1, cell_on bw7 hHeld.2.2.1, cell_on bw7 hHeld.2.2.2.1, cell_on bw7 hHeld.2.2.2.2.1, cell_on bw7 hHeld.2.2.2.2.2.1, cell_on bw7 hHeld.2.2.2.2.2.2.1, cell_on bw7 hHeld.2.2.2.2.2.2.2.1, cell_on bw7 hHeld.2.2.2.2.2.2.2.2.1, cell_on bw7 hHeld.2.2.2.2.2.2.2.2.2.1, cell_on bw7 hHeld.2.2.2.2.2.2.2.2.2.2.1, cell_on bw7 hHeld.2.2.2.2.2.2.2.2.2.2.2.1, cell_on bw7 hHeld.2.2.2.2.2.2.2.2.2.2.2.2.1, cell_on bw7 hHeld.2.2.2.2.2.2.2.2.2.2.2.2.2.1, also hHeld.2.2.2.2.2.2.2.2.2.2.2.2.2.2 bw7⟩ | exact ⟨cell_on bw6 hHeld.1, cell_on bw6 hHeld.2.1, cell_on bw6 hHeld.2.2.1, cell_on bw6 hHeld.2.2.2.1, cell_on bw6 hHeld.2.2.2.2.1, cell_on bw6 hHeld.2.2.2.2.2.1, cell_on bw6 hHeld.2.2.2.2.2.2.1, cell_on bw6 hHeld.2.2.2.2.2.2.2.1, cell_on bw6 hHeld.2.2.2.2.2.2.2.2.1, cell_on bw6 hHeld.2.2.2.2.2.2.2.2.2.1, cell_on bw6 hHeld.2.2.2.2.2.2.2.2.2.2.1, cell_on bw6 hHeld.2.2.2.2.2.2.2.2.2.2.2.1, cell_on bw6 hHeld.2.2.2.2.2.2.2.2.2.2.2.2.1, cell_on bw6 hHeld.2.2.2.2.2.2.2.2.2.2.2.2.2.1, also hHeld.2.2.2.2.2.2.2.2.2.2.2.2.2.2 bw6⟩ | exact ⟨cell_on bw5 hHeld.1, cell_on bw5 hHeld.2.1, cell_on bw5 hHeld.2.2.1, cell_on bw5 hHeld.2.2.2.1, cell_on bw5 hHeld.2.2.2.2.1, cell_on bw5 hHeld.2.2.2.2.2.1, cell_on bw5 hHeld.2.2.2.2.2.2.1, cell_on bw5 hHeld.2.2.2.2.2.2.2.1, cell_on bw5 hHeld.2.2.2.2.2.2.2.2.1, cell_on bw5 hHeld.2.2.2.2.2.2.2.2.2.1, cell_on bw5 hHeld.2.2.2.2.2.2.2.2.2.2.1, cell_on bw5 hHeld.2.2.2.2.2.2.2.2.2.2.2.1, cell_on bw5 hHeld.2.2.2.2.2.2.2.2.2.2.2.2.1, cell_on bw5 hHeld.2.2.2.2.2.2.2.2.2.2.2.2.2.1, also hHeld.2.2.2.2.2.2.2.2.2.2.2.2.2.2 bw5⟩
  refine take_yes (i := 0) (v := ?vw0) rfl (by kernel_rfl) (by kernel_rfl) (by kernel_rfl) (fun _ _ _ h => h) (by rfl) (by assumption) ?hyw0 ?restw0
  case hyw0 => (intro w hSw; (try dsimp only at hSw); first | (go_simp; done) | (go_simp; with_reducible rfl))
  simp only [Act.put, List.setIfInBounds_toArray, List.set_cons_zero, List.set_cons_succ]
  refine take_yes (i := 1) (v := ?vw1) rfl (by kernel_rfl) (by kernel_rfl) (by kernel_rfl) (fun _ _ _ h => h) (by rfl) (by assumption) ?hyw1 ?restw1
  case hyw1 => (intro w hSw; (try dsimp only at hSw); first | (go_simp; done) | (go_simp; with_reducible rfl))
  simp only [Act.put, List.setIfInBounds_toArray, List.set_cons_zero, List.set_cons_succ]
  refine take_yes (i := 3) (v := ?vw3) rfl (by kernel_rfl) (by kernel_rfl) (by kernel_rfl) (fun _ _ _ h => h) (by rfl) (by assumption) ?hyw3 ?restw3
  case hyw3 => (intro w hSw; (try dsimp only at hSw); first | (go_simp; done) | (go_simp; with_reducible rfl))
  simp only [Act.put, List.setIfInBounds_toArray, List.set_cons_zero, List.set_cons_succ]
  refine take_yes (i := 4) (v := ?vw4) rfl (by kernel_rfl) (by kernel_rfl) (by kernel_rfl) (fun _ _ _ h => h) (by rfl) (by assumption) ?hyw4 ?restw4
  case hyw4 => (intro w hSw; (try dsimp only at hSw); first | (go_simp; done) | (go_simp; with_reducible rfl))
  simp only [Act.put, List.setIfInBounds_toArray, List.set_cons_zero, List.set_cons_succ]
  refine take_call (i := 2) rfl (by kernel_rfl) (fun Kc hK => ?_)
  go_simp
  (go_at_call 10; refine (qAdd n a1 m1 c1 d1 k1 g1 X A m a2 m2 c2 d2 k2 g2 Y B 6 _ q1 q2 _ _ rfl rfl).mono ?_; rintro e w5 ⟨n5, a5, l5, c5, d5, m5, k5, rfl, h5, f5, e5, bw5⟩)
  refine hK.out _ _ ?_ (fun hHeld => ?_)
  · first | exact ⟨x_a.c0, x_a.c1, x_a.c2, x_b.c0, x_b.c1, x_b.c2, x_x.c0, x_x.c1, x_x.c2, x_x.c3, x_y.c0, x_y.c1, x_y.c2, x_y.c3, BB⟩ | exact ⟨cell_on bw16 hHeld.1, cell_on bw16 hHeld.2.1, cell_on bw16 hHeld.2.2.1, cell_on bw16 hHeld.2.2.2.1, cell_on bw16 hHeld.2.2.2.2.1, cell_on bw16 hHeld.2.2.2.2.2.1, cell_on bw16 hHeld.2.2.2.2.2.2.1, cell_on bw16 hHeld.2.2.2.2.2.2.2.1, cell_on bw16 hHeld.2.2.2.2.2.2.2.2.1, cell_on bw16 hHeld.2.2.2.2.2.2.2.2.2.1, cell_on bw16 hHeld.2.2.2.2.2.2.2.2.2.2.1, cell_on bw16 hHeld.2.2.2.2.2.2.2.2.2.2.2.1, cell_on bw16 hHeld.2.2.2.2.2.2.2.2.2.2.2.2.1, cell_on bw16 hHeld.2.2.2.2.2.2.2.2.2.2.2.2.2.1, also hHeld.2.2.2.2.2.2.2.2.2.2.2.2.2.2 bw16⟩ | exact ⟨cell_on bw15 hHeld.1, cell_on bw15 hHeld.2.1, cell_on bw15 hHeld.2.2.1, cell_on bw15 hHeld.2.2.2.1, cell_on bw15 hHeld.2.2.2.2.1, cell_on bw15 hHeld.2.2.2.2.2.1, cell_on bw15 hHeld.2.2.2.2.2.2.1, cell_on bw15 hHeld.2.2.2.2.2.2.2.1, cell_on bw15 hHeld.2.2.2.2.2.2.2.2.1, cell_on bw15 hHeld.2.2.2.2.2.2.2.2.2.1, cell_on bw15 hHeld.2.2.2.2.2.2.2.2.2.2.1, cell_on bw15 hHeld.2.2.2.2.2.2.2.2.2.2.2.1, cell_on bw15 hHeld.2.2.2.2.2.2.2.2.2.2.2.2.1, cell_on bw15 hHeld.2.2.2.2.2.2.2.2.2.2.2.2.2.1, also hHeld.2.2.2.2.2.2.2.2.2.2.2.2.2.2 bw15⟩ | exact ⟨cell_on bw14 hHeld.1, cell_on bw14 hHeld.2.1, cell_on bw14 hHeld.2.2.1, cell_on bw14 hHeld.2.2.2.1, cell_on bw14 hHeld.2.2.2.2.1, cell_on bw14 hHeld.2.2.2.2.2.1, cell_on bw14 hHeld.2.2.2.2.2.2.1, cell_on bw14 hHeld.2.2.2.2.2.2.2.1, cell_on bw14 hHeld.2.2.2.2.2.2.2.2.1, cell_on bw14 hHeld.2.2.2.2.2.2.2.2.2.1, cell_on bw14 hHeld.2.2.2.2.2.2.2.2.2.2.1, cell_on bw14 hHeld.2.2.2.2.2.2.2.2.2.2.2.1, cell_on bw14 hHeld.2.2.2.2.2.2.2.2.2.2.2.2.1, cell_on bw14 hHeld.2.2.2.2.2.2.2.2.2.2.2.2.2.1, also hHeld.2.2.2.2.2.2.2.2.2.2.2.2.2.2 bw14⟩ | exact ⟨cell_on bw13 hHeld.1, cell_on bw13 hHeld.2.1, cell_on bw13 hHeld.2.2.1, cell_on bw13 hHeld.2.2.2.1, cell_on bw13 hHeld.2.2.2.2.1, cell_on bw13 hHeld.2.2.2.2.2.1, cell_on bw13 hHeld.2.2.2.2.2.2.1, cell_on bw13 hHeld.2.2.2.2.2.2.2.1, cell_on bw13 hHeld.2.2.2.2.2.2.2.2.1, cell_on bw13 hHeld.2.2.2.2.2.2.2.2.2.1, cell_on bw13 hHeld.2.2.2.2.2.2.2.2.2.2.1, cell_on bw13 hHeld.2.2.2.2.2.2.2.2.2.2.2.1, cell_on bw13 hHeld.2.2.2.2.2.2.2.2.2.2.2.2.1, cell_on bw13 hHeld.2.2.2.2.2.2.2.2.2.2.2.2.2.1, also hHeld.2.2.2.2.2.2.2.2.2.2.2.2.2.2 bw13⟩ | exact ⟨cell_on bw12 hHeld.1, cell_on bw12 hHeld.2.1, cell_on bw12 hHeld.2.2.1, cell_on bw12 hHeld.2.2.2.1, cell_on bw12 hHeld.2.2.2.2.1, cell_on bw12 hHeld.2.2.2.2.2.1, cell_on bw12 hHeld.2.2.2.2.2.2.1, cell_on bw12 hHeld.2.2.2.2.2.2.2.1, cell_on bw12 hHeld.2.2.2.2.2.2.2.2.1, cell_on bw12 hHeld.2.2.2.2.2.2.2.2.2.1, cell_on bw12 hHeld.2.2.2.2.2.2.2.2.2.2.1, cell_on bw12 hHeld.2.2.2.2.2.2.2.2.2.2.2.1, cell_on bw12 hHeld.2.2.2.2.2.2.2.2.2.2.2.2.1, cell_on bw12 hHeld.2.2.2.2.2.2.2.2.2.2.2.2.2.1, also hHeld.2.2.2.2.2.2.2.2.2.2.2.2.2.2 bw12⟩ | exact ⟨cell_on bw11 hHeld.1, cell_on bw11 hHeld.2.1, cell_on bw11 hHeld.2.2.1, cell_on bw11 hHeld.2.2.2.1, cell_on bw11 hHeld.2.2.2.2.1, cell_on bw11 hHeld.2.2.2.2.2.1, cell_on bw11 hHeld.2.2.2.2.2.2.1, cell_on bw11 hHeld.2.2.2.2.2.2.2.1, cell_on bw11 hHeld.2.2.2.2.2.2.2.2.1, cell_on bw11 hHeld.2.2.2.2.2.2.2.2.2.1, cell_on bw11 hHeld.2.2.2.2.2.2.2.2.2.2.1, cell_on bw11 hHeld.2.2.2.2.2.2.2.2.2.2.2.1, cell_on bw11 hHeld.2.2.2.2.2.2.2.2.2.2.2.2.1, cell_on bw11 hHeld.2.2.2.2.2.2.2.2.2.2.2.2.2.1, also hHeld.2.2.2.2.2.2.2.2.2.2.2.2.2.2 bw11⟩ | exact ⟨cell_on bw10 hHeld.1, cell_on bw10 hHeld.2.1, cell_on bw10 hHeld.2.2.1, cell_on bw10 hHeld.2.2.2.1, cell_on bw10 hHeld.2.2.2.2.1, cell_on bw10 hHeld.2.2.2.2.2.1, cell_on bw10 hHeld.2.2.2.2.2.2.1, cell_on bw10 hHeld.2.2.2.2.2.2.2.1, cell_on bw10 hHeld.2.2.2.2.2.2.2.2.1, cell_on bw10 hHeld.2.2.2.2.2.2.2.2.2.1, cell_on bw10 hHeld.2.2.2.2.2.2.2.2.2.2.1, cell_on bw10 hHeld.2.2.2.2.2.2.2.2.2.2.2.1, cell_on bw10 hHeld.2.2.2.2.2.2.2.2.2.2.2.2.1, cell_on bw10 hHeld.2.2.2.2.2.2.2.2.2.2.2.2.2.1, also hHeld.2.2.2.2.2.2.2.2.2.2.2.2.2.2 bw10⟩ | exact ⟨cell_on bw9 hHeld.1, cell_on bw9 hHeld.2.1, cell_on bw9 hHeld.2.2.1, cell_on bw9 hHeld.2.2.2.1, cell_on bw9 hHeld.2.2.2.2.1, cell_on bw9 hHeld.2.2.2.2.2.1, cell_on bw9 hHeld.2.2.2.2.2.2.1, cell_on bw9 hHeld.2.2.2.2.2.2.2.1, cell_on bw9 hHeld.2.2.2.2.2.2.2.2.1, cell_on bw9 hHeld.2.2.2.2.2.2.2.2.2.1, cell_on bw9 hHeld.2.2.2.2.2.2.2.2.2.2.1, cell_on bw9 hHeld.2.2.2.2.2.2.2.2.2.2.2.1, cell_on bw9 hHeld.2.2.2.2.2.2.2.2.2.2.2.2.1, cell_on bw9 hHeld.2.2.2.2.2.2.2.2.2.2.2.2.2.1, also hHeld.2.2.2.2.2.2.2.2.2.2.2.2.2.2 bw9⟩ | exact ⟨cell_on bw8 hHeld.1, cell_on bw8 hHeld.2.1, cell_on bw8 hHeld.2.2.1, cell_on bw8 hHeld.2.2.2.1, cell_on bw8 hHeld.2.2.2.2.1, cell_on bw8 hHeld.2.2.2.2.2.1, cell_on bw8 hHeld.2.2.2.2.2.2.1, cell_on bw8 hHeld.2.2.2.2.2.2.2.1, cell_on bw8 hHeld.2.2.2.2.2.2.2.2.1, cell_on bw8 hHeld.2.2.2.2.2.2.2.2.2.1, cell_on bw8 hHeld.2.2.2.2.2.2.2.2.2.2.1, cell_on bw8 hHeld.2.2.2.2.2.2.2.2.2.2.2.1, cell_on bw8 hHeld.2.2.2.2.2.2.2.2.2.2.2.2.1, cell_on bw8 hHeld.2.2.2.2.2.2.2.2.2.2.2.2.2.1, also hHeld.2.2.2.2.2.2.2.2.2.2.2.2.2.2 bw8⟩ | exact ⟨cell_on bw7 hHeld.1, cell_on bw7 hHeld.2.1, cell_on bw7 hHeld.2.2.1, cell_on bw7 hHeld.2.2.2.1, cell_on bw7 hHeld.2.2.2.2.1, cell_on bw7 hHeld.2.2.2.2.2.1, cell_on bw7 hHeld.2.2.2.2.2.2.1, cell_on bw7 hHeld.2.2.2.2.2.2.2.1, cell_on bw7 hHeld.2.2.2.2.2.2.2.2.1, cell_on bw7 hHeld.2.2.2.2.2.2.2.2.2.1, cell_on bw7 hHeld.2.2.2.2.2.2.2.2.2.2.1, cell_on bw7 hHeld.2.2.2.2.2.2.2.2.2.2.2.1, cell_on bw7 hHeld.2.2.2.2.2.2.2.2.2.2.2.2.1, cell_on bw7 hHeld.2.2.2.2.2.2.2.2.2.2.2.2.2.1, also hHeld.2.2.2.2.2.2.2.2.2.2.2.2.2.2 bw7⟩ | exact ⟨cell_on bw6 hHeld.1, cell_on bw6 hHeld.2.1, cell_on bw6 hHeld.2.2.1, cell_on bw6 hHeld.2.2.2.1, cell_on bw6 hHeld.2.2.2.2.1, cell_on bw6 hHeld.2.2.2.2.2.1, cell_on bw6 hHeld.2.2.2.2.2.2.1, cell_on bw6 hHeld.2.2.2.2.2.2.2.1, cell_on bw6 hHeld.2.2.2.2.2.2.2.2.1, cell_on bw6 hHeld.2.2.2.2.2.2.2.2.2.1, cell_on bw6 hHeld.2.2.2.2.2.2.2.2.2.2.1, cell_on bw6 hHeld.2.2.2.2.2.2.2.2.2.2.2.1, cell_on bw6 hHeld.2.2.2.2.2.2.2.2.2.2.2.2.1, cell_on bw6 hHeld.2.2.2.2.2.2.2.2.2.2.2.2.2.1, also hHeld.2.2.2.2.2.2.2.2.2.2.2.2.2.2 bw6⟩ | exact ⟨cell_on bw5 hHeld.1, cell_on bw5 hHeld.2.1, cell_on bw5 hHeld.2.2.1, cell_on bw5 hHeld.2.2.2.1, cell_on bw5 hHeld.2.2.2.2.1, cell_on bw5 hHeld.2.2.2.2.2.1, cell_on bw5 hHeld.2.2.2.2.2.2.1, cell_on bw5 hHeld.2.2.2.2.2.2.2.1, cell_on bw5 hHeld.2.2.2.2.2.2.2.2.1, cell_on bw5 hHeld.2.2.2.2.2.2.2.2.2.1, cell_on bw5 hHeld.2.2.2.2.2.2.2.2.2.2.1, cell_on bw5 hHeld.2.2.2.2.2.2.2.2.2.2.2.1, cell_on bw5 hHeld.2.2.2.2.2.2.2.2.2.2.2.2.1, cell_on bw5 hHeld.2.2.2.2.2.2.2.2.2.2.2.2.2.1, also hHeld.2.2.2.2.2.2.2.2.2.2.2.2.2.2 bw5⟩
  clear hK Kc
  have zbw5 := bw5.size
  replace BB := also BB bw5
  replace x_a := x_a.on bw5
  replace x_b := x_b.on bw5
  replace q1 := q1.below bw5
  replace q2 := q2.below bw5
  replace x3 := x3.below bw5
  replace x4 := x4.below bw5
  replace x_x := x_x.on bw5
  replace x_y := x_y.on bw5
  refine take_call (i := 5) rfl (by kernel_rfl) (fun Kc hK => ?_)
  go_simp
  (go_at_call 11; refine (rqAdd s3 d3 l3 c3 t3 g3 h3 k3 (pN X A) (pD A) s4 d4 l4 c4 t4 g4 h4 k4 (pN Y B) (pD B) 6 _ x3 x4 (by decide) (pN X A * (pD B : Int) + pN Y B * (pD A : Int)) (pD A * pD B) rfl rfl).mono ?_; rintro e w6 ⟨s6, d6, l6, c6, t6, g6, h6, k6, rfl, x6, r6, bw6⟩)
  refine hK.out _ _ ?_ (fun hHeld => ?_)
  · first | exact ⟨x_a.c0, x_a.c1, x_a.c2, x_b.c0, x_b.c1, x_b.c2, x_x.c0, x_x.c1, x_x.c2, x_x.c3, x_y.c0, x_y.c1, x_y.c2, x_y.c3, BB⟩ | exact ⟨cell_on bw16 hHeld.1, cell_on bw16 hHeld.2.1, cell_on bw16 hHeld.2.2.1, cell_on bw16 hHeld.2.2.2.1, cell_on bw16 hHeld.2.2.2.2.1, cell_on bw16 hHeld.2.2.2.2.2.1, cell_on bw16 hHeld.2.2.2.2.2.2.1, cell_on bw16 hHeld.2.2.2.2.2.2.2.1, cell_on bw16 hHeld.2.2.2.2.2.2.2.2.1, cell_on bw16 hHeld.2.2.2.2.2.2.2.2.2.1, cell_on bw16 hHeld.2.2.2.2.2.2.2.2.2.2.1, cell_on bw16 hHeld.2.2.2.2.2.2.2.2.2.2.2.1, cell_on bw16 hHeld.2.2.2.2.2.2.2.2.2.2.2.2.1, cell_on bw16 hHeld.2.2.2.2.2.2.2.2.2.2.2.2.2.1, also hHeld.2.2.2.2.2.2.2.2.2.2.2.2.2.2 bw16⟩ | exact ⟨cell_on bw15 hHeld.1, cell_on bw15 hHeld.2.1, cell_on bw15 hHeld.2.2.1, cell_on bw15 hHeld.2.2.2.1, cell_on bw15 hHeld.2.2.2.2.1, cell_on bw15 hHeld.2.2.2.2.2.1, cell_on bw15 hHeld.2.2.2.2.2.2.1, cell_on bw15 hHeld.2.2.2.2.2.2.2.1, cell_on bw15 hHeld.2.2.2.2.2.2.2.2.1, cell_on bw15 hHeld.2.2.2.2.2.2.2.2.2.1, cell_on bw15 hHeld.2.2.2.2.2.2.2.2.2.2.1, cell_on bw15 hHeld.2.2.2.2.2.2.2.2.2.2.2.1, cell_on bw15 hHeld.2.2.2.2.2.2.2.2.2.2.2.2.1, cell_on bw15 hHeld.2.2.2.2.2.2.2.2.2.2.2.2.2.1, also hHeld.2.2.2.2.2.2.2.2.2.2.2.2.2.2 bw15⟩ | exact ⟨cell_on bw14 hHeld.1, cell_on bw14 hHeld.2.1, cell_on bw14 hHeld.2.2.1, cell_on bw14 hHeld.2.2.2.1, cell_on bw14 hHeld.2.2.2.2.1, cell_on bw14 hHeld.2.2.2.2.2.1, cell_on bw14 hHeld.2.2.2.2.2.2.1, cell_on bw14 hHeld.2.2.2.2.2.2.2.1, cell_on bw14 hHeld.2.2.2.2.2.2.2.2.1, cell_on bw14 hHeld.2.2.2.2.2.2.2.2.2.1, cell_on bw14 hHeld.2.2.2.2.2.2.2.2.2.2.1, cell_on bw14 hHeld.2.2.2.2.2.2.2.2.2.2.2.1, cell_on bw14 hHeld.2.2.2.2.2.2.2.2.2.2.2.2.1, cell_on bw14 hHeld.2.2.2.2.2.2.2.2.2.2.2.2.2.1, also hHeld.2.2.2.2.2.2.2.2.2.2.2.2.2.2 bw14⟩ | exact ⟨cell_on bw13 hHeld.1, cell_on bw13 hHeld.2.1, cell_on bw13 hHeld.2.2.1, cell_on bw13 hHeld.2.2.2.1, cell_on bw13 hHeld.2.2.2.2.1, cell_on bw13 hHeld.2.2.2.2.2.1, cell_on bw13 hHeld.2.2.2.2.2.2.1, cell_on bw13 hHeld.2.2.2.2.2.2.2.1, cell_on bw13 hHeld.2.2.2.2.2.2.2.2.1, cell_on bw13 hHeld.2.2.2.2.2.2.2.2.2.1, cell_on bw13 hHeld.2.2.2.2.2.2.2.2.2.2.1, cell_on bw13 hHeld.2.2.2.2.2.2.2.2.2.2.2.1, cell_on bw13 hHeld.2.2.2.2.2.2.2.2.2.2.2.2.1, cell_on bw13 hHeld.2.2.2.2.2.2.2.2.2.2.2.2.2.1, also hHeld.2.2.2.2.2.2.2.2.2.2.2.2.2.2 bw13⟩ | exact ⟨cell_on bw12 hHeld.1, cell_on bw12 hHeld.2.1, cell_on bw12 hHeld.2.2.1, cell_on bw12 hHeld.2.2.2.1, cell_on bw12 hHeld.2.2.2.2.1, cell_on bw12 hHeld.2.2.2.2.2.1, cell_on bw12 hHeld.2.2.2.2.2.2.1, cell_on bw12 hHeld.2.2.2.2.2.2.2.1, cell_on bw12 hHeld.2.2.2.2.2.2.2.2.1, cell_on bw12 hHeld.2.2.2.2.2.2.2.2.2.1, cell_on bw12 hHeld.2.2.2.2.2.2.2.2.2.2.1, cell_on bw12 hHeld.2.2.2.2.2.2.2.2.2.2.2.1, cell_on bw12 hHeld.2.2.2.2.2.2.2.2.2.2.2.2.1, cell_on bw12 hHeld.2.2.2.2.2.2.2.2.2.2.2.2.2.1, also hHeld.2.2.2.2.2.2.2.2.2.2.2.2.2.2 bw12⟩ | exact ⟨cell_on bw11 hHeld.1, cell_on bw11 hHeld.2.1, cell_on bw11 hHeld.2.2.1, cell_on bw11 hHeld.2.2.2.1, cell_on bw11 hHeld.2.2.2.2.1, cell_on bw11 hHeld.2.2.2.2.2.1, cell_on bw11 hHeld.2.2.2.2.2.2.1, cell_on bw11 hHeld.2.2.2.2.2.2.2.1, cell_on bw11 hHeld.2.2.2.2.2.2.2.2.1, cell_on bw11 hHeld.2.2.2.2.2.2.2.2.2.1, cell_on bw11 hHeld.2.2.2.2.2.2.2.2.2.2.1, cell_on bw11 hHeld.2.2.2.2.2.2.2.2.2.2.2.1, cell_on bw11 hHeld.2.2.2.2.2.2.2.2.2.2.2.2.1, cell_on bw11 hHeld.2.2.2.2.2.2.2.2.2.2.2.2.2.1, also hHeld.2.2.2.2.2.2.2.2.2.2.2.2.2.2 bw11⟩ | exact ⟨cell_on bw10 hHeld.1, cell_on bw10 hHeld.2.1, cell_on bw10 hHeld.2.2.1, cell_on bw10 hHeld.2.2.2.1, cell_on bw10 hHeld.2.2.2.2.1, cell_on bw10 hHeld.2.2.2.2.2.1, cell_on bw10 hHeld.2.2.2.2.2.2.1, cell_on bw10 hHeld.2.2.2.2.2.2.2.1, cell_on bw10 hHeld.2.2.2.2.2.2.2.2.1, cell_on bw10 hHeld.2.2.2.2.2.2.2.2.2.1, cell_on bw10 hHeld.2.2.2.2.2.2.2.2.2.2.1, cell_on bw10 hHeld.2.2.2.2.2.2.2.2.2.2.2.1, cell_on bw10 hHeld.2.2.2.2.2.2.2.2.2.2.2.2.1, cell_on bw10 hHeld.2.2.2.2.2.2.2.2.2.2.2.2.2.1, also hHeld.2.2.2.2.2.2.2.2.2.2.2.2.2.2 bw10⟩ | exact ⟨cell_on bw9 hHeld.1, cell_on bw9 hHeld.2.1, cell_on bw9 hHeld.2.2.1, cell_on bw9 hHeld.2.2.2.1, cell_on bw9 hHeld.2.2.2.2.1, cell_on bw9 hHeld.2.2.2.2.2.1, cell_on bw9 hHeld.2.2.2.2.2.2.1, cell_on bw9 hHeld.2.2.2.2.2.2.2.1, cell_on bw9 hHeld.2.2.2.2.2.2.2.2.1, cell_on bw9 hHeld.2.2.2.2.2.2.2.2.2.1, cell_on bw9 hHeld.2.2.2.2.2.2.2.2.2.2.1, cell_on bw9 hHeld.2.2.2.2.2.2.2.2.2.2.2.1, cell_on bw9 hHeld.2.2.2.2.2.2.2.2.2.2.2.2.1, cell_on bw9 hHeld.2.2.2.2.2.2.2.2.2.2.2.2.2.1, also hHeld.2.2.2.2.2.2.2.2.2.2.2.2.2.2 bw9⟩ | exact ⟨cell_on bw8 hHeld.1, cell_on bw8 hHeld.2.1, cell_on bw8 hHeld.2.2.1, cell_on bw8 hHeld.2.2.2.1, cell_on bw8 hHeld.2.2.2.2.1, cell_on bw8 hHeld.2.2.2.2.2.1, cell_on bw8 hHeld.2.2.2.2.2.2.1, cell_on bw8 hHeld.2.2.2.2.2.2.2.1, cell_on bw8 hHeld.2.2.2.2.2.2.2.2.1, cell_on bw8 hHeld.2.2.2.2.2.2.2.2.2.1, cell_on bw8 hHeld.2.2.2.2.2.2.2.2.2.2.1, cell_on bw8 hHeld.2.2.2.2.2.2.2.2.2.2.2.1, cell_on bw8 hHeld.2.2.2.2.2.2.2.2.2.2.2.2.1, cell_on bw8 hHeld.2.2.2.2.2.2.2.2.2.2.2.2.2.1, also hHeld.2.2.2.2.2.2.2.2.2.2.2.2.2.2 bw8⟩ | exact ⟨cell_on bw7 hHeld.1, cell_on bw7 hHeld.2.1, cell_on bw7 hHeld.2.2.1, cell_on bw7 hHeld.2.2.2.1, cell_on bw7 hHeld.2.2.2.2.1, cell_on bw7 hHeld.2.2.2.2.2.1, cell_on bw7 hHeld.2.2.2.2.2.2.1, cell_on bw7 hHeld.2.2.2.2.2.2.2.1, cell_on bw7 hHeld.2.2.2.2.2.2.2.2.1, cell_on bw7 hHeld.2.2.2.2.2.2.2.2.2.1, cell_on bw7 hHeld.2.2.2.2.2.2.2.2.2.2.1, cell_on bw7 hHeld.2.2.2.2.2.2.2.2.2.2.2.1, cell_on bw7 hHeld.2.2.2.2.2.2.2.2.2.2.2.2.1, cell_on bw7 hHeld.2.2.2.2.2.2.2.2.2.2.2.2.2.1, also hHeld.2.2.2.2.2.2.2.2.2.2.2.2.2.2 bw7⟩ | exact ⟨cell_on bw6 hHeld.1, cell_on bw6 hHeld.2.1, cell_on bw6 hHeld.2.2.1, cell_on bw6 hHeld.2.2.2.1, cell_on bw6 hHeld.2.2.2.2.1, cell_on bw6 hHeld.2.2.2.2.2.1, cell_on bw6 hHeld.2.2.2.2.2.2.1, cell_on bw6 hHeld.2.2.2.2.2.2.2.1, cell_on bw6 hHeld.2.2.2.2.2.2.2.2.1, cell_on bw6 hHeld.2.2.2.2.2.2.2.2.2.1, cell_on bw6 hHeld.2.2.2.2.2.2.2.2.2.2.1, cell_on bw6 hHeld.2.2.2.2.2.2.2.2.2.2.2.1, cell_on bw6 hHeld.2.2.2.2.2.2.2.2.2.2.2.2.1, cell_on bw6 hHeld.2.2.2.2.2.2.2.2.2.2.2.2.2.1, also hHeld.2.2.2.2.2.2.2.2.2.2.2.2.2.2 bw6⟩ | exact ⟨cell_on bw5 hHeld.1, cell_on bw5 hHeld.2.1, cell_on bw5 hHeld.2.2.1, cell_on bw5 hHeld.2.2.2.1, cell_on bw5 hHeld.2.2.2.2.1, cell_on bw5 hHeld.2.2.2.2.2.1, cell_on bw5 hHeld.2.2.2.2.2.2.1, cell_on bw5 hHeld.2.2.2.2.2.2.2.1, cell_on bw5 hHeld.2.2.2.2.2.2.2.2.1, cell_on bw5 hHeld.2.2.2.2.2.2.2.2.2.1, cell_on bw5 hHeld.2.2.2.2.2.2.2.2.2.2.1, cell_on bw5 hHeld.2.2.2.2.2.2.2.2.2.2.2.1, cell_on bw5 hHeld.2.2.2.2.2.2.2.2.2.2.2.2.1, cell_on bw5 hHeld.2.2.2.2.2.2.2.2.2.2.2.2.2.1, also hHeld.2.2.2.2.2.2.2.2.2.2.2.2.2.2 bw5⟩
  clear hK Kc
  have zbw6 := bw6.size
  replace BB := also BB bw6
  replace x_a := x_a.on bw6
  replace x_b := x_b.on bw6
  replace q1 := q1.below bw6
  replace q2 := q2.below bw6
  replace x3 := x3.below bw6
  replace x4 := x4.below bw6
  replace x_x := x_x.on bw6
  replace x_y := x_y.on bw6
  replace h5 := h5.below bw6
  refine take_call (i := 6) rfl (by kernel_rfl) (fun Kc hK => ?_)
  go_simp
  (go_at_call 9; refine (rqSame n5 a5 l5 c5 d5 m5 k5 _ _ s6 d6 l6 c6 t6 g6 h6 k6 (pN X A * (pD B : Int) + pN Y B * (pD A : Int)) (pD A * pD B) 13 _ h5 x6 rfl rfl).mono ?_; rintro e w7 ⟨rfl, bw7⟩)
  refine hK.out _ _ ?_ (fun hHeld => ?_)
  · first | exact ⟨x_a.c0, x_a.c1, x_a.c2, x_b.c0, x_b.c1, x_b.c2, x_x.c0, x_x.c1, x_x.c2, x_x.c3, x_y.c0, x_y.c1, x_y.c2, x_y.c3, BB⟩ | exact ⟨cell_on bw16 hHeld.1, cell_on bw16 hHeld.2.1, cell_on bw16 hHeld.2.2.1, cell_on bw16 hHeld.2.2.2.1, cell_on bw16 hHeld.2.2.2.2.1, cell_on bw16 hHeld.2.2.2.2.2.1, cell_on bw16 hHeld.2.2.2.2.2.2.1, cell_on bw16 hHeld.2.2.2.2.2.2.2.1, cell_on bw16 hHeld.2.2.2.2.2.2.2.2.1, cell_on bw16 hHeld.2.2.2.2.2.2.2.2.2.1, cell_on bw16 hHeld.2.2.2.2.2.2.2.2.2.2.1, cell_on bw16 hHeld.2.2.2.2.2.2.2.2.2.2.2.1, cell_on bw16 hHeld.2.2.2.2.2.2.2.2.2.2.2.2.1, cell_on bw16 hHeld.2.2.2.2.2.2.2.2.2.2.2.2.2.1, also hHeld.2.2.2.2.2.2.2.2.2.2.2.2.2.2 bw16⟩ | exact ⟨cell_on bw15 hHeld.1, cell_on bw15 hHeld.2.1, cell_on bw15 hHeld.2.2.1, cell_on bw15 hHeld.2.2.2.1, cell_on bw15 hHeld.2.2.2.2.1, cell_on bw15 hHeld.2.2.2.2.2.1, cell_on bw15 hHeld.2.2.2.2.2.2.1, cell_on bw15 hHeld.2.2.2.2.2.2.2.1, cell_on bw15 hHeld.2.2.2.2.2.2.2.2.1, cell_on bw15 hHeld.2.2.2.2.2.2.2.2.2.1, cell_on bw15 hHeld.2.2.2.2.2.2.2.2.2.2.1, cell_on bw15 hHeld.2.2.2.2.2.2.2.2.2.2.2.1, cell_on bw15 hHeld.2.2.2.2.2.2.2.2.2.2.2.2.1, cell_on bw15 hHeld.2.2.2.2.2.2.2.2.2.2.2.2.2.1, also hHeld.2.2.2.2.2.2.2.2.2.2.2.2.2.2 bw15⟩ | exact ⟨cell_on bw14 hHeld.1, cell_on bw14 hHeld.2.1, cell_on bw14 hHeld.2.2.1, cell_on bw14 hHeld.2.2.2.1, cell_on bw14 hHeld.2.2.2.2.1, cell_on bw14 hHeld.2.2.2.2.2.1, cell_on bw14 hHeld.2.2.2.2.2.2.1, cell_on bw14 hHeld.2.2.2.2.2.2.2.1, cell_on bw14 hHeld.2.2.2.2.2.2.2.2.1, cell_on bw14 hHeld.2.2.2.2.2.2.2.2.2.1, cell_on bw14 hHeld.2.2.2.2.2.2.2.2.2.2.1, cell_on bw14 hHeld.2.2.2.2.2.2.2.2.2.2.2.1, cell_on bw14 hHeld.2.2.2.2.2.2.2.2.2.2.2.2.1, cell_on bw14 hHeld.2.2.2.2.2.2.2.2.2.2.2.2.2.1, also hHeld.2.2.2.2.2.2.2.2.2.2.2.2.2.2 bw14⟩ | exact ⟨cell_on bw13 hHeld.1, cell_on bw13 hHeld.2.1, cell_on bw13 hHeld.2.2.1, cell_on bw13 hHeld.2.2.2.1, cell_on bw13 hHeld.2.2.2.2.1, cell_on bw13 hHeld.2.2.2.2.2.1, cell_on bw13 hHeld.2.2.2.2.2.2.1, cell_on bw13 hHeld.2.2.2.2.2.2.2.1, cell_on bw13 hHeld.2.2.2.2.2.2.2.2.1, cell_on bw13 hHeld.2.2.2.2.2.2.2.2.2.1, cell_on bw13 hHeld.2.2.2.2.2.2.2.2.2.2.1, cell_on bw13 hHeld.2.2.2.2.2.2.2.2.2.2.2.1, cell_on bw13 hHeld.2.2.2.2.2.2.2.2.2.2.2.2.1, cell_on bw13 hHeld.2.2.2.2.2.2.2.2.2.2.2.2.2.1, also hHeld.2.2.2.2.2.2.2.2.2.2.2.2.2.2 bw13⟩ | exact ⟨cell_on bw12 hHeld.1, cell_on bw12 hHeld.2.1, cell_on bw12 hHeld.2.2.1, cell_on bw12 hHeld.2.2.2.1, cell_on bw12 hHeld.2.2.2.2.1, cell_on bw12 hHeld.2.2.2.2.2.1, cell_on bw12 hHeld.2.2.2.2.2.2.1, cell_on bw12 hHeld.2.2.2.2.2.2.2.1, cell_on bw12 hHeld.2.2.2.2.2.2.2.2.1, cell_on bw12 hHeld.2.2.2.2.2.2.2.2.2.1, cell_on bw12 hHeld.2.2.2.2.2.2.2.2.2.2.1, cell_on bw12 hHeld.2.2.2.2.2.2.2.2.2.2.2.1, cell_on bw12 hHeld.2.2.2.2.2.2.2.2.2.2.2.2.1, cell_on bw12 hHeld.2.2.2.2.2.2.2.2.2.2.2.2.2.1, also hHeld.2.2.2.2.2.2.2.2.2.2.2.2.2.2 bw12⟩ | exact ⟨cell_on bw11 hHeld.1, cell_on bw11 hHeld.2.1, cell_on bw11 hHeld.2.2.1, cell_on bw11 hHeld.2.2.2.1, cell_on bw11 hHeld.2.2.2.2.1, cell_on bw11 hHeld.2.2.2.2.2.1, cell_on bw11 hHeld.2.2.2.2.2.2.1, cell_on bw11 hHeld.2.2.2.2.2.2.2.1, cell_on bw11 hHeld.2.2.2.2.2.2.2.2.1, cell_on bw11 hHeld.2.2.2.2.2.2.2.2.2.1, cell_on bw11 hHeld.2.2.2.2.2.2.2.2.2.2.1, cell_on bw11 hHeld.2.2.2.2.2.2.2.2.2.2.2.1, cell_on bw11 hHeld.2.2.2.2.2.2.2.2.2.2.2.2.1, cell_on bw11 hHeld.2.2.2.2.2.2.2.2.2.2.2.2.2.1, also hHeld.2.2.2.2.2.2.2.2.2.2.2.2.2.2 bw11⟩ | exact ⟨cell_on bw10 hHeld.1, cell_on bw10 hHeld.2.1, cell_on bw10 hHeld.2.2.1, cell_on bw10 hHeld.2.2.2.1, cell_on bw10 hHeld.2.2.2.2.1, cell_on bw10 hHeld.2.2.2.2.2.1, cell_on bw10 hHeld.2.2.2.2.2.2.1, cell_on bw10 hHeld.2.2.2.2.2.2.2.1, cell_on bw10 hHeld.2.2.2.2.2.2.2.2.1, cell_on bw10 hHeld.2.2.2.2.2.2.2.2.2.1, cell_on bw10 hHeld.2.2.2.2.2.2.2.2.2.2.1, cell_on bw10 hHeld.2.2.2.2.2.2.2.2.2.2.2.1, cell_on bw10 hHeld.2.2.2.2.2.2.2.2.2.2.2.2.1, cell_on bw10 hHeld.2.2.2.2.2.2.2.2.2.2.2.2.2.1, also hHeld.2.2.2.2.2.2.2.2.2.2.2.2.2.2 bw10⟩ | exact ⟨cell_on bw9 hHeld.1, cell_on bw9 hHeld.2.1, cell_on bw9 hHeld.2.2.1, cell_on bw9 hHeld.2.2.2.1, cell_on bw9 hHeld.2.2.2.2.1, cell_on bw9 hHeld.2.2.2.2.2.1, cell_on bw9 hHeld.2.2.2.2.2.2.1, cell_on bw9 hHeld.2.2.2.2.2.2.2.1, cell_on bw9 hHeld.2.2.2.2.2.2.2.2.1, cell_on bw9 hHeld.2.2.2.2.2.2.2.2.2.1, cell_on bw9 hHeld.2.2.2.2.2.2.2.2.2.2.1, cell_on bw9 hHeld.2.2.2.2.2.2.2.2.2.2.2.1, cell_on bw9 hHeld.2.2.2.2.2.2.2.2.2.2.2.2.1, cell_on bw9 hHeld.2.2.2.2.2.2.2.2.2.2.2.2.2.1, also hHeld.2.2.2.2.2.2.2.2.2.2.2.2.2.2 bw9⟩ | exact ⟨cell_on bw8 hHeld.1, cell_on bw8 hHeld.2.1, cell_on bw8 hHeld.2.2.1, cell_on bw8 hHeld.2.2.2.1, cell_on bw8 hHeld.2.2.2.2.1, cell_on bw8 hHeld.2.2.2.2.2.1, cell_on bw8 hHeld.2.2.2.2.2.2.1, cell_on bw8 hHeld.2.2.2.2.2.2.2.1, cell_on bw8 hHeld.2.2.2.2.2.2.2.2.1, cell_on bw8 hHeld.2.2.2.2.2.2.2.2.2.1, cell_on bw8 hHeld.2.2.2.2.2.2.2.2.2.2.1, cell_on bw8 hHeld.2.2.2.2.2.2.2.2.2.2.2.1, cell_on bw8 hHeld.2.2.2.2.2.2.2.2.2.2.2.2.1, cell_on bw8 hHeld.2.2.2.2.2.2.2.2.2.2.2.2.2.1, also hHeld.2.2.2.2.2.2.2.2.2.2.2.2.2.2 bw8⟩ | exact ⟨cell_on bw7 hHeld.1, cell_on bw7 hHeld.2.1, cell_on bw7 hHeld.2.2.1, cell_on bw7 hHeld.2.2.2.1, cell_on bw7 hHeld.2.2.2.2.1, cell_on bw7 hHeld.2.2.2.2.2.1, cell_on bw7 hHeld.2.2.2.2.2.2.1, cell_on bw7 hHeld.2.2.2.2.2.2.2.1, cell_on bw7 hHeld.2.2.2.2.2.2.2.2.1, cell_on bw7 hHeld.2.2.2.2.2.2.2.2.2.1, cell_on bw7 hHeld.2.2.2.2.2.2.2.2.2.2.1, cell_on bw7 hHeld.2.2.2.2.2.2.2.2.2.2.2.1, cell_on bw7 hHeld.2.2.2.2.2.2.2.2.2.2.2.2.1, cell_on bw7 hHeld.2.2.2.2.2.2.2.2.2.2.2.2.2.1, also hHeld.2.2.2.2.2.2.2.2.2.2.2.2.2.2 bw7⟩ | exact ⟨cell_on bw6 hHeld.1, cell_on bw6 hHeld.2.1, cell_on bw6 hHeld.2.2.1, cell_on bw6 hHeld.2.2.2.1, cell_on bw6 hHeld.2.2.2.2.1, cell_on bw6 hHeld.2.2.2.2.2.1, cell_on bw6 hHeld.2.2.2.2.2.2.1, cell_on bw6 hHeld.2.2.2.2.2.2.2.1, cell_on bw6 hHeld.2.2.2.2.2.2.2.2.1, cell_on bw6 hHeld.2.2.2.2.2.2.2.2.2.1, cell_on bw6 hHeld.2.2.2.2.2.2.2.2.2.2.1, cell_on bw6 hHeld.2.2.2.2.2.2.2.2.2.2.2.1, cell_on bw6 hHeld.2.2.2.2.2.2.2.2.2.2.2.2.1, cell_on bw6 hHeld.2.2.2.2.2.2.2.2.2.2.2.2.2.1, also hHeld.2.2.2.2.2.2.2.2.2.2.2.2.2.2 bw6⟩ | exact ⟨cell_on bw5 hHeld.1, cell_on bw5 hHeld.2.1, cell_on bw5 hHeld.2.2.1, cell_on bw5 hHeld.2.2.2.1, cell_on bw5 hHeld.2.2.2.2.1, cell_on bw5 hHeld.2.2.2.2.2.1, cell_on bw5 hHeld.2.2.2.2.2.2.1, cell_on bw5 hHeld.2.2.2.2.2.2.2.1, cell_on bw5 hHeld.2.2.2.2.2.2.2.2.1, cell_on bw5 hHeld.2.2.2.2.2.2.2.2.2.1, cell_on bw5 hHeld.2.2.2.2.2.2.2.2.2.2.1, cell_on bw5 hHeld.2.2.2.2.2.2.2.2.2.2.2.1, cell_on bw5 hHeld.2.2.2.2.2.2.2.2.2.2.2.2.1, cell_on bw5 hHeld.2.2.2.2.2.2.2.2.2.2.2.2.2.1, also hHeld.2.2.2.2.2.2.2.2.2.2.2.2.2.2 bw5⟩
  clear hK Kc
  have zbw7 := bw7.size
  replace BB := also BB bw7
  replace x_a := x_a.on bw7
  replace x_b := x_b.on bw7
  replace q1 := q1.below bw7
  replace q2 := q2.below bw7
  replace x3 := x3.below bw7
  replace x4 := x4.below bw7
  replace x_x := x_x.on bw7
  replace x_y := x_y.on bw7
  replace h5 := h5.below bw7
  replace x6 := x6.below bw7
  refine take_yes (i := 7) (v := ?vw7) rfl (by kernel_rfl) (by kernel_rfl) (by kernel_rfl) (fun _ _ _ h => h) (by rfl) (by assumption) ?hyw7 ?restw7
  case hyw7 => (intro w hSw; (try dsimp only at hSw); first | (go_simp; done) | (go_simp; with_reducible rfl))
  simp only [Act.put, List.setIfInBounds_toArray, List.set_cons_zero, List.set_cons_succ]
  refine take_yes (i := 8) (v := ?vw8) rfl (by kernel_rfl) (by kernel_rfl) (by kernel_rfl) (fun _ _ _ h => h) (by rfl) (by assumption) ?hyw8 ?restw8
  case hyw8 => (intro w hSw; (try dsimp only at hSw); first | (go_simp; done) | (go_simp; with_reducible rfl))
  simp only [Act.put, List.setIfInBounds_toArray, List.set_cons_zero, List.set_cons_succ]
  refine take_yes (i := 9) (v := ?vw9) rfl (by kernel_rfl) (by kernel_rfl) (by kernel_rfl) (fun _ _ _ h => h) (by rfl) (by assumption) ?hyw9 ?restw9
  case hyw9 => (intro w hSw; (try dsimp only at hSw); first | (go_simp; done) | (go_simp; with_reducible rfl))
  simp only [Act.put, List.setIfInBounds_toArray, List.set_cons_zero, List.set_cons_succ]
  refine take_yes (i := 11) (v := ?vw11) rfl (by kernel_rfl) (by kernel_rfl) (by kernel_rfl) (fun _ _ _ h => h) (by rfl) (by assumption) ?hyw11 ?restw11
  case hyw11 => (intro w hSw; (try dsimp only at hSw); first | (go_simp; done) | (go_simp; with_reducible rfl))
  simp only [Act.put, List.setIfInBounds_toArray, List.set_cons_zero, List.set_cons_succ]
  refine take_yes (i := 12) (v := ?vw12) rfl (by kernel_rfl) (by kernel_rfl) (by kernel_rfl) (fun _ _ _ h => h) (by rfl) (by assumption) ?hyw12 ?restw12
  case hyw12 => (intro w hSw; (try dsimp only at hSw); first | (go_simp; done) | (go_simp; with_reducible rfl))
  simp only [Act.put, List.setIfInBounds_toArray, List.set_cons_zero, List.set_cons_succ]
  refine take_call (i := 10) rfl (by kernel_rfl) (fun Kc hK => ?_)
  go_simp
  (go_at_call 12; refine (qSub n a1 m1 c1 d1 k1 g1 X A m a2 m2 c2 d2 k2 g2 Y B 6 _ q1 q2 _ _ rfl rfl).mono ?_; rintro e w8 ⟨n8, a8, l8, c8, d8, m8, k8, rfl, h8, f8, e8, bw8⟩)
  refine hK.out _ _ ?_ (fun hHeld => ?_)
  · first | exact ⟨x_a.c0, x_a.c1, x_a.c2, x_b.c0, x_b.c1, x_b.c2, x_x.c0, x_x.c1, x_x.c2, x_x.c3, x_y.c0, x_y.c1, x_y.c2, x_y.c3, BB⟩ | exact ⟨cell_on bw16 hHeld.1, cell_on bw16 hHeld.2.1, cell_on bw16 hHeld.2.2.1, cell_on bw16 hHeld.2.2.2.1, cell_on bw16 hHeld.2.2.2.2.1, cell_on bw16 hHeld.2.2.2.2.2.1, cell_on bw16 hHeld.2.2.2.2.2.2.1, cell_on bw16 hHeld.2.2.2.2.2.2.2.1, cell_on bw16 hHeld.2.2.2.2.2.2.2.2.1, cell_on bw16 hHeld.2.2.2.2.2.2.2.2.2.1, cell_on bw16 hHeld.2.2.2.2.2.2.2.2.2.2.1, cell_on bw16 hHeld.2.2.2.2.2.2.2.2.2.2.2.1, cell_on bw16 hHeld.2.2.2.2.2.2.2.2.2.2.2.2.1, cell_on bw16 hHeld.2.2.2.2.2.2.2.2.2.2.2.2.2.1, also hHeld.2.2.2.2.2.2.2.2.2.2.2.2.2.2 bw16⟩ | exact ⟨cell_on bw15 hHeld.1, cell_on bw15 hHeld.2.1, cell_on bw15 hHeld.2.2.1, cell_on bw15 hHeld.2.2.2.1, cell_on bw15 hHeld.2.2.2.2.1, cell_on bw15 hHeld.2.2.2.2.2.1, cell_on bw15 hHeld.2.2.2.2.2.2.1, cell_on bw15 hHeld.2.2.2.2.2.2.2.1, cell_on bw15 hHeld.2.2.2.2.2.2.2.2.1, cell_on bw15 hHeld.2.2.2.2.2.2.2.2.2.1, cell_on bw15 hHeld.2.2.2.2.2.2.2.2.2.2.1, cell_on bw15 hHeld.2.2.2.2.2.2.2.2.2.2.2.1, cell_on bw15 hHeld.2.2.2.2.2.2.2.2.2.2.2.2.1, cell_on bw15 hHeld.2.2.2.2.2.2.2.2.2.2.2.2.2.1, also hHeld.2.2.2.2.2.2.2.2.2.2.2.2.2.2 bw15⟩ | exact ⟨cell_on bw14 hHeld.1, cell_on bw14 hHeld.2.1, cell_on bw14 hHeld.2.2.1, cell_on bw14 hHeld.2.2.2.1, cell_on bw14 hHeld.2.2.2.2.1, cell_on bw14 hHeld.2.2.2.2.2.1, cell_on bw14 hHeld.2.2.2.2.2.2.1, cell_on bw14 hHeld.2.2.2.2.2.2.2.1, cell_on bw14 hHeld.2.2.2.2.2.2.2.2.1, cell_on bw14 hHeld.2.2.2.2.2.2.2.2.2.1, cell_on bw14 hHeld.2.2.2.2.2.2.2.2.2.2.1, cell_on bw14 hHeld.2.2.2.2.2.2.2.2.2.2.2.1, cell_on bw14 hHeld.2.2.2.2.2.2.2.2.2.2.2.2.1, cell_on bw14 hHeld.2.2.2.2.2.2.2.2.2.2.2.2.2.1, also hHeld.2.2.2.2.2.2.2.2.2.2.2.2.2.2 bw14⟩ | exact ⟨cell_on bw13 hHeld.1, cell_on bw13 hHeld.2.1, cell_on bw13 hHeld.2.2.1, cell_on bw13 hHeld.2.2.2.1, cell_on bw13 hHeld.2.2.2.2.1, cell_on bw13 hHeld.2.2.2.2.2.1, cell_on bw13 hHeld.2.2.2.2.2.2.1, cell_on bw13 hHeld.2.2.2.2.2.2.2.1, cell_on bw13 hHeld.2.2.2.2.2.2.2.2.1, cell_on bw13 hHeld.2.2.2.2.2.2.2.2.2.1, cell_on bw13 hHeld.2.2.2.2.2.2.2.2.2.2.1, cell_on bw13 hHeld.2.2.2.2.2.2.2.2.2.2.2.1, cell_on bw13 hHeld.2.2.2.2.2.2.2.2.2.2.2.2.1, cell_on bw13 hHeld.2.2.2.2.2.2.2.2.2.2.2.2.2.1, also hHeld.2.2.2.2.2.2.2.2.2.2.2.2.2.2 bw13⟩ | exact ⟨cell_on bw12 hHeld.1, cell_on bw12 hHeld.2.1, cell_on bw12 hHeld.2.2.1, cell_on bw12 hHeld.2.2.2.1, cell_on bw12 hHeld.2.2.2.2.1, cell_on bw12 hHeld.2.2.2.2.2.1, cell_on bw12 hHeld.2.2.2.2.2.2.1, cell_on bw12 hHeld.2.2.2.2.2.2.2.1, cell_on bw12 hHeld.2.2.2.2.2.2.2.2.1, cell_on bw12 hHeld.2.2.2.2.2.2.2.2.2.1, cell_on bw12 hHeld.2.2.2.2.2.2.2.2.2.2.1, cell_on bw12 hHeld.2.2.2.2.2.2.2.2.2.2.2.1, cell_on bw12 hHeld.2.2.2.2.2.2.2.2.2.2.2.2.1, cell_on bw12 hHeld.2.2.2.2.2.2.2.2.2.2.2.2.2.1, also hHeld.2.2.2.2.2.2.2.2.2.2.2.2.2.2 bw12⟩ | exact ⟨cell_on bw11 hHeld.1, cell_on bw11 hHeld.2.1, cell_on bw11 hHeld.2.2.1, cell_on bw11 hHeld.2.2.2.1, cell_on bw11 hHeld.2.2.2.2.1, cell_on bw11 hHeld.2.2.2.2.2.1, cell_on bw11 hHeld.2.2.2.2.2.2.1, cell_on bw11 hHeld.2.2.2.2.2.2.2.1, cell_on bw11 hHeld.2.2.2.2.2.2.2.2.1, cell_on bw11 hHeld.2.2.2.2.2.2.2.2.2.1, cell_on bw11 hHeld.2.2.2.2.2.2.2.2.2.2.1, cell_on bw11 hHeld.2.2.2.2.2.2.2.2.2.2.2.1, cell_on bw11 hHeld.2.2.2.2.2.2.2.2.2.2.2.2.1, cell_on bw11 hHeld.2.2.2.2.2.2.2.2.2.2.2.2.2.1, also hHeld.2.2.2.2.2.2.2.2.2.2.2.2.2.2 bw11⟩ | exact ⟨cell_on bw10 hHeld.1, cell_on bw10 hHeld.2.1, cell_on bw10 hHeld.2.2.1, cell_on bw10 hHeld.2.2.2.1, cell_on bw10 hHeld.2.2.2.2.1, cell_on bw10 hHeld.2.2.2.2.2.1, cell_on bw10 hHeld.2.2.2.2.2.2.1, cell_on bw10 hHeld.2.2.2.2.2.2.2.1, cell_on bw10 hHeld.2.2.2.2.2.2.2.2.1, cell_on bw10 hHeld.2.2.2.2.2.2.2.2.2.1, cell_on bw10 hHeld.2.2.2.2.2.2.2.2.2.2.1, cell_on bw10 hHeld.2.2.2.2.2.2.2.2.2.2.2.1, cell_on bw10 hHeld.2.2.2.2.2.2.2.2.2.2.2.2.1, cell_on bw10 hHeld.2.2.2.2.2.2.2.2.2.2.2.2.2.1, also hHeld.2.2.2.2.2.2.2.2.2.2.2.2.2.2 bw10⟩ | exact ⟨cell_on bw9 hHeld.1, cell_on bw9 hHeld.2.1, cell_on bw9 hHeld.2.2.1, cell_on bw9 hHeld.2.2.2.1, cell_on bw9 hHeld.2.2.2.2.1, cell_on bw9 hHeld.2.2.2.2.2.1, cell_on bw9 hHeld.2.2.2.2.2.2.1, cell_on bw9 hHeld.2.2.2.2.2.2.2.1, cell_on bw9 hHeld.2.2.2.2.2.2.2.2.1, cell_on bw9 hHeld.2.2.2.2.2.2.2.2.2.1, cell_on bw9 hHeld.2.2.2.2.2.2.2.2.2.2.1, cell_on bw9 hHeld.2.2.2.2.2.2.2.2.2.2.2.1, cell_on bw9 hHeld.2.2.2.2.2.2.2.2.2.2.2.2.1, cell_on bw9 hHeld.2.2.2.2.2.2.2.2.2.2.2.2.2.1, also hHeld.2.2.2.2.2.2.2.2.2.2.2.2.2.2 bw9⟩ | exact ⟨cell_on bw8 hHeld.1, cell_on bw8 hHeld.2.1, cell_on bw8 hHeld.2.2.1, cell_on bw8 hHeld.2.2.2.1, cell_on bw8 hHeld.2.2.2.2.1, cell_on bw8 hHeld.2.2.2.2.2.1, cell_on bw8 hHeld.2.2.2.2.2.2.1, cell_on bw8 hHeld.2.2.2.2.2.2.2.1, cell_on bw8 hHeld.2.2.2.2.2.2.2.2.1, cell_on bw8 hHeld.2.2.2.2.2.2.2.2.2.1, cell_on bw8 hHeld.2.2.2.2.2.2.2.2.2.2.1, cell_on bw8 hHeld.2.2.2.2.2.2.2.2.2.2.2.1, cell_on bw8 hHeld.2.2.2.2.2.2.2.2.2.2.2.2.1, cell_on bw8 hHeld.2.2.2.2.2.2.2.2.2.2.2.2.2.1, also hHeld.2.2.2.2.2.2.2.2.2.2.2.2.2.2 bw8⟩ | exact ⟨cell_on bw7 hHeld.1, cell_on bw7 hHeld.2.1, cell_on bw7 hHeld.2.2.1, cell_on bw7 hHeld.2.2.2.1, cell_on bw7 hHeld.2.2.2.2.1, cell_on bw7 hHeld.2.2.2.2.2.1, cell_on bw7 hHeld.2.2.2.2.2.2.1, cell_on bw7 hHeld.2.2.2.2.2.2.2.1, cell_on bw7 hHeld.2.2.2.2.2.2.2.2.1, cell_on bw7 hHeld.2.2.2.2.2.2.2.2.2.1, cell_on bw7 hHeld.2.2.2.2.2.2.2.2.2.2.1, cell_on bw7 hHeld.2.2.2.2.2.2.2.2.2.2.2.1, cell_on bw7 hHeld.2.2.2.2.2.2.2.2.2.2.2.2.1, cell_on bw7 hHeld.2.2.2.2.2.2.2.2.2.2.2.2.2.1, also hHeld.2.2.2.2.2.2.2.2.2.2.2.2.2.2 bw7⟩ | exact ⟨cell_on bw6 hHeld.1, cell_on bw6 hHeld.2.1, cell_on bw6 hHeld.2.2.1, cell_on bw6 hHeld.2.2.2.1, cell_on bw6 hHeld.2.2.2.2.1, cell_on bw6 hHeld.2.2.2.2.2.1, cell_on bw6 hHeld.2.2.2.2.2.2.1, cell_on bw6 hHeld.2.2.2.2.2.2.2.1, cell_on bw6 hHeld.2.2.2.2.2.2.2.2.1, cell_on bw6 hHeld.2.2.2.2.2.2.2.2.2.1, cell_on bw6 hHeld.2.2.2.2.2.2.2.2.2.2.1, cell_on bw6 hHeld.2.2.2.2.2.2.2.2.2.2.2.1, cell_on bw6 hHeld.2.2.2.2.2.2.2.2.2.2.2.2.1, cell_on bw6 hHeld.2.2.2.2.2.2.2.2.2.2.2.2.2.1, also hHeld.2.2.2.2.2.2.2.2.2.2.2.2.2.2 bw6⟩ | exact ⟨cell_on bw5 hHeld.1, cell_on bw5 hHeld.2.1, cell_on bw5 hHeld.2.2.1, cell_on bw5 hHeld.2.2.2.1, cell_on bw5 hHeld.2.2.2.2.1, cell_on bw5 hHeld.2.2.2.2.2.1, cell_on bw5 hHeld.2.2.2.2.2.2.1, cell_on bw5 hHeld.2.2.2.2.2.2.2.1, cell_on bw5 hHeld.2.2.2.2.2.2.2.2.1, cell_on bw5 hHeld.2.2.2.2.2.2.2.2.2.1, cell_on bw5 hHeld.2.2.2.2.2.2.2.2.2.2.1, cell_on bw5 hHeld.2.2.2.2.2.2.2.2.2.2.2.1, cell_on bw5 hHeld.2.2.2.2.2.2.2.2.2.2.2.2.1, cell_on bw5 hHeld.2.2.2.2.2.2.2.2.2.2.2.2.2.1, also hHeld.2.2.2.2.2.2.2.2.2.2.2.2.2.2 bw5⟩
  clear hK Kc
  have zbw8 := bw8.size
  replace BB := also BB bw8
  replace x_a := x_a.on bw8
  replace x_b := x_b.on bw8
  replace q1 := q1.below bw8
  replace q2 := q2.below bw8
  replace x3 := x3.below bw8
  replace x4 := x4.below bw8
  replace x_x := x_x.on bw8
  replace x_y := x_y.on bw8
  replace h5 := h5.below bw8
  replace x6 := x6.below bw8
  refine take_call (i := 13) rfl (by kernel_rfl) (fun Kc hK => ?_)
  go_simp
  (go_at_call 13; refine (rqSub s3 d3 l3 c3 t3 g3 h3 k3 (pN X A) (pD A) s4 d4 l4 c4 t4 g4 h4 k4 (pN Y B) (pD B) 6 _ x3 x4 (by decide) (pN X A * (pD B : Int) - pN Y B * (pD A : Int)) (pD A * pD B) HSub.out rfl).mono ?_; rintro e w9 ⟨s9, d9, l9, c9, t9, g9, h9, k9, rfl, x9, r9, bw9⟩)
  refine hK.out _ _ ?_ (fun hHeld => ?_)
  · first | exact ⟨x_a.c0, x_a.c1, x_a.c2, x_b.c0, x_b.c1, x_b.c2, x_x.c0, x_x.c1, x_x.c2, x_x.c3, x_y.c0, x_y.c1, x_y.c2, x_y.c3, BB⟩ | exact ⟨cell_on bw16 hHeld.1, cell_on bw16 hHeld.2.1, cell_on bw16 hHeld.2.2.1, cell_on bw16 hHeld.2.2.2.1, cell_on bw16 hHeld.2.2.2.2.1, cell_on bw16 hHeld.2.2.2.2.2.1, cell_on bw16 hHeld.2.2.2.2.2.2.1, cell_on bw16 hHeld.2.2.2.2.2.2.2.1, cell_on bw16 hHeld.2.2.2.2.2.2.2.2.1, cell_on bw16 hHeld.2.2.2.2.2.2.2.2.2.1, cell_on bw16 hHeld.2.2.2.2.2.2.2.2.2.2.1, cell_on bw16 hHeld.2.2.2.2.2.2.2.2.2.2.2.1, cell_on bw16 hHeld.2.2.2.2.2.2.2.2.2.2.2.2.1, cell_on bw16 hHeld.2.2.2.2.2.2.2.2.2.2.2.2.2.1, also hHeld.2.2.2.2.2.2.2.2.2.2.2.2.2.2 bw16⟩ | exact ⟨cell_on bw15 hHeld.1, cell_on bw15 hHeld.2.1, cell_on bw15 hHeld.2.2.1, cell_on bw15 hHeld.2.2.2.1, cell_on bw15 hHeld.2.2.2.2.1, cell_on bw15 hHeld.2.2.2.2.2.1, cell_on bw15 hHeld.2.2.2.2.2.2.1, cell_on bw15 hHeld.2.2.2.2.2.2.2.1, cell_on bw15 hHeld.2.2.2.2.2.2.2.2.1, cell_on bw15 hHeld.2.2.2.2.2.2.2.2.2.1, cell_on bw15 hHeld.2.2.2.2.2.2.2.2.2.2.1, cell_on bw15 hHeld.2.2.2.2.2.2.2.2.2.2.2.1, cell_on bw15 hHeld.2.2.2.2.2.2.2.2.2.2.2.2.1, cell_on bw15 hHeld.2.2.2.2.2.2.2.2.2.2.2.2.2.1, also hHeld.2.2.2.2.2.2.2.2.2.2.2.2.2.2 bw15⟩ | exact ⟨cell_on bw14 hHeld.1, cell_on bw14 hHeld.2.1, cell_on bw14 hHeld.2.2.1, cell_on bw14 hHeld.2.2.2.1, cell_on bw14 hHeld.2.2.2.2.1, cell_on bw14 hHeld.2.2.2.2.2.1, cell_on bw14 hHeld.2.2.2.2.2.2.1, cell_on bw14 hHeld.2.2.2.2.2.2.2.1, cell_on bw14 hHeld.2.2.2.2.2.2.2.2.1, cell_on bw14 hHeld.2.2.2.2.2.2.2.2.2.1, cell_on bw14 hHeld.2.2.2.2.2.2.2.2.2.2.1, cell_on bw14 hHeld.2.2.2.2.2.2.2.2.2.2.2.1, cell_on bw14 hHeld.2.2.2.2.2.2.2.2.2.2.2.2.1, cell_on bw14 hHeld.2.2.2.2.2.2.2.2.2.2.2.2.2.1, also hHeld.2.2.2.2.2.2.2.2.2.2.2.2.2.2 bw14⟩ | exact ⟨cell_on bw13 hHeld.1, cell_on bw13 hHeld.2.1, cell_on bw13 hHeld.2.2.1, cell_on bw13 hHeld.2.2.2.1, cell_on bw13 hHeld.2.2.2.2.1, cell_on bw13 hHeld.2.2.2.2.2.1, cell_on bw13 hHeld.2.2.2.2.2.2.1, cell_on bw13 hHeld.2.2.2.2.2.2.2.1, cell_on bw13 hHeld.2.2.2.2.2.2.2.2.1, cell_on bw13 hHeld.2.2.2.2.2.2.2.2.2.1, cell_on bw13 hHeld.2.2.2.2.2.2.2.2.2.2.1, cell_on bw13 hHeld.2.2.2.2.2.2.2.2.2.2.2.1, cell_on bw13 hHeld.2.2.2.2.2.2.2.2.2.2.2.2.1, cell_on bw13 hHeld.2.2.2.2.2.2.2.2.2.2.2.2.2.1, also hHeld.2.2.2.2.2.2.2.2.2.2.2.2.2.2 bw13⟩ | exact ⟨cell_on bw12 hHeld.1, cell_on bw12 hHeld.2.1, cell_on bw12 hHeld.2.2.1, cell_on bw12 hHeld.2.2.2.1, cell_on bw12 hHeld.2.2.2.2.1, cell_on bw12 hHeld.2.2.2.2.2.1, cell_on bw12 hHeld.2.2.2.2.2.2.1, cell_on bw12 hHeld.2.2.2.2.2.2.2.1, cell_on bw12 hHeld.2.2.2.2.2.2.2.2.1, cell_on bw12 hHeld.2.2.2.2.2.2.2.2.2.1, cell_on bw12 hHeld.2.2.2.2.2.2.2.2.2.2.1, cell_on bw12 hHeld.2.2.2.2.2.2.2.2.2.2.2.1, cell_on bw12 hHeld.2.2.2.2.2.2.2.2.2.2.2.2.1, cell_on bw12 hHeld.2.2.2.2.2.2.2.2.2.2.2.2.2.1, also hHeld.2.2.2.2.2.2.2.2.2.2.2.2.2.2 bw12⟩ | exact ⟨cell_on bw11 hHeld.1, cell_on bw11 hHeld.2.1, cell_on bw11 hHeld.2.2.1, cell_on bw11 hHeld.2.2.2.1, cell_on bw11 hHeld.2.2.2.2.1, cell_on bw11 hHeld.2.2.2.2.2.1, cell_on bw11 hHeld.2.2.2.2.2.2.1, cell_on bw11 hHeld.2.2.2.2.2.2.2.1, cell_on bw11 hHeld.2.2.2.2.2.2.2.2.1, cell_on bw11 hHeld.2.2.2.2.2.2.2.2.2.1, cell_on bw11 hHeld.2.2.2.2.2.2.2.2.2.2.1, cell_on bw11 hHeld.2.2.2.2.2.2.2.2.2.2.2.1, cell_on bw11 hHeld.2.2.2.2.2.2.2.2.2.2.2.2.1, cell_on bw11 hHeld.2.2.2.2.2.2.2.2.2.2.2.2.2.1, also hHeld.2.2.2.2.2.2.2.2.2.2.2.2.2.2 bw11⟩ | exact ⟨cell_on bw10 hHeld.1, cell_on bw10 hHeld.2.1, cell_on bw10 hHeld.2.2.1, cell_on bw10 hHeld.2.2.2.1, cell_on bw10 hHeld.2.2.2.2.1, cell_on bw10 hHeld.2.2.2.2.2.1, cell_on bw10 hHeld.2.2.2.2.2.2.1, cell_on bw10 hHeld.2.2.2.2.2.2.2.1, cell_on bw10 hHeld.2.2.2.2.2.2.2.2.1, cell_on bw10 hHeld.2.2.2.2.2.2.2.2.2.1, cell_on bw10 hHeld.2.2.2.2.2.2.2.2.2.2.1, cell_on bw10 hHeld.2.2.2.2.2.2.2.2.2.2.2.1, cell_on bw10 hHeld.2.2.2.2.2.2.2.2.2.2.2.2.1, cell_on bw10 hHeld.2.2.2.2.2.2.2.2.2.2.2.2.2.1, also hHeld.2.2.2.2.2.2.2.2.2.2.2.2.2.2 bw10⟩ | exact ⟨cell_on bw9 hHeld.1, cell_on bw9 hHeld.2.1, cell_on bw9 hHeld.2.2.1, cell_on bw9 hHeld.2.2.2.1, cell_on bw9 hHeld.2.2.2.2.1, cell_on bw9 hHeld.2.2.2.2.2.1, cell_on bw9 hHeld.2.2.2.2.2.2.1, cell_on bw9 hHeld.2.2.2.2.2.2.2.1, cell_on bw9 hHeld.2.2.2.2.2.2.2.2.1, cell_on bw9 hHeld.2.2.2.2.2.2.2.2.2.1, cell_on bw9 hHeld.2.2.2.2.2.2.2.2.2.2.1, cell_on bw9 hHeld.2.2.2.2.2.2.2.2.2.2.2.1, cell_on bw9 hHeld.2.2.2.2.2.2.2.2.2.2.2.2.1, cell_on bw9 hHeld.2.2.2.2.2.2.2.2.2.2.2.2.2.1, also hHeld.2.2.2.2.2.2.2.2.2.2.2.2.2.2 bw9⟩ | exact ⟨cell_on bw8 hHeld.1, cell_on bw8 hHeld.2.1, cell_on bw8 hHeld.2.2.1, cell_on bw8 hHeld.2.2.2.1, cell_on bw8 hHeld.2.2.2.2.1, cell_on bw8 hHeld.2.2.2.2.2.1, cell_on bw8 hHeld.2.2.2.2.2.2.1, cell_on bw8 hHeld.2.2.2.2.2.2.2.1, cell_on bw8 hHeld.2.2.2.2.2.2.2.2.1, cell_on bw8 hHeld.2.2.2.2.2.2.2.2.2.1, cell_on bw8 hHeld.2.2.2.2.2.2.2.2.2.2.1, cell_on bw8 hHeld.2.2.2.2.2.2.2.2.2.2.2.1, cell_on bw8 hHeld.2.2.2.2.2.2.2.2.2.2.2.2.1, cell_on bw8 hHeld.2.2.2.2.2.2.2.2.2.2.2.2.2.1, also hHeld.2.2.2.2.2.2.2.2.2.2.2.2.2.2 bw8⟩ | exact ⟨cell_on bw7 hHeld.1, cell_on bw7 hHeld.2.1, cell_on bw7 hHeld.2.2.1, cell_on bw7 hHeld.2.2.2.1, cell_on bw7 hHeld.2.2.2.2.1, cell_on bw7 hHeld.2.2.2.2.2.1, cell_on bw7 hHeld.2.2.2.2.2.2.1, cell_on bw7 hHeld.2.2.2.2.2.2.2.1, cell_on bw7 hHeld.2.2.2.2.2.2.2.2.1, cell_on bw7 hHeld.2.2.2.2.2.2.2.2.2.1, cell_on bw7 hHeld.2.2.2.2.2.2.2.2.2.2.1, cell_on bw7 hHeld.2.2.2.2.2.2.2.2.2.2.2.1, cell_on bw7 hHeld.2.2.2.2.2.2.2.2.2.2.2.2.1, cell_on bw7 hHeld.2.2.2.2.2.2.2.2.2.2.2.2.2.1, also hHeld.2.2.2.2.2.2.2.2.2.2.2.2.2.2 bw7⟩ | exact ⟨cell_on bw6 hHeld.1, cell_on bw6 hHeld.2.1, cell_on bw6 hHeld.2.2.1, cell_on bw6 hHeld.2.2.2.1, cell_on bw6 hHeld.2.2.2.2.1, cell_on bw6 hHeld.2.2.2.2.2.1, cell_on bw6 hHeld.2.2.2.2.2.2.1, cell_on bw6 hHeld.2.2.2.2.2.2.2.1, cell_on bw6 hHeld.2.2.2.2.2.2.2.2.1, cell_on bw6 hHeld.2.2.2.2.2.2.2.2.2.1, cell_on bw6 hHeld.2.2.2.2.2.2.2.2.2.2.1, cell_on bw6 hHeld.2.2.2.2.2.2.2.2.2.2.2.1, cell_on bw6 hHeld.2.2.2.2.2.2.2.2.2.2.2.2.1, cell_on bw6 hHeld.2.2.2.2.2.2.2.2.2.2.2.2.2.1, also hHeld.2.2.2.2.2.2.2.2.2.2.2.2.2.2 bw6⟩ | exact ⟨cell_on bw5 hHeld.1, cell_on bw5 hHeld.2.1, cell_on bw5 hHeld.2.2.1, cell_on bw5 hHeld.2.2.2.1, cell_on bw5 hHeld.2.2.2.2.1, cell_on bw5 hHeld.2.2.2.2.2.1, cell_on bw5 hHeld.2.2.2.2.2.2.1, cell_on bw5 hHeld.2.2.2.2.2.2.2.1, cell_on bw5 hHeld.2.2.2.2.2.2.2.2.1, cell_on bw5 hHeld.2.2.2.2.2.2.2.2.2.1, cell_on bw5 hHeld.2.2.2.2.2.2.2.2.2.2.1, cell_on bw5 hHeld.2.2.2.2.2.2.2.2.2.2.2.1, cell_on bw5 hHeld.2.2.2.2.2.2.2.2.2.2.2.2.1, cell_on bw5 hHeld.2.2.2.2.2.2.2.2.2.2.2.2.2.1, also hHeld.2.2.2.2.2.2.2.2.2.2.2.2.2.2 bw5⟩
  clear hK Kc
  have zbw9 := bw9.size
  replace BB := also BB bw9
  replace x_a := x_a.on bw9
  replace x_b := x_b.on bw9
  replace q1 := q1.below bw9
  replace q2 := q2.below bw9
  replace x3 := x3.below bw9
  replace x4 := x4.below bw9
  replace x_x := x_x.on bw9
  replace x_y := x_y.on bw9
  replace h5 := h5.below bw9
  replace x6 := x6.below bw9
  replace h8 := h8.below bw9
  refine take_call (i := 14) rfl (by kernel_rfl) (fun Kc hK => ?_)
  go_simp
  (go_at_call 9; refine (rqSame n8 a8 l8 c8 d8 m8 k8 _ _ s9 d9 l9 c9 t9 g9 h9 k9 (pN X A * (pD B : Int) - pN Y B * (pD A : Int)) (pD A * pD B) 13 _ h8 x9 rfl rfl).mono ?_; rintro e w10 ⟨rfl, bw10⟩)
  refine hK.out _ _ ?_ (fun hHeld => ?_)
  · first | exact ⟨x_a.c0, x_a.c1, x_a.c2, x_b.c0, x_b.c1, x_b.c2, x_x.c0, x_x.c1, x_x.c2, x_x.c3, x_y.c0, x_y.c1, x_y.c2, x_y.c3, BB⟩ | exact ⟨cell_on bw16 hHeld.1, cell_on bw16 hHeld.2.1, cell_on bw16 hHeld.2.2.1, cell_on bw16 hHeld.2.2.2.1, cell_on bw16 hHeld.2.2.2.2.1, cell_on bw16 hHeld.2.2.2.2.2.1, cell_on bw16 hHeld.2.2.2.2.2.2.1, cell_on bw16 hHeld.2.2.2.2.2.2.2.1, cell_on bw16 hHeld.2.2.2.2.2.2.2.2.1, cell_on bw16 hHeld.2.2.2.2.2.2.2.2.2.1, cell_on bw16 hHeld.2.2.2.2.2.2.2.2.2.2.1, cell_on bw16 hHeld.2.2.2.2.2.2.2.2.2.2.2.1, cell_on bw16 hHeld.2.2.2.2.2.2.2.2.2.2.2.2.1, cell_on bw16 hHeld.2.2.2.2.2.2.2.2.2.2.2.2.2.1, also hHeld.2.2.2.2.2.2.2.2.2.2.2.2.2.2 bw16⟩ | exact ⟨cell_on bw15 hHeld.1, cell_on bw15 hHeld.2.1, cell_on bw15 hHeld.2.2.1, cell_on bw15 hHeld.2.2.2.1, cell_on bw15 hHeld.2.2.2.2.1, cell_on bw15 hHeld.2.2.2.2.2.1, cell_on bw15 hHeld.2.2.2.2.2.2.1, cell_on bw15 hHeld.2.2.2.2.2.2.2.1, cell_on bw15 hHeld.2.2.2.2.2.2.2.2.1, cell_on bw15 hHeld.2.2.2.2.2.2.2.2.2.1, cell_on bw15 hHeld.2.2.2.2.2.2.2.2.2.2.1, cell_on bw15 hHeld.2.2.2.2.2.2.2.2.2.2.2.1, cell_on bw15 hHeld.2.2.2.2.2.2.2.2.2.2.2.2.1, cell_on bw15 hHeld.2.2.2.2.2.2.2.2.2.2.2.2.2.1, also hHeld.2.2.2.2.2.2.2.2.2.2.2.2.2.2 bw15⟩ | exact ⟨cell_on bw14 hHeld.1, cell_on bw14 hHeld.2.1, cell_on bw14 hHeld.2.2.1, cell_on bw14 hHeld.2.2.2.1, cell_on bw14 hHeld.2.2.2.2.1, cell_on bw14 hHeld.2.2.2.2.2.1, cell_on bw14 hHeld.2.2.2.2.2.2.1, cell_on bw14 hHeld.2.2.2.2.2.2.2.1, cell_on bw14 hHeld.2.2.2.2.2.2.2.2.1, cell_on bw14 hHeld.2.2.2.2.2.2.2.2.2.1, cell_on bw14 hHeld.2.2.2.2.2.2.2.2.2.2.1, cell_on bw14 hHeld.2.2.2.2.2.2.2.2.2.2.2.1, cell_on bw14 hHeld.2.2.2.2.2.2.2.2.2.2.2.2.1, cell_on bw14 hHeld.2.2.2.2.2.2.2.2.2.2.2.2.2.1, also hHeld.2.2.2.2.2.2.2.2.2.2.2.2.2.2 bw14⟩ | exact ⟨cell_on bw13 hHeld.1, cell_on bw13 hHeld.2.1, cell_on bw13 hHeld.2.2.1, cell_on bw13 hHeld.2.2.2.1, cell_on bw13 hHeld.2.2.2.2.1, cell_on bw13 hHeld.2.2.2.2.2.1, cell_on bw13 hHeld.2.2.2.2.2.2.1, cell_on bw13 hHeld.2.2.2.2.2.2.2.1, cell_on bw13 hHeld.2.2.2.2.2.2.2.2.1, cell_on bw13 hHeld.2.2.2.2.2.2.2.2.2.1, cell_on bw13 hHeld.2.2.2.2.2.2.2.2.2.2.1, cell_on bw13 hHeld.2.2.2.2.2.2.2.2.2.2.2.1, cell_on bw13 hHeld.2.2.2.2.2.2.2.2.2.2.2.2.1, cell_on bw13 hHeld.2.2.2.2.2.2.2.2.2.2.2.2.2.1, also hHeld.2.2.2.2.2.2.2.2.2.2.2.2.2.2 bw13⟩ | exact ⟨cell_on bw12 hHeld.1, cell_on bw12 hHeld.2.1, cell_on bw12 hHeld.2.2.1, cell_on bw12 hHeld.2.2.2.1, cell_on bw12 hHeld.2.2.2.2.1, cell_on bw12 hHeld.2.2.2.2.2.1, cell_on bw12 hHeld.2.2.2.2.2.2.1, cell_on bw12 hHeld.2.2.2.2.2.2.2.1, cell_on bw12 hHeld.2.2.2.2.2.2.2.2.1, cell_on bw12 hHeld.2.2.2.2.2.2.2.2.2.1, cell_on bw12 hHeld.2.2.2.2.2.2.2.2.2.2.1, cell_on bw12 hHeld.2.2.2.2.2.2.2.2.2.2.2.1, cell_on bw12 hHeld.2.2.2.2.2.2.2.2.2.2.2.2.1, cell_on bw12 hHeld.2.2.2.2.2.2.2.2.2.2.2.2.2.1, also hHeld.2.2.2.2.2.2.2.2.2.2.2.2.2.2 bw12⟩ | exact ⟨cell_on bw11 hHeld.1, cell_on bw11 hHeld.2.1, cell_on bw11 hHeld.2.2.1, cell_on bw11 hHeld.2.2.2.1, cell_on bw11 hHeld.2.2.2.2.1, cell_on bw11 hHeld.2.2.2.2.2.1, cell_on bw11 hHeld.2.2.2.2.2.2.1, cell_on bw11 hHeld.2.2.2.2.2.2.2.1, cell_on bw11 hHeld.2.2.2.2.2.2.2.2.1, cell_on bw11 hHeld.2.2.2.2.2.2.2.2.2.1, cell_on bw11 hHeld.2.2.2.2.2.2.2.2.2.2.1, cell_on bw11 hHeld.2.2.2.2.2.2.2.2.2.2.2.1, cell_on bw11 hHeld.2.2.2.2.2.2.2.2.2.2.2.2.1, cell_on bw11 hHeld.2.2.2.2.2.2.2.2.2.2.2.2.2.1, also hHeld.2.2.2.2.2.2.2.2.2.2.2.2.2.2 bw11⟩ | exact ⟨cell_on bw10 hHeld.1, cell_on bw10 hHeld.2.1, cell_on bw10 hHeld.2.2.1, cell_on bw10 hHeld.2.2.2.1, cell_on bw10 hHeld.2.2.2.2.1, cell_on bw10 hHeld.2.2.2.2.2.1, cell_on bw10 hHeld.2.2.2.2.2.2.1, cell_on bw10 hHeld.2.2.2.2.2.2.2.1, cell_on bw10 hHeld.2.2.2.2.2.2.2.2.1, cell_on bw10 hHeld.2.2.2.2.2.2.2.2.2.1, cell_on bw10 hHeld.2.2.2.2.2.2.2.2.2.2.1, cell_on bw10 hHeld.2.2.2.2.2.2.2.2.2.2.2.1, cell_on bw10 hHeld.2.2.2.2.2.2.2.2.2.2.2.2.1, cell_on bw10 hHeld.2.2.2.2.2.2.2.2.2.2.2.2.2.1, also hHeld.2.2.2.2.2.2.2.2.2.2.2.2.2.2 bw10⟩ | exact ⟨cell_on bw9 hHeld.1, cell_on bw9 hHeld.2.1, cell_on bw9 hHeld.2.2.1, cell_on bw9 hHeld.2.2.2.1, cell_on bw9 hHeld.2.2.2.2.1, cell_on bw9 hHeld.2.2.2.2.2.1, cell_on bw9 hHeld.2.2.2.2.2.2.1, cell_on bw9 hHeld.2.2.2.2.2.2.2.1, cell_on bw9 hHeld.2.2.2.2.2.2.2.2.1, cell_on bw9 hHeld.2.2.2.2.2.2.2.2.2.1, cell_on bw9 hHeld.2.2.2.2.2.2.2.2.2.2.1, cell_on bw9 hHeld.2.2.2.2.2.2.2.2.2.2.2.1, cell_on bw9 hHeld.2.2.2.2.2.2.2.2.2.2.2.2.1, cell_on bw9 hHeld.2.2.2.2.2.2.2.2.2.2.2.2.2.1, also hHeld.2.2.2.2.2.2.2.2.2.2.2.2.2.2 bw9⟩ | exact ⟨cell_on bw8 hHeld.1, cell_on bw8 hHeld.2.1, cell_on bw8 hHeld.2.2.1, cell_on bw8 hHeld.2.2.2.1, cell_on bw8 hHeld.2.2.2.2.1, cell_on bw8 hHeld.2.2.2.2.2.1, cell_on bw8 hHeld.2.2.2.2.2.2.1, cell_on bw8 hHeld.2.2.2.2.2.2.2.1, cell_on bw8 hHeld.2.2.2.2.2.2.2.2.1, cell_on bw8 hHeld.2.2.2.2.2.2.2.2.2.1, cell_on bw8 hHeld.2.2.2.2.2.2.2.2.2.2.1, cell_on bw8 hHeld.2.2.2.2.2.2.2.2.2.2.2.1, cell_on bw8 hHeld.2.2.2.2.2.2.2.2.2.2.2.2.1, cell_on bw8 hHeld.2.2.2.2.2.2.2.2.2.2.2.2.2.1, also hHeld.2.2.2.2.2.2.2.2.2.2.2.2.2.2 bw8⟩ | exact ⟨cell_on bw7 hHeld.1, cell_on bw7 hHeld.2.1, cell_on bw7 hHeld.2.2.1, cell_on bw7 hHeld.2.2.2.1, cell_on bw7 hHeld.2.2.2.2.1, cell_on bw7 hHeld.2.2.2.2.2.1, cell_on bw7 hHeld.2.2.2.2.2.2.1, cell_on bw7 hHeld.2.2.2.2.2.2.2.1, cell_on bw7 hHeld.2.2.2.2.2.2.2.2.1, cell_on bw7 hHeld.2.2.2.2.2.2.2.2.2.1, cell_on bw7 hHeld.2.2.2.2.2.2.2.2.2.2.1, cell_on bw7 hHeld.2.2.2.2.2.2.2.2.2.2.2.1, cell_on bw7 hHeld.2.2.2.2.2.2.2.2.2.2.2.2.1, cell_on bw7 hHeld.2.2.2.2.2.2.2.2.2.2.2.2.2.1, also hHeld.2.2.2.2.2.2.2.2.2.2.2.2.2.2 bw7⟩ | exact ⟨cell_on bw6 hHeld.1, cell_on bw6 hHeld.2.1, cell_on bw6 hHeld.2.2.1, cell_on bw6 hHeld.2.2.2.1, cell_on bw6 hHeld.2.2.2.2.1, cell_on bw6 hHeld.2.2.2.2.2.1, cell_on bw6 hHeld.2.2.2.2.2.2.1, cell_on bw6 hHeld.2.2.2.2.2.2.2.1, cell_on bw6 hHeld.2.2.2.2.2.2.2.2.1, cell_on bw6 hHeld.2.2.2.2.2.2.2.2.2.1, cell_on bw6 hHeld.2.2.2.2.2.2.2.2.2.2.1, cell_on bw6 hHeld.2.2.2.2.2.2.2.2.2.2.2.1, cell_on bw6 hHeld.2.2.2.2.2.2.2.2.2.2.2.2.1, cell_on bw6 hHeld.2.2.2.2.2.2.2.2.2.2.2.2.2.1, also hHeld.2.2.2.2.2.2.2.2.2.2.2.2.2.2 bw6⟩ | exact ⟨cell_on bw5 hHeld.1, cell_on bw5 hHeld.2.1, cell_on bw5 hHeld.2.2.1, cell_on bw5 hHeld.2.2.2.1, cell_on bw5 hHeld.2.2.2.2.1, cell_on bw5 hHeld.2.2.2.2.2.1, cell_on bw5 hHeld.2.2.2.2.2.2.1, cell_on bw5 hHeld.2.2.2.2.2.2.2.1, cell_on bw5 hHeld.2.2.2.2.2.2.2.2.1, cell_on bw5 hHeld.2.2.2.2.2.2.2.2.2.1, cell_on bw5 hHeld.2.2.2.2.2.2.2.2.2.2.1, cell_on bw5 hHeld.2.2.2.2.2.2.2.2.2.2.2.1, cell_on bw5 hHeld.2.2.2.2.2.2.2.2.2.2.2.2.1, cell_on bw5 hHeld.2.2.2.2.2.2.2.2.2.2.2.2.2.1, also hHeld.2.2.2.2.2.2.2.2.2.2.2.2.2.2 bw5⟩
  clear hK Kc
  have zbw10 := bw10.size
  replace BB := also BB bw10
  replace x_a := x_a.on bw10
  replace x_b := x_b.on bw10
  replace q1 := q1.below bw10
  replace q2 := q2.below bw10
  replace x3 := x3.below bw10
  replace x4 := x4.below bw10
  replace x_x := x_x.on bw10
  replace x_y := x_y.on bw10
  replace h5 := h5.below bw10
  replace x6 := x6.below bw10
  replace h8 := h8.below bw10
  replace x9 := x9.below bw10
  refine take_yes (i := 15) (v := ?vw15) rfl (by kernel_rfl) (by kernel_rfl) (by kernel_rfl) (fun _ _ _ h => h) (by rfl) (by assumption) ?hyw15 ?restw15
  case hyw15 => (intro w hSw; (try dsimp only at hSw); first | (go_simp; done) | (go_simp; with_reducible rfl))
  simp only [Act.put, List.setIfInBounds_toArray, List.set_cons_zero, List.set_cons_succ]
  refine take_yes (i := 16) (v := ?vw16) rfl (by kernel_rfl) (by kernel_rfl) (by kernel_rfl) (fun _ _ _ h => h) (by rfl) (by assumption) ?hyw16 ?restw16
  case hyw16 => (intro w hSw; (try dsimp only at hSw); first | (go_simp; done) | (go_simp; with_reducible rfl))
  simp only [Act.put, List.setIfInBounds_toArray, List.set_cons_zero, List.set_cons_succ]
  refine take_yes (i := 17) (v := ?vw17) rfl (by kernel_rfl) (by kernel_rfl) (by kernel_rfl) (fun _ _ _ h => h) (by rfl) (by assumption) ?hyw17 ?restw17
  case hyw17 => (intro w hSw; (try dsimp only at hSw); first | (go_simp; done) | (go_simp; with_reducible rfl))
  simp only [Act.put, List.setIfInBounds_toArray, List.set_cons_zero, List.set_cons_succ]
  refine take_yes (i := 19) (v := ?vw19) rfl (by kernel_rfl) (by kernel_rfl) (by kernel_rfl) (fun _ _ _ h => h) (by rfl) (by assumption) ?hyw19 ?restw19
  case hyw19 => (intro w hSw; (try dsimp only at hSw); first | (go_simp; done) | (go_simp; with_reducible rfl))
  simp only [Act.put, List.setIfInBounds_toArray, List.set_cons_zero, List.set_cons_succ]
  refine take_call (i := 18) rfl (by kernel_rfl) (fun Kc hK => ?_)
  go_simp
  (go_at_call 14; refine (qNeg n a1 m1 c1 d1 k1 g1 X A 6 _ q1 _ _ rfl rfl).mono ?_; rintro e w11 ⟨n11, a11, l11, c11, d11, m11, k11, rfl, h11, f11, e11, bw11⟩)
  refine hK.out _ _ ?_ (fun hHeld => ?_)
  · first | exact ⟨x_a.c0, x_a.c1, x_a.c2, x_b.c0, x_b.c1, x_b.c2, x_x.c0, x_x.c1, x_x.c2, x_x.c3, x_y.c0, x_y.c1, x_y.c2, x_y.c3, BB⟩ | exact ⟨cell_on bw16 hHeld.1, cell_on bw16 hHeld.2.1, cell_on bw16 hHeld.2.2.1, cell_on bw16 hHeld.2.2.2.1, cell_on bw16 hHeld.2.2.2.2.1, cell_on bw16 hHeld.2.2.2.2.2.1, cell_on bw16 hHeld.2.2.2.2.2.2.1, cell_on bw16 hHeld.2.2.2.2.2.2.2.1, cell_on bw16 hHeld.2.2.2.2.2.2.2.2.1, cell_on bw16 hHeld.2.2.2.2.2.2.2.2.2.1, cell_on bw16 hHeld.2.2.2.2.2.2.2.2.2.2.1, cell_on bw16 hHeld.2.2.2.2.2.2.2.2.2.2.2.1, cell_on bw16 hHeld.2.2.2.2.2.2.2.2.2.2.2.2.1, cell_on bw16 hHeld.2.2.2.2.2.2.2.2.2.2.2.2.2.1, also hHeld.2.2.2.2.2.2.2.2.2.2.2.2.2.2 bw16⟩ | exact ⟨cell_on bw15 hHeld.1, cell_on bw15 hHeld.2.1, cell_on bw15 hHeld.2.2.1, cell_on bw15 hHeld.2.2.2.1, cell_on bw15 hHeld.2.2.2.2.1, cell_on bw15 hHeld.2.2.2.2.2.1, cell_on bw15 hHeld.2.2.2.2.2.2.1, cell_on bw15 hHeld.2.2.2.2.2.2.2.1, cell_on bw15 hHeld.2.2.2.2.2.2.2.2.1, cell_on bw15 hHeld.2.2.2.2.2.2.2.2.2.1, cell_on bw15 hHeld.2.2.2.2.2.2.2.2.2.2.1, cell_on bw15 hHeld.2.2.2.2.2.2.2.2.2.2.2.1, cell_on bw15 hHeld.2.2.2.2.2.2.2.2.2.2.2.2.1, cell_on bw15 hHeld.2.2.2.2.2.2.2.2.2.2.2.2.2.1, also hHeld.2.2.2.2.2.2.2.2.2.2.2.2.2.2 bw15⟩ | exact ⟨cell_on bw14 hHeld.1, cell_on bw14 hHeld.2.1, cell_on bw14 hHeld.2.2.1, cell_on bw14 hHeld.2.2.2.1, cell_on bw14 hHeld.2.2.2.2.1, cell_on bw14 hHeld.2.2.2.2.2.1, cell_on bw14 hHeld.2.2.2.2.2.2.1, cell_on bw14 hHeld.2.2.2.2.2.2.2.1, cell_on bw14 hHeld.2.2.2.2.2.2.2.2.1, cell_on bw14 hHeld.2.2.2.2.2.2.2.2.2.1, cell_on bw14 hHeld.2.2.2.2.2.2.2.2.2.2.1, cell_on bw14 hHeld.2.2.2.2.2.2.2.2.2.2.2.1, cell_on bw14 hHeld.2.2.2.2.2.2.2.2.2.2.2.2.1, cell_on bw14 hHeld.2.2.2.2.2.2.2.2.2.2.2.2.2.1, also hHeld.2.2.2.2.2.2.2.2.2.2.2.2.2.2 bw14⟩ | exact ⟨cell_on bw13 hHeld.1, cell_on bw13 hHeld.2.1, cell_on bw13 hHeld.2.2.1, cell_on bw13 hHeld.2.2.2.1, cell_on bw13 hHeld.2.2.2.2.1, cell_on bw13 hHeld.2.2.2.2.2.1, cell_on bw13 hHeld.2.2.2.2.2.2.1, cell_on bw13 hHeld.2.2.2.2.2.2.2.1, cell_on bw13 hHeld.2.2.2.2.2.2.2.2.1, cell_on bw13 hHeld.2.2.2.2.2.2.2.2.2.1, cell_on bw13 hHeld.2.2.2.2.2.2.2.2.2.2.1, cell_on bw13 hHeld.2.2.2.2.2.2.2.2.2.2.2.1, cell_on bw13 hHeld.2.2.2.2.2.2.2.2.2.2.2.2.1, cell_on bw13 hHeld.2.2.2.2.2.2.2.2.2.2.2.2.2.1, also hHeld.2.2.2.2.2.2.2.2.2.2.2.2.2.2 bw13⟩ | exact ⟨cell_on bw12 hHeld.1, cell_on bw12 hHeld.2.1, cell_on bw12 hHeld.2.2.1, cell_on bw12 hHeld.2.2.2.1, cell_on bw12 hHeld.2.2.2.2.1, cell_on bw12 hHeld.2.2.2.2.2.1, cell_on bw12 hHeld.2.2.2.2.2.2.1, cell_on bw12 hHeld.2.2.2.2.2.2.2.1, cell_on bw12 hHeld.2.2.2.2.2.2.2.2.1, cell_on bw12 hHeld.2.2.2.2.2.2.2.2.2.1, cell_on bw12 hHeld.2.2.2.2.2.2.2.2.2.2.1, cell_on bw12 hHeld.2.2.2.2.2.2.2.2.2.2.2.1, cell_on bw12 hHeld.2.2.2.2.2.2.2.2.2.2.2.2.1, cell_on bw12 hHeld.2.2.2.2.2.2.2.2.2.2.2.2.2.1, also hHeld.2.2.2.2.2.2.2.2.2.2.2.2.2.2 bw12⟩ | exact ⟨cell_on bw11 hHeld.1, cell_on bw11 hHeld.2.1, cell_on bw11 hHeld.2.2.1, cell_on bw11 hHeld.2.2.2.1, cell_on bw11 hHeld.2.2.2.2.1, cell_on bw11 hHeld.2.2.2.2.2.1, cell_on bw11 hHeld.2.2.2.2.2.2.1, cell_on bw11 hHeld.2.2.2.2.2.2.2.1, cell_on bw11 hHeld.2.2.2.2.2.2.2.2.1, cell_on bw11 hHeld.2.2.2.2.2.2.2.2.2.1, cell_on bw11 hHeld.2.2.2.2.2.2.2.2.2.2.1, cell_on bw11 hHeld.2.2.2.2.2.2.2.2.2.2.2.1, cell_on bw11 hHeld.2.2.2.2.2.2.2.2.2.2.2.2.1, cell_on bw11 hHeld.2.2.2.2.2.2.2.2.2.2.2.2.2.1, also hHeld.2.2.2.2.2.2.2.2.2.2.2.2.2.2 bw11⟩ | exact ⟨cell_on bw10 hHeld.1, cell_on bw10 hHeld.2.1, cell_on bw10 hHeld.2.2.1, cell_on bw10 hHeld.2.2.2.1, cell_on bw10 hHeld.2.2.2.2.1, cell_on bw10 hHeld.2.2.2.2.2.1, cell_on bw10 hHeld.2.2.2.2.2.2.1, cell_on bw10 hHeld.2.2.2.2.2.2.2.1, cell_on bw10 hHeld.2.2.2.2.2.2.2.2.1, cell_on bw10 hHeld.2.2.2.2.2.2.2.2.2.1, cell_on bw10 hHeld.2.2.2.2.2.2.2.2.2.2.1, cell_on bw10 hHeld.2.2.2.2.2.2.2.2.2.2.2.1, cell_on bw10 hHeld.2.2.2.2.2.2.2.2.2.2.2.2.1, cell_on bw10 hHeld.2.2.2.2.2.2.2.2.2.2.2.2.2.1, also hHeld.2.2.2.2.2.2.2.2.2.2.2.2.2.2 bw10⟩ | exact ⟨cell_on bw9 hHeld.1, cell_on bw9 hHeld.2.1, cell_on bw9 hHeld.2.2.1, cell_on bw9 hHeld.2.2.2.1, cell_on bw9 hHeld.2.2.2.2.1, cell_on bw9 hHeld.2.2.2.2.2.1, cell_on bw9 hHeld.2.2.2.2.2.2.1, cell_on bw9 hHeld.2.2.2.2.2.2.2.1, cell_on bw9 hHeld.2.2.2.2.2.2.2.2.1, cell_on bw9 hHeld.2.2.2.2.2.2.2.2.2.1, cell_on bw9 hHeld.2.2.2.2.2.2.2.2.2.2.1, cell_on bw9 hHeld.2.2.2.2.2.2.2.2.2.2.2.1, cell_on bw9 hHeld.2.2.2.2.2.2.2.2.2.2.2.2.1, cell_on bw9 hHeld.2.2.2.2.2.2.2.2.2.2.2.2.2.1, also hHeld.2.2.2.2.2.2.2.2.2.2.2.2.2.2 bw9⟩ | exact ⟨cell_on bw8 hHeld.1, cell_on bw8 hHeld.2.1, cell_on bw8 hHeld.2.2.1, cell_on bw8 hHeld.2.2.2.1, cell_on bw8 hHeld.2.2.2.2.1, cell_on bw8 hHeld.2.2.2.2.2.1, cell_on bw8 hHeld.2.2.2.2.2.2.1, cell_on bw8 hHeld.2.2.2.2.2.2.2.1, cell_on bw8 hHeld.2.2.2.2.2.2.2.2.1, cell_on bw8 hHeld.2.2.2.2.2.2.2.2.2.1, cell_on bw8 hHeld.2.2.2.2.2.2.2.2.2.2.1, cell_on bw8 hHeld.2.2.2.2.2.2.2.2.2.2.2.1, cell_on bw8 hHeld.2.2.2.2.2.2.2.2.2.2.2.2.1, cell_on bw8 hHeld.2.2.2.2.2.2.2.2.2.2.2.2.2.1, also hHeld.2.2.2.2.2.2.2.2.2.2.2.2.2.2 bw8⟩ | exact ⟨cell_on bw7 hHeld.1, cell_on bw7 hHeld.2.1, cell_on bw7 hHeld.2.2.1, cell_on bw7 hHeld.2.2.2.1, cell_on bw7 hHeld.2.2.2.2.1, cell_on bw7 hHeld.2.2.2.2.2.1, cell_on bw7 hHeld.2.2.2.2.2.2.1, cell_on bw7 hHeld.2.2.2.2.2.2.2.1, cell_on bw7 hHeld.2.2.2.2.2.2.2.2.1, cell_on bw7 hHeld.2.2.2.2.2.2.2.2.2.1, cell_on bw7 hHeld.2.2.2.2.2.2.2.2.2.2.1, cell_on bw7 hHeld.2.2.2.2.2.2.2.2.2.2.2.1, cell_on bw7 hHeld.2.2.2.2.2.2.2.2.2.2.2.2.1, cell_on bw7 hHeld.2.2.2.2.2.2.2.2.2.2.2.2.2.1, also hHeld.2.2.2.2.2.2.2.2.2.2.2.2.2.2 bw7⟩ | exact ⟨cell_on bw6 hHeld.1, cell_on bw6 hHeld.2.1, cell_on bw6 hHeld.2.2.1, cell_on bw6 hHeld.2.2.2.1, cell_on bw6 hHeld.2.2.2.2.1, cell_on bw6 hHeld.2.2.2.2.2.1, cell_on bw6 hHeld.2.2.2.2.2.2.1, cell_on bw6 hHeld.2.2.2.2.2.2.2.1, cell_on bw6 hHeld.2.2.2.2.2.2.2.2.1, cell_on bw6 hHeld.2.2.2.2.2.2.2.2.2.1, cell_on bw6 hHeld.2.2.2.2.2.2.2.2.2.2.1, cell_on bw6 hHeld.2.2.2.2.2.2.2.2.2.2.2.1, cell_on bw6 hHeld.2.2.2.2.2.2.2.2.2.2.2.2.1, cell_on bw6 hHeld.2.2.2.2.2.2.2.2.2.2.2.2.2.1, also hHeld.2.2.2.2.2.2.2.2.2.2.2.2.2.2 bw6⟩ | exact ⟨cell_on bw5 hHeld.1, cell_on bw5 hHeld.2.1, cell_on bw5 hHeld.2.2.1, cell_on bw5 hHeld.2.2.2.1, cell_on bw5 hHeld.2.2.2.2.1, cell_on bw5 hHeld.2.2.2.2.2.1, cell_on bw5 hHeld.2.2.2.2.2.2.1, cell_on bw5 hHeld.2.2.2.2.2.2.2.1, cell_on bw5 hHeld.2.2.2.2.2.2.2.2.1, cell_on bw5 hHeld.2.2.2.2.2.2.2.2.2.1, cell_on bw5 hHeld.2.2.2.2.2.2.2.2.2.2.1, cell_on bw5 hHeld.2.2.2.2.2.2.2.2.2.2.2.1, cell_on bw5 hHeld.2.2.2.2.2.2.2.2.2.2.2.2.1, cell_on bw5 hHeld.2.2.2.2.2.2.2.2.2.2.2.2.2.1, also hHeld.2.2.2.2.2.2.2.2.2.2.2.2.2.2 bw5⟩
  clear hK Kc
  have zbw11 := bw11.size
  replace BB := also BB bw11
  replace x_a := x_a.on bw11
  replace x_b := x_b.on bw11
  replace q1 := q1.below bw11
  replace q2 := q2.below bw11
  replace x3 := x3.below bw11
  replace x4 := x4.below bw11
  replace x_x := x_x.on bw11
  replace x_y := x_y.on bw11
  replace h5 := h5.below bw11
  replace x6 := x6.below bw11
  replace h8 := h8.below bw11
  replace x9 := x9.below bw11
  refine take_call (i := 20) rfl (by kernel_rfl) (fun Kc hK => ?_)
  go_simp
  (go_at_call 15; refine (rqNeg s3 d3 l3 c3 t3 g3 h3 k3 (pN X A) (pD A) 6 _ x3 (-(pN X A)) rfl).mono ?_; rintro e w12 ⟨s12, d12, l12, c12, t12, g12, h12, k12, rfl, x12, r12, bw12⟩)
  refine hK.out _ _ ?_ (fun hHeld => ?_)
  · first | exact ⟨x_a.c0, x_a.c1, x_a.c2, x_b.c0, x_b.c1, x_b.c2, x_x.c0, x_x.c1, x_x.c2, x_x.c3, x_y.c0, x_y.c1, x_y.c2, x_y.c3, BB⟩ | exact ⟨cell_on bw16 hHeld.1, cell_on bw16 hHeld.2.1, cell_on bw16 hHeld.2.2.1, cell_on bw16 hHeld.2.2.2.1, cell_on bw16 hHeld.2.2.2.2.1, cell_on bw16 hHeld.2.2.2.2.2.1, cell_on bw16 hHeld.2.2.2.2.2.2.1, cell_on bw16 hHeld.2.2.2.2.2.2.2.1, cell_on bw16 hHeld.2.2.2.2.2.2.2.2.1, cell_on bw16 hHeld.2.2.2.2.2.2.2.2.2.1, cell_on bw16 hHeld.2.2.2.2.2.2.2.2.2.2.1, cell_on bw16 hHeld.2.2.2.2.2.2.2.2.2.2.2.1, cell_on bw16 hHeld.2.2.2.2.2.2.2.2.2.2.2.2.1, cell_on bw16 hHeld.2.2.2.2.2.2.2.2.2.2.2.2.2.1, also hHeld.2.2.2.2.2.2.2.2.2.2.2.2.2.2 bw16⟩ | exact ⟨cell_on bw15 hHeld.1, cell_on bw15 hHeld.2.1, cell_on bw15 hHeld.2.2.1, cell_on bw15 hHeld.2.2.2.1, cell_on bw15 hHeld.2.2.2.2.1, cell_on bw15 hHeld.2.2.2.2.2.1, cell_on bw15 hHeld.2.2.2.2.2.2.1, cell_on bw15 hHeld.2.2.2.2.2.2.2.1, cell_on bw15 hHeld.2.2.2.2.2.2.2.2.1, cell_on bw15 hHeld.2.2.2.2.2.2.2.2.2.1, cell_on bw15 hHeld.2.2.2.2.2.2.2.2.2.2.1, cell_on bw15 hHeld.2.2.2.2.2.2.2.2.2.2.2.1, cell_on bw15 hHeld.2.2.2.2.2.2.2.2.2.2.2.2.1, cell_on bw15 hHeld.2.2.2.2.2.2.2.2.2.2.2.2.2.1, also hHeld.2.2.2.2.2.2.2.2.2.2.2.2.2.2 bw15⟩ | exact ⟨cell_on bw14 hHeld.1, cell_on bw14 hHeld.2.1, cell_on bw14 hHeld.2.2.1, cell_on bw14 hHeld.2.2.2.1, cell_on bw14 hHeld.2.2.2.2.1, cell_on bw14 hHeld.2.2.2.2.2.1, cell_on bw14 hHeld.2.2.2.2.2.2.1, cell_on bw14 hHeld.2.2.2.2.2.2.2.1, cell_on bw14 hHeld.2.2.2.2.2.2.2.2.1, cell_on bw14 hHeld.2.2.2.2.2.2.2.2.2.1, cell_on bw14 hHeld.2.2.2.2.2.2.2.2.2.2.1, cell_on bw14 hHeld.2.2.2.2.2.2.2.2.2.2.2.1, cell_on bw14 hHeld.2.2.2.2.2.2.2.2.2.2.2.2.1, cell_on bw14 hHeld.2.2.2.2.2.2.2.2.2.2.2.2.2.1, also hHeld.2.2.2.2.2.2.2.2.2.2.2.2.2.2 bw14⟩ | exact ⟨cell_on bw13 hHeld.1, cell_on bw13 hHeld.2.1, cell_on bw13 hHeld.2.2.1, cell_on bw13 hHeld.2.2.2.1, cell_on bw13 hHeld.2.2.2.2.1, cell_on bw13 hHeld.2.2.2.2.2.1, cell_on bw13 hHeld.2.2.2.2.2.2.1, cell_on bw13 hHeld.2.2.2.2.2.2.2.1, cell_on bw13 hHeld.2.2.2.2.2.2.2.2.1, cell_on bw13 hHeld.2.2.2.2.2.2.2.2.2.1, cell_on bw13 hHeld.2.2.2.2.2.2.2.2.2.2.1, cell_on bw13 hHeld.2.2.2.2.2.2.2.2.2.2.2.1, cell_on bw13 hHeld.2.2.2.2.2.2.2.2.2.2.2.2.1, cell_on bw13 hHeld.2.2.2.2.2.2.2.2.2.2.2.2.2.1, also hHeld.2.2.2.2.2.2.2.2.2.2.2.2.2.2 bw13⟩ | exact ⟨cell_on bw12 hHeld.1, cell_on bw12 hHeld.2.1, cell_on bw12 hHeld.2.2.1, cell_on bw12 hHeld.2.2.2.1, cell_on bw12 hHeld.2.2.2.2.1, cell_on bw12 hHeld.2.2.2.2.2.1, cell_on bw12 hHeld.2.2.2.2.2.2.1, cell_on bw12 hHeld.2.2.2.2.2.2.2.1, cell_on bw12 hHeld.2.2.2.2.2.2.2.2.1, cell_on bw12 hHeld.2.2.2.2.2.2.2.2.2.1, cell_on bw12 hHeld.2.2.2.2.2.2.2.2.2.2.1, cell_on bw12 hHeld.2.2.2.2.2.2.2.2.2.2.2.1, cell_on bw12 hHeld.2.2.2.2.2.2.2.2.2.2.2.2.1, cell_on bw12 hHeld.2.2.2.2.2.2.2.2.2.2.2.2.2.1, also hHeld.2.2.2.2.2.2.2.2.2.2.2.2.2.2 bw12⟩ | exact ⟨cell_on bw11 hHeld.1, cell_on bw11 hHeld.2.1, cell_on bw11 hHeld.2.2.1, cell_on bw11 hHeld.2.2.2.1, cell_on bw11 hHeld.2.2.2.2.1, cell_on bw11 hHeld.2.2.2.2.2.1, cell_on bw11 hHeld.2.2.2.2.2.2.1, cell_on bw11 hHeld.2.2.2.2.2.2.2.1, cell_on bw11 hHeld.2.2.2.2.2.2.2.2.1, cell_on bw11 hHeld.2.2.2.2.2.2.2.2.2.1, cell_on bw11 hHeld.2.2.2.2.2.2.2.2.2.2.1, cell_on bw11 hHeld.2.2.2.2.2.2.2.2.2.2.2.1, cell_on bw11 hHeld.2.2.2.2.2.2.2.2.2.2.2.2.1, cell_on bw11 hHeld.2.2.2.2.2.2.2.2.2.2.2.2.2.1, also hHeld.2.2.2.2.2.2.2.2.2.2.2.2.2.2 bw11⟩ | exact ⟨cell_on bw10 hHeld.1, cell_on bw10 hHeld.2.1, cell_on bw10 hHeld.2.2.1, cell_on bw10 hHeld.2.2.2.1, cell_on bw10 hHeld.2.2.2.2.1, cell_on bw10 hHeld.2.2.2.2.2.1, cell_on bw10 hHeld.2.2.2.2.2.2.1, cell_on bw10 hHeld.2.2.2.2.2.2.2.1, cell_on bw10 hHeld.2.2.2.2.2.2.2.2.1, cell_on bw10 hHeld.2.2.2.2.2.2.2.2.2.1, cell_on bw10 hHeld.2.2.2.2.2.2.2.2.2.2.1, cell_on bw10 hHeld.2.2.2.2.2.2.2.2.2.2.2.1, cell_on bw10 hHeld.2.2.2.2.2.2.2.2.2.2.2.2.1, cell_on bw10 hHeld.2.2.2.2.2.2.2.2.2.2.2.2.2.1, also hHeld.2.2.2.2.2.2.2.2.2.2.2.2.2.2 bw10⟩ | exact ⟨cell_on bw9 hHeld.1, cell_on bw9 hHeld.2.1, cell_on bw9 hHeld.2.2.1, cell_on bw9 hHeld.2.2.2.1, cell_on bw9 hHeld.2.2.2.2.1, cell_on bw9 hHeld.2.2.2.2.2.1, cell_on bw9 hHeld.2.2.2.2.2.2.1, cell_on bw9 hHeld.2.2.2.2.2.2.2.1, cell_on bw9 hHeld.2.2.2.2.2.2.2.2.1, cell_on bw9 hHeld.2.2.2.2.2.2.2.2.2.1, cell_on bw9 hHeld.2.2.2.2.2.2.2.2.2.2.1, cell_on bw9 hHeld.2.2.2.2.2.2.2.2.2.2.2.1, cell_on bw9 hHeld.2.2.2.2.2.2.2.2.2.2.2.2.1, cell_on bw9 hHeld.2.2.2.2.2.2.2.2.2.2.2.2.2.1, also hHeld.2.2.2.2.2.2.2.2.2.2.2.2.2.2 bw9⟩ | exact ⟨cell_on bw8 hHeld.1, cell_on bw8 hHeld.2.1, cell_on bw8 hHeld.2.2.1, cell_on bw8 hHeld.2.2.2.1, cell_on bw8 hHeld.2.2.2.2.1, cell_on bw8 hHeld.2.2.2.2.2.1, cell_on bw8 hHeld.2.2.2.2.2.2.1, cell_on bw8 hHeld.2.2.2.2.2.2.2.1, cell_on bw8 hHeld.2.2.2.2.2.2.2.2.1, cell_on bw8 hHeld.2.2.2.2.2.2.2.2.2.1, cell_on bw8 hHeld.2.2.2.2.2.2.2.2.2.2.1, cell_on bw8 hHeld.2.2.2.2.2.2.2.2.2.2.2.1, cell_on bw8 hHeld.2.2.2.2.2.2.2.2.2.2.2.2.1, cell_on bw8 hHeld.2.2.2.2.2.2.2.2.2.2.2.2.2.1, also hHeld.2.2.2.2.2.2.2.2.2.2.2.2.2.2 bw8⟩ | exact ⟨cell_on bw7 hHeld.1, cell_on bw7 hHeld.2.1, cell_on bw7 hHeld.2.2.1, cell_on bw7 hHeld.2.2.2.1, cell_on bw7 hHeld.2.2.2.2.1, cell_on bw7 hHeld.2.2.2.2.2.1, cell_on bw7 hHeld.2.2.2.2.2.2.1, cell_on bw7 hHeld.2.2.2.2.2.2.2.1, cell_on bw7 hHeld.2.2.2.2.2.2.2.2.1, cell_on bw7 hHeld.2.2.2.2.2.2.2.2.2.1, cell_on bw7 hHeld.2.2.2.2.2.2.2.2.2.2.1, cell_on bw7 hHeld.2.2.2.2.2.2.2.2.2.2.2.1, cell_on bw7 hHeld.2.2.2.2.2.2.2.2.2.2.2.2.1, cell_on bw7 hHeld.2.2.2.2.2.2.2.2.2.2.2.2.2.1, also hHeld.2.2.2.2.2.2.2.2.2.2.2.2.2.2 bw7⟩ | exact ⟨cell_on bw6 hHeld.1, cell_on bw6 hHeld.2.1, cell_on bw6 hHeld.2.2.1, cell_on bw6 hHeld.2.2.2.1, cell_on bw6 hHeld.2.2.2.2.1, cell_on bw6 hHeld.2.2.2.2.2.1, cell_on bw6 hHeld.2.2.2.2.2.2.1, cell_on bw6 hHeld.2.2.2.2.2.2.2.1, cell_on bw6 hHeld.2.2.2.2.2.2.2.2.1, cell_on bw6 hHeld.2.2.2.2.2.2.2.2.2.1, cell_on bw6 hHeld.2.2.2.2.2.2.2.2.2.2.1, cell_on bw6 hHeld.2.2.2.2.2.2.2.2.2.2.2.1, cell_on bw6 hHeld.2.2.2.2.2.2.2.2.2.2.2.2.1, cell_on bw6 hHeld.2.2.2.2.2.2.2.2.2.2.2.2.2.1, also hHeld.2.2.2.2.2.2.2.2.2.2.2.2.2.2 bw6⟩ | exact ⟨cell_on bw5 hHeld.1, cell_on bw5 hHeld.2.1, cell_on bw5 hHeld.2.2.1, cell_on bw5 hHeld.2.2.2.1, cell_on bw5 hHeld.2.2.2.2.1, cell_on bw5 hHeld.2.2.2.2.2.1, cell_on bw5 hHeld.2.2.2.2.2.2.1, cell_on bw5 hHeld.2.2.2.2.2.2.2.1, cell_on bw5 hHeld.2.2.2.2.2.2.2.2.1, cell_on bw5 hHeld.2.2.2.2.2.2.2.2.2.1, cell_on bw5 hHeld.2.2.2.2.2.2.2.2.2.2.1, cell_on bw5 hHeld.2.2.2.2.2.2.2.2.2.2.2.1, cell_on bw5 hHeld.2.2.2.2.2.2.2.2.2.2.2.2.1, cell_on bw5 hHeld.2.2.2.2.2.2.2.2.2.2.2.2.2.1, also hHeld.2.2.2.2.2.2.2.2.2.2.2.2.2.2 bw5⟩
  clear hK Kc
  have zbw12 := bw12.size
  replace BB := also BB bw12
  replace x_a := x_a.on bw12
  replace x_b := x_b.on bw12
  replace q1 := q1.below bw12
  replace q2 := q2.below bw12
  replace x3 := x3.below bw12
  replace x4 := x4.below bw12
  replace x_x := x_x.on bw12
  replace x_y := x_y.on bw12
  replace h5 := h5.below bw12
  replace x6 := x6.below bw12
  replace h8 := h8.below bw12
  replace x9 := x9.below bw12
  replace h11 := h11.below bw12
  refine take_call (i := 21) rfl (by kernel_rfl) (fun Kc hK => ?_)
  go_simp
  (go_at_call 9; refine (rqSame n11 a11 l11 c11 d11 m11 k11 _ _ s12 d12 l12 c12 t12 g12 h12 k12 (-(pN X A)) (pD A) 6 _ h11 x12 rfl rfl).mono ?_; rintro e w13 ⟨rfl, bw13⟩)
  refine hK.out _ _ ?_ (fun hHeld => ?_)
  · first | exact ⟨x_a.c0, x_a.c1, x_a.c2, x_b.c0, x_b.c1, x_b.c2, x_x.c0, x_x.c1, x_x.c2, x_x.c3, x_y.c0, x_y.c1, x_y.c2, x_y.c3, BB⟩ | exact ⟨cell_on bw16 hHeld.1, cell_on bw16 hHeld.2.1, cell_on bw16 hHeld.2.2.1, cell_on bw16 hHeld.2.2.2.1, cell_on bw16 hHeld.2.2.2.2.1, cell_on bw16 hHeld.2.2.2.2.2.1, cell_on bw16 hHeld.2.2.2.2.2.2.1, cell_on bw16 hHeld.2.2.2.2.2.2.2.1, cell_on bw16 hHeld.2.2.2.2.2.2.2.2.1, cell_on bw16 hHeld.2.2.2.2.2.2.2.2.2.1, cell_on bw16 hHeld.2.2.2.2.2.2.2.2.2.2.1, cell_on bw16 hHeld.2.2.2.2.2.2.2.2.2.2.2.1, cell_on bw16 hHeld.2.2.2.2.2.2.2.2.2.2.2.2.1, cell_on bw16 hHeld.2.2.2.2.2.2.2.2.2.2.2.2.2.1, also hHeld.2.2.2.2.2.2.2.2.2.2.2.2.2.2 bw16⟩ | exact ⟨cell_on bw15 hHeld.1, cell_on bw15 hHeld.2.1, cell_on bw15 hHeld.2.2.1, cell_on bw15 hHeld.2.2.2.1, cell_on bw15 hHeld.2.2.2.2.1, cell_on bw15 hHeld.2.2.2.2.2.1, cell_on bw15 hHeld.2.2.2.2.2.2.1, cell_on bw15 hHeld.2.2.2.2.2.2.2.1, cell_on bw15 hHeld.2.2.2.2.2.2.2.2.1, cell_on bw15 hHeld.2.2.2.2.2.2.2.2.2.1, cell_on bw15 hHeld.2.2.2.2.2.2.2.2.2.2.1, cell_on bw15 hHeld.2.2.2.2.2.2.2.2.2.2.2.1, cell_on bw15 hHeld.2.2.2.2.2.2.2.2.2.2.2.2.1, cell_on bw15 hHeld.2.2.2.2.2.2.2.2.2.2.2.2.2.1, also hHeld.2.2.2.2.2.2.2.2.2.2.2.2.2.2 bw15⟩ | exact ⟨cell_on bw14 hHeld.1, cell_on bw14 hHeld.2.1, cell_on bw14 hHeld.2.2.1, cell_on bw14 hHeld.2.2.2.1, cell_on bw14 hHeld.2.2.2.2.1, cell_on bw14 hHeld.2.2.2.2.2.1, cell_on bw14 hHeld.2.2.2.2.2.2.1, cell_on bw14 hHeld.2.2.2.2.2.2.2.1, cell_on bw14 hHeld.2.2.2.2.2.2.2.2.1, cell_on bw14 hHeld.2.2.2.2.2.2.2.2.2.1, cell_on bw14 hHeld.2.2.2.2.2.2.2.2.2.2.1, cell_on bw14 hHeld.2.2.2.2.2.2.2.2.2.2.2.1, cell_on bw14 hHeld.2.2.2.2.2.2.2.2.2.2.2.2.1, cell_on bw14 hHeld.2.2.2.2.2.2.2.2.2.2.2.2.2.1, also hHeld.2.2.2.2.2.2.2.2.2.2.2.2.2.2 bw14⟩ | exact ⟨cell_on bw13 hHeld.1, cell_on bw13 hHeld.2.1, cell_on bw13 hHeld.2.2.1, cell_on bw13 hHeld.2.2.2.1, cell_on bw13 hHeld.2.2.2.2.1, cell_on bw13 hHeld.2.2.2.2.2.1, cell_on bw13 hHeld.2.2.2.2.2.2.1, cell_on bw13 hHeld.2.2.2.2.2.2.2.1, cell_on bw13 hHeld.2.2.2.2.2.2.2.2.1, cell_on bw13 hHeld.2.2.2.2.2.2.2.2.2.1, cell_on bw13 hHeld.2.2.2.2.2.2.2.2.2.2.1, cell_on bw13 hHeld.2.2.2.2.2.2.2.2.2.2.2.1, cell_on bw13 hHeld.2.2.2.2.2.2.2.2.2.2.2.2.1, cell_on bw13 hHeld.2.2.2.2.2.2.2.2.2.2.2.2.2.1, also hHeld.2.2.2.2.2.2.2.2.2.2.2.2.2.2 bw13⟩ | exact ⟨cell_on bw12 hHeld.1, cell_on bw12 hHeld.2.1, cell_on bw12 hHeld.2.2.1, cell_on bw12 hHeld.2.2.2.1, cell_on bw12 hHeld.2.2.2.2.1, cell_on bw12 hHeld.2.2.2.2.2.1, cell_on bw12 hHeld.2.2.2.2.2.2.1, cell_on bw12 hHeld.2.2.2.2.2.2.2.1, cell_on bw12 hHeld.2.2.2.2.2.2.2.2.1, cell_on bw12 hHeld.2.2.2.2.2.2.2.2.2.1, cell_on bw12 hHeld.2.2.2.2.2.2.2.2.2.2.1, cell_on bw12 hHeld.2.2.2.2.2.2.2.2.2.2.2.1, cell_on bw12 hHeld.2.2.2.2.2.2.2.2.2.2.2.2.1, cell_on bw12 hHeld.2.2.2.2.2.2.2.2.2.2.2.2.2.1, also hHeld.2.2.2.2.2.2.2.2.2.2.2.2.2.2 bw12⟩ | exact ⟨cell_on bw11 hHeld.1, cell_on bw11 hHeld.2.1, cell_on bw11 hHeld.2.2.1, cell_on bw11 hHeld.2.2.2.1, cell_on bw11 hHeld.2.2.2.2.1, cell_on bw11 hHeld.2.2.2.2.2.1, cell_on bw11 hHeld.2.2.2.2.2.2.1, cell_on bw11 hHeld.2.2.2.2.2.2.2.1, cell_on bw11 hHeld.2.2.2.2.2.2.2.2.1, cell_on bw11 hHeld.2.2.2.2.2.2.2.2.2.1, cell_on bw11 hHeld.2.2.2.2.2.2.2.2.2.2.1, cell_on bw11 hHeld.2.2.2.2.2.2.2.2.2.2.2.1, cell_on bw11 hHeld.2.2.2.2.2.2.2.2.2.2.2.2.1, cell_on bw11 hHeld.2.2.2.2.2.2.2.2.2.2.2.2.2.1, also hHeld.2.2.2.2.2.2.2.2.2.2.2.2.2.2 bw11⟩ | exact ⟨cell_on bw10 hHeld.1, cell_on bw10 hHeld.2.1, cell_on bw10 hHeld.2.2.1, cell_on bw10 hHeld.2.2.2.1, cell_on bw10 hHeld.2.2.2.2.1, cell_on bw10 hHeld.2.2.2.2.2.1, cell_on bw10 hHeld.2.2.2.2.2.2.1, cell_on bw10 hHeld.2.2.2.2.2.2.2.1, cell_on bw10 hHeld.2.2.2.2.2.2.2.2.1, cell_on bw10 hHeld.2.2.2.2.2.2.2.2.2.1, cell_on bw10 hHeld.2.2.2.2.2.2.2.2.2.2.1, cell_on bw10 hHeld.2.2.2.2.2.2.2.2.2.2.2.1, cell_on bw10 hHeld.2.2.2.2.2.2.2.2.2.2.2.2.1, cell_on bw10 hHeld.2.2.2.2.2.2.2.2.2.2.2.2.2.1, also hHeld.2.2.2.2.2.2.2.2.2.2.2.2.2.2 bw10⟩ | exact ⟨cell_on bw9 hHeld.1, cell_on bw9 hHeld.2.1, cell_on bw9 hHeld.2.2.1, cell_on bw9 hHeld.2.2.2.1, cell_on bw9 hHeld.2.2.2.2.1, cell_on bw9 hHeld.2.2.2.2.2.1, cell_on bw9 hHeld.2.2.2.2.2.2.1, cell_on bw9 hHeld.2.2.2.2.2.2.2.1, cell_on bw9 hHeld.2.2.2.2.2.2.2.2.1, cell_on bw9 hHeld.2.2.2.2.2.2.2.2.2.1, cell_on bw9 hHeld.2.2.2.2.2.2.2.2.2.2.1, cell_on bw9 hHeld.2.2.2.2.2.2.2.2.2.2.2.1, cell_on bw9 hHeld.2.2.2.2.2.2.2.2.2.2.2.2.1, cell_on bw9 hHeld.2.2.2.2.2.2.2.2.2.2.2.2.2.1, also hHeld.2.2.2.2.2.2.2.2.2.2.2.2.2.2 bw9⟩ | exact ⟨cell_on bw8 hHeld.1, cell_on bw8 hHeld.2.1, cell_on bw8 hHeld.2.2.1, cell_on bw8 hHeld.2.2.2.1, cell_on bw8 hHeld.2.2.2.2.1, cell_on bw8 hHeld.2.2.2.2.2.1, cell_on bw8 hHeld.2.2.2.2.2.2.1, cell_on bw8 hHeld.2.2.2.2.2.2.2.1, cell_on bw8 hHeld.2.2.2.2.2.2.2.2.1, cell_on bw8 hHeld.2.2.2.2.2.2.2.2.2.1, cell_on bw8 hHeld.2.2.2.2.2.2.2.2.2.2.1, cell_on bw8 hHeld.2.2.2.2.2.2.2.2.2.2.2.1, cell_on bw8 hHeld.2.2.2.2.2.2.2.2.2.2.2.2.1, cell_on bw8 hHeld.2.2.2.2.2.2.2.2.2.2.2.2.2.1, also hHeld.2.2.2.2.2.2.2.2.2.2.2.2.2.2 bw8⟩ | exact ⟨cell_on bw7 hHeld.1, cell_on bw7 hHeld.2.1, cell_on bw7 hHeld.2.2.1, cell_on bw7 hHeld.2.2.2.1, cell_on bw7 hHeld.2.2.2.2.1, cell_on bw7 hHeld.2.2.2.2.2.1, cell_on bw7 hHeld.2.2.2.2.2.2.1, cell_on bw7 hHeld.2.2.2.2.2.2.2.1, cell_on bw7 hHeld.2.2.2.2.2.2.2.2.1, cell_on bw7 hHeld.2.2.2.2.2.2.2.2.2.1, cell_on bw7 hHeld.2.2.2.2.2.2.2.2.2.2.1, cell_on bw7 hHeld.2.2.2.2.2.2.2.2.2.2.2.1, cell_on bw7 hHeld.2.2.2.2.2.2.2.2.2.2.2.2.1, cell_on bw7 hHeld.2.2.2.2.2.2.2.2.2.2.2.2.2.1, also hHeld.2.2.2.2.2.2.2.2.2.2.2.2.2.2 bw7⟩ | exact ⟨cell_on bw6 hHeld.1, cell_on bw6 hHeld.2.1, cell_on bw6 hHeld.2.2.1, cell_on bw6 hHeld.2.2.2.1, cell_on bw6 hHeld.2.2.2.2.1, cell_on bw6 hHeld.2.2.2.2.2.1, cell_on bw6 hHeld.2.2.2.2.2.2.1, cell_on bw6 hHeld.2.2.2.2.2.2.2.1, cell_on bw6 hHeld.2.2.2.2.2.2.2.2.1, cell_on bw6 hHeld.2.2.2.2.2.2.2.2.2.1, cell_on bw6 hHeld.2.2.2.2.2.2.2.2.2.2.1, cell_on bw6 hHeld.2.2.2.2.2.2.2.2.2.2.2.1, cell_on bw6 hHeld.2.2.2.2.2.2.2.2.2.2.2.2.1, cell_on bw6 hHeld.2.2.2.2.2.2.2.2.2.2.2.2.2.1, also hHeld.2.2.2.2.2.2.2.2.2.2.2.2.2.2 bw6⟩ | exact ⟨cell_on bw5 hHeld.1, cell_on bw5 hHeld.2.1, cell_on bw5 hHeld.2.2.1, cell_on bw5 hHeld.2.2.2.1, cell_on bw5 hHeld.2.2.2.2.1, cell_on bw5 hHeld.2.2.2.2.2.1, cell_on bw5 hHeld.2.2.2.2.2.2.1, cell_on bw5 hHeld.2.2.2.2.2.2.2.1, cell_on bw5 hHeld.2.2.2.2.2.2.2.2.1, cell_on bw5 hHeld.2.2.2.2.2.2.2.2.2.1, cell_on bw5 hHeld.2.2.2.2.2.2.2.2.2.2.1, cell_on bw5 hHeld.2.2.2.2.2.2.2.2.2.2.2.1, cell_on bw5 hHeld.2.2.2.2.2.2.2.2.2.2.2.2.1, cell_on bw5 hHeld.2.2.2.2.2.2.2.2.2.2.2.2.2.1, also hHeld.2.2.2.2.2.2.2.2.2.2.2.2.2.2 bw5⟩
  clear hK Kc
  have zbw13 := bw13.size
  replace BB := also BB bw13
  replace x_a := x_a.on bw13
  replace x_b := x_b.on bw13
  replace q1 := q1.below bw13
  replace q2 := q2.below bw13
  replace x3 := x3.below bw13
  replace x4 := x4.below bw13
  replace x_x := x_x.on bw13
  replace x_y := x_y.on bw13
  replace h5 := h5.below bw13
  replace x6 := x6.below bw13
  replace h8 := h8.below bw13
  replace x9 := x9.below bw13
  replace h11 := h11.below bw13
  replace x12 := x12.below bw13
  refine take_yes (i := 22) (v := ?vw22) rfl (by kernel_rfl) (by kernel_rfl) (by kernel_rfl) (fun _ _ _ h => h) (by rfl) (by assumption) ?hyw22 ?restw22
  case hyw22 => (intro w hSw; (try dsimp only at hSw); first | (go_simp; done) | (go_simp; with_reducible rfl))
  simp only [Act.put, List.setIfInBounds_toArray, List.set_cons_zero, List.set_cons_succ]
  refine take_yes (i := 23) (v := ?vw23) rfl (by kernel_rfl) (by kernel_rfl) (by kernel_rfl) (fun _ _ _ h => h) (by rfl) (by assumption) ?hyw23 ?restw23
  case hyw23 => (intro w hSw; (try dsimp only at hSw); first | (go_simp; done) | (go_simp; with_reducible rfl))
  simp only [Act.put, List.setIfInBounds_toArray, List.set_cons_zero, List.set_cons_succ]
  refine take_yes (i := 24) (v := ?vw24) rfl (by kernel_rfl) (by kernel_rfl) (by kernel_rfl) (fun _ _ _ h => h) (by rfl) (by assumption) ?hyw24 ?restw24
  case hyw24 => (intro w hSw; (try dsimp only at hSw); first | (go_simp; done) | (go_simp; with_reducible rfl))
  simp only [Act.put, List.setIfInBounds_toArray, List.set_cons_zero, List.set_cons_succ]
  refine take_yes (i := 26) (v := ?vw26) rfl (by kernel_rfl) (by kernel_rfl) (by kernel_rfl) (fun _ _ _ h => h) (by rfl) (by assumption) ?hyw26 ?restw26
  case hyw26 => (intro w hSw; (try dsimp only at hSw); first | (go_simp; done) | (go_simp; with_reducible rfl))
  simp only [Act.put, List.setIfInBounds_toArray, List.set_cons_zero, List.set_cons_succ]
  refine take_call (i := 25) rfl (by kernel_rfl) (fun Kc hK => ?_)
  go_simp
  (go_at_call 16; refine (qNorm n a1 m1 c1 d1 k1 g1 X A 6 _ q1 _ _ rfl rfl).mono ?_; rintro e w14 ⟨n14, a14, l14, c14, d14, m14, k14, rfl, h14, f14, e14, bw14⟩)
  refine hK.out _ _ ?_ (fun hHeld => ?_)
  · first | exact ⟨x_a.c0, x_a.c1, x_a.c2, x_b.c0, x_b.c1, x_b.c2, x_x.c0, x_x.c1, x_x.c2, x_x.c3, x_y.c0, x_y.c1, x_y.c2, x_y.c3, BB⟩ | exact ⟨cell_on bw16 hHeld.1, cell_on bw16 hHeld.2.1, cell_on bw16 hHeld.2.2.1, cell_on bw16 hHeld.2.2.2.1, cell_on bw16 hHeld.2.2.2.2.1, cell_on bw16 hHeld.2.2.2.2.2.1, cell_on bw16 hHeld.2.2.2.2.2.2.1, cell_on bw16 hHeld.2.2.2.2.2.2.2.1, cell_on bw16 hHeld.2.2.2.2.2.2.2.2.1, cell_on bw16 hHeld.2.2.2.2.2.2.2.2.2.1, cell_on bw16 hHeld.2.2.2.2.2.2.2.2.2.2.1, cell_on bw16 hHeld.2.2.2.2.2.2.2.2.2.2.2.1, cell_on bw16 hHeld.2.2.2.2.2.2.2.2.2.2.2.2.1, cell_on bw16 hHeld.2.2.2.2.2.2.2.2.2.2.2.2.2.1, also hHeld.2.2.2.2.2.2.2.2.2.2.2.2.2.2 bw16⟩ | exact ⟨cell_on bw15 hHeld.1, cell_on bw15 hHeld.2.1, cell_on bw15 hHeld.2.2.1, cell_on bw15 hHeld.2.2.2.1, cell_on bw15 hHeld.2.2.2.2.1, cell_on bw15 hHeld.2.2.2.2.2.1, cell_on bw15 hHeld.2.2.2.2.2.2.1, cell_on bw15 hHeld.2.2.2.2.2.2.2.1, cell_on bw15 hHeld.2.2.2.2.2.2.2.2.1, cell_on bw15 hHeld.2.2.2.2.2.2.2.2.2.1, cell_on bw15 hHeld.2.2.2.2.2.2.2.2.2.2.1, cell_on bw15 hHeld.2.2.2.2.2.2.2.2.2.2.2.1, cell_on bw15 hHeld.2.2.2.2.2.2.2.2.2.2.2.2.1, cell_on bw15 hHeld.2.2.2.2.2.2.2.2.2.2.2.2.2.1, also hHeld.2.2.2.2.2.2.2.2.2.2.2.2.2.2 bw15⟩ | exact ⟨cell_on bw14 hHeld.1, cell_on bw14 hHeld.2.1, cell_on bw14 hHeld.2.2.1, cell_on bw14 hHeld.2.2.2.1, cell_on bw14 hHeld.2.2.2.2.1, cell_on bw14 hHeld.2.2.2.2.2.1, cell_on bw14 hHeld.2.2.2.2.2.2.1, cell_on bw14 hHeld.2.2.2.2.2.2.2.1, cell_on bw14 hHeld.2.2.2.2.2.2.2.2.1, cell_on bw14 hHeld.2.2.2.2.2.2.2.2.2.1, cell_on bw14 hHeld.2.2.2.2.2.2.2.2.2.2.1, cell_on bw14 hHeld.2.2.2.2.2.2.2.2.2.2.2.1, cell_on bw14 hHeld.2.2.2.2.2.2.2.2.2.2.2.2.1, cell_on bw14 hHeld.2.2.2.2.2.2.2.2.2.2.2.2.2.1, also hHeld.2.2.2.2.2.2.2.2.2.2.2.2.2.2 bw14⟩ | exact ⟨cell_on bw13 hHeld.1, cell_on bw13 hHeld.2.1, cell_on bw13 hHeld.2.2.1, cell_on bw13 hHeld.2.2.2.1, cell_on bw13 hHeld.2.2.2.2.1, cell_on bw13 hHeld.2.2.2.2.2.1, cell_on bw13 hHeld.2.2.2.2.2.2.1, cell_on bw13 hHeld.2.2.2.2.2.2.2.1, cell_on bw13 hHeld.2.2.2.2.2.2.2.2.1, cell_on bw13 hHeld.2.2.2.2.2.2.2.2.2.1, cell_on bw13 hHeld.2.2.2.2.2.2.2.2.2.2.1, cell_on bw13 hHeld.2.2.2.2.2.2.2.2.2.2.2.1, cell_on bw13 hHeld.2.2.2.2.2.2.2.2.2.2.2.2.1, cell_on bw13 hHeld.2.2.2.2.2.2.2.2.2.2.2.2.2.1, also hHeld.2.2.2.2.2.2.2.2.2.2.2.2.2.2 bw13⟩ | exact ⟨cell_on bw12 hHeld.1, cell_on bw12 hHeld.2.1, cell_on bw12 hHeld.2.2.1, cell_on bw12 hHeld.2.2.2.1, cell_on bw12 hHeld.2.2.2.2.1, cell_on bw12 hHeld.2.2.2.2.2.1, cell_on bw12 hHeld.2.2.2.2.2.2.1, cell_on bw12 hHeld.2.2.2.2.2.2.2.1, cell_on bw12 hHeld.2.2.2.2.2.2.2.2.1, cell_on bw12 hHeld.2.2.2.2.2.2.2.2.2.1, cell_on bw12 hHeld.2.2.2.2.2.2.2.2.2.2.1, cell_on bw12 hHeld.2.2.2.2.2.2.2.2.2.2.2.1, cell_on bw12 hHeld.2.2.2.2.2.2.2.2.2.2.2.2.1, cell_on bw12 hHeld.2.2.2.2.2.2.2.2.2.2.2.2.2.1, also hHeld.2.2.2.2.2.2.2.2.2.2.2.2.2.2 bw12⟩ | exact ⟨cell_on bw11 hHeld.1, cell_on bw11 hHeld.2.1, cell_on bw11 hHeld.2.2.1, cell_on bw11 hHeld.2.2.2.1, cell_on bw11 hHeld.2.2.2.2.1, cell_on bw11 hHeld.2.2.2.2.2.1, cell_on bw11 hHeld.2.2.2.2.2.2.1, cell_on bw11 hHeld.2.2.2.2.2.2.2.1, cell_on bw11 hHeld.2.2.2.2.2.2.2.2.1, cell_on bw11 hHeld.2.2.2.2.2.2.2.2.2.1, cell_on bw11 hHeld.2.2.2.2.2.2.2.2.2.2.1, cell_on bw11 hHeld.2.2.2.2.2.2.2.2.2.2.2.1, cell_on bw11 hHeld.2.2.2.2.2.2.2.2.2.2.2.2.1, cell_on bw11 hHeld.2.2.2.2.2.2.2.2.2.2.2.2.2.1, also hHeld.2.2.2.2.2.2.2.2.2.2.2.2.2.2 bw11⟩ | exact ⟨cell_on bw10 hHeld.1, cell_on bw10 hHeld.2.1, cell_on bw10 hHeld.2.2.1, cell_on bw10 hHeld.2.2.2.1, cell_on bw10 hHeld.2.2.2.2.1, cell_on bw10 hHeld.2.2.2.2.2.1, cell_on bw10 hHeld.2.2.2.2.2.2.1, cell_on bw10 hHeld.2.2.2.2.2.2.2.1, cell_on bw10 hHeld.2.2.2.2.2.2.2.2.1, cell_on bw10 hHeld.2.2.2.2.2.2.2.2.2.1, cell_on bw10 hHeld.2.2.2.2.2.2.2.2.2.2.1, cell_on bw10 hHeld.2.2.2.2.2.2.2.2.2.2.2.1, cell_on bw10 hHeld.2.2.2.2.2.2.2.2.2.2.2.2.1, cell_on bw10 hHeld.2.2.2.2.2.2.2.2.2.2.2.2.2.1, also hHeld.2.2.2.2.2.2.2.2.2.2.2.2.2.2 bw10⟩ | exact ⟨cell_on bw9 hHeld.1, cell_on bw9 hHeld.2.1, cell_on bw9 hHeld.2.2.1, cell_on bw9 hHeld.2.2.2.1, cell_on bw9 hHeld.2.2.2.2.1, cell_on bw9 hHeld.2.2.2.2.2.1, cell_on bw9 hHeld.2.2.2.2.2.2.1, cell_on bw9 hHeld.2.2.2.2.2.2.2.1, cell_on bw9 hHeld.2.2.2.2.2.2.2.2.1, cell_on bw9 hHeld.2.2.2.2.2.2.2.2.2.1, cell_on bw9 hHeld.2.2.2.2.2.2.2.2.2.2.1, cell_on bw9 hHeld.2.2.2.2.2.2.2.2.2.2.2.1, cell_on bw9 hHeld.2.2.2.2.2.2.2.2.2.2.2.2.1, cell_on bw9 hHeld.2.2.2.2.2.2.2.2.2.2.2.2.2.1, also hHeld.2.2.2.2.2.2.2.2.2.2.2.2.2.2 bw9⟩ | exact ⟨cell_on bw8 hHeld.1, cell_on bw8 hHeld.2.1, cell_on bw8 hHeld.2.2.1, cell_on bw8 hHeld.2.2.2.1, cell_on bw8 hHeld.2.2.2.2.1, cell_on bw8 hHeld.2.2.2.2.2.1, cell_on bw8 hHeld.2.2.2.2.2.2.1, cell_on bw8 hHeld.2.2.2.2.2.2.2.1, cell_on bw8 hHeld.2.2.2.2.2.2.2.2.1, cell_on bw8 hHeld.2.2.2.2.2.2.2.2.2.1, cell_on bw8 hHeld.2.2.2.2.2.2.2.2.2.2.1, cell_on bw8 hHeld.2.2.2.2.2.2.2.2.2.2.2.1, cell_on bw8 hHeld.2.2.2.2.2.2.2.2.2.2.2.2.1, cell_on bw8 hHeld.2.2.2.2.2.2.2.2.2.2.2.2.2.1, also hHeld.2.2.2.2.2.2.2.2.2.2.2.2.2.2 bw8⟩ | exact ⟨cell_on bw7 hHeld.1, cell_on bw7 hHeld.2.1, cell_on bw7 hHeld.2.2.1, cell_on bw7 hHeld.2.2.2.1, cell_on bw7 hHeld.2.2.2.2.1, cell_on bw7 hHeld.2.2.2.2.2.1, cell_on bw7 hHeld.2.2.2.2.2.2.1, cell_on bw7 hHeld.2.2.2.2.2.2.2.1, cell_on bw7 hHeld.2.2.2.2.2.2.2.2.1, cell_on bw7 hHeld.2.2.2.2.2.2.2.2.2.1, cell_on bw7 hHeld.2.2.2.2.2.2.2.2.2.2.1, cell_on bw7 hHeld.2.2.2.2.2.2.2.2.2.2.2.1, cell_on bw7 hHeld.2.2.2.2.2.2.2.2.2.2.2.2.1, cell_on bw7 hHeld.2.2.2.2.2.2.2.2.2.2.2.2.2.1, also hHeld.2.2.2.2.2.2.2.2.2.2.2.2.2.2 bw7⟩ | exact ⟨cell_on bw6 hHeld.1, cell_on bw6 hHeld.2.1, cell_on bw6 hHeld.2.2.1, cell_on bw6 hHeld.2.2.2.1, cell_on bw6 hHeld.2.2.2.2.1, cell_on bw6 hHeld.2.2.2.2.2.1, cell_on bw6 hHeld.2.2.2.2.2.2.1, cell_on bw6 hHeld.2.2.2.2.2.2.2.1, cell_on bw6 hHeld.2.2.2.2.2.2.2.2.1, cell_on bw6 hHeld.2.2.2.2.2.2.2.2.2.1, cell_on bw6 hHeld.2.2.2.2.2.2.2.2.2.2.1, cell_on bw6 hHeld.2.2.2.2.2.2.2.2.2.2.2.1, cell_on bw6 hHeld.2.2.2.2.2.2.2.2.2.2.2.2.1, cell_on bw6 hHeld.2.2.2.2.2.2.2.2.2.2.2.2.2.1, also hHeld.2.2.2.2.2.2.2.2.2.2.2.2.2.2 bw6⟩ | exact ⟨cell_on bw5 hHeld.1, cell_on bw5 hHeld.2.1, cell_on bw5 hHeld.2.2.1, cell_on bw5 hHeld.2.2.2.1, cell_on bw5 hHeld.2.2.2.2.1, cell_on bw5 hHeld.2.2.2.2.2.1, cell_on bw5 hHeld.2.2.2.2.2.2.1, cell_on bw5 hHeld.2.2.2.2.2.2.2.1, cell_on bw5 hHeld.2.2.2.2.2.2.2.2.1, cell_on bw5 hHeld.2.2.2.2.2.2.2.2.2.1, cell_on bw5 hHeld.2.2.2.2.2.2.2.2.2.2.1, cell_on bw5 hHeld.2.2.2.2.2.2.2.2.2.2.2.1, cell_on bw5 hHeld.2.2.2.2.2.2.2.2.2.2.2.2.1, cell_on bw5 hHeld.2.2.2.2.2.2.2.2.2.2.2.2.2.1, also hHeld.2.2.2.2.2.2.2.2.2.2.2.2.2.2 bw5⟩
  clear hK Kc
  have zbw14 := bw14.size
  replace BB := also BB bw14
  replace x_a := x_a.on bw14
  replace x_b := x_b.on bw14
  replace q1 := q1.below bw14
  replace q2 := q2.below bw14
  replace x3 := x3.below bw14
  replace x4 := x4.below bw14
  replace x_x := x_x.on bw14
  replace x_y := x_y.on bw14
  replace h5 := h5.below bw14
  replace x6 := x6.below bw14
  replace h8 := h8.below bw14
  replace x9 := x9.below bw14
  replace h11 := h11.below bw14
  replace x12 := x12.below bw14
  refine take_call (i := 27) rfl (by kernel_rfl) (fun Kc hK => ?_)
  go_simp
  (go_at_call 9; refine (rqSame n14 a14 l14 c14 d14 m14 k14 _ _ s3 d3 l3 c3 t3 g3 h3 k3 (pN X A) (pD A) 6 _ h14 x3 rfl rfl).mono ?_; rintro e w15 ⟨rfl, bw15⟩)
  refine hK.out _ _ ?_ (fun hHeld => ?_)
  · first | exact ⟨x_a.c0, x_a.c1, x_a.c2, x_b.c0, x_b.c1, x_b.c2, x_x.c0, x_x.c1, x_x.c2, x_x.c3, x_y.c0, x_y.c1, x_y.c2, x_y.c3, BB⟩ | exact ⟨cell_on bw16 hHeld.1, cell_on bw16 hHeld.2.1, cell_on bw16 hHeld.2.2.1, cell_on bw16 hHeld.2.2.2.1, cell_on bw16 hHeld.2.2.2.2.1, cell_on bw16 hHeld.2.2.2.2.2.1, cell_on bw16 hHeld.2.2.2.2.2.2.1, cell_on bw16 hHeld.2.2.2.2.2.2.2.1, cell_on bw16 hHeld.2.2.2.2.2.2.2.2.1, cell_on bw16 hHeld.2.2.2.2.2.2.2.2.2.1, cell_on bw16 hHeld.2.2.2.2.2.2.2.2.2.2.1, cell_on bw16 hHeld.2.2.2.2.2.2.2.2.2.2.2.1, cell_on bw16 hHeld.2.2.2.2.2.2.2.2.2.2.2.2.1, cell_on bw16 hHeld.2.2.2.2.2.2.2.2.2.2.2.2.2.1, also hHeld.2.2.2.2.2.2.2.2.2.2.2.2.2.2 bw16⟩ | exact ⟨cell_on bw15 hHeld.1, cell_on bw15 hHeld.2.1, cell_on bw15 hHeld.2.2.1, cell_on bw15 hHeld.2.2.2.1, cell_on bw15 hHeld.2.2.2.2.1, cell_on bw15 hHeld.2.2.2.2.2.1, cell_on bw15 hHeld.2.2.2.2.2.2.1, cell_on bw15 hHeld.2.2.2.2.2.2.2.1, cell_on bw15 hHeld.2.2.2.2.2.2.2.2.1, cell_on bw15 hHeld.2.2.2.2.2.2.2.2.2.1, cell_on bw15 hHeld.2.2.2.2.2.2.2.2.2.2.1, cell_on bw15 hHeld.2.2.2.2.2.2.2.2.2.2.2.1, cell_on bw15 hHeld.2.2.2.2.2.2.2.2.2.2.2.2.1, cell_on bw15 hHeld.2.2.2.2.2.2.2.2.2.2.2.2.2.1, also hHeld.2.2.2.2.2.2.2.2.2.2.2.2.2.2 bw15⟩ | exact ⟨cell_on bw14 hHeld.1, cell_on bw14 hHeld.2.1, cell_on bw14 hHeld.2.2.1, cell_on bw14 hHeld.2.2.2.1, cell_on bw14 hHeld.2.2.2.2.1, cell_on bw14 hHeld.2.2.2.2.2.1, cell_on bw14 hHeld.2.2.2.2.2.2.1, cell_on bw14 hHeld.2.2.2.2.2.2.2.1, cell_on bw14 hHeld.2.2.2.2.2.2.2.2.1, cell_on bw14 hHeld.2.2.2.2.2.2.2.2.2.1, cell_on bw14 hHeld.2.2.2.2.2.2.2.2.2.2.1, cell_on bw14 hHeld.2.2.2.2.2.2.2.2.2.2.2.1, cell_on bw14 hHeld.2.2.2.2.2.2.2.2.2.2.2.2.1, cell_on bw14 hHeld.2.2.2.2.2.2.2.2.2.2.2.2.2.1, also hHeld.2.2.2.2.2.2.2.2.2.2.2.2.2.2 bw14⟩ | exact ⟨cell_on bw13 hHeld.1, cell_on bw13 hHeld.2.1, cell_on bw13 hHeld.2.2.1, cell_on bw13 hHeld.2.2.2.1, cell_on bw13 hHeld.2.2.2.2.1, cell_on bw13 hHeld.2.2.2.2.2.1, cell_on bw13 hHeld.2.2.2.2.2.2.1, cell_on bw13 hHeld.2.2.2.2.2.2.2.1, cell_on bw13 hHeld.2.2.2.2.2.2.2.2.1, cell_on bw13 hHeld.2.2.2.2.2.2.2.2.2.1, cell_on bw13 hHeld.2.2.2.2.2.2.2.2.2.2.1, cell_on bw13 hHeld.2.2.2.2.2.2.2.2.2.2.2.1, cell_on bw13 hHeld.2.2.2.2.2.2.2.2.2.2.2.2.1, cell_on bw13 hHeld.2.2.2.2.2.2.2.2.2.2.2.2.2.1, also hHeld.2.2.2.2.2.2.2.2.2.2.2.2.2.2 bw13⟩ | exact ⟨cell_on bw12 hHeld.1, cell_on bw12 hHeld.2.1, cell_on bw12 hHeld.2.2.1, cell_on bw12 hHeld.2.2.2.1, cell_on bw12 hHeld.2.2.2.2.1, cell_on bw12 hHeld.2.2.2.2.2.1, cell_on bw12 hHeld.2.2.2.2.2.2.1, cell_on bw12 hHeld.2.2.2.2.2.2.2.1, cell_on bw12 hHeld.2.2.2.2.2.2.2.2.1, cell_on bw12 hHeld.2.2.2.2.2.2.2.2.2.1, cell_on bw12 hHeld.2.2.2.2.2.2.2.2.2.2.1, cell_on bw12 hHeld.2.2.2.2.2.2.2.2.2.2.2.1, cell_on bw12 hHeld.2.2.2.2.2.2.2.2.2.2.2.2.1, cell_on bw12 hHeld.2.2.2.2.2.2.2.2.2.2.2.2.2.1, also hHeld.2.2.2.2.2.2.2.2.2.2.2.2.2.2 bw12⟩ | exact ⟨cell_on bw11 hHeld.1, cell_on bw11 hHeld.2.1, cell_on bw11 hHeld.2.2.1, cell_on bw11 hHeld.2.2.2.1, cell_on bw11 hHeld.2.2.2.2.1, cell_on bw11 hHeld.2.2.2.2.2.1, cell_on bw11 hHeld.2.2.2.2.2.2.1, cell_on bw11 hHeld.2.2.2.2.2.2.2.1, cell_on bw11 hHeld.2.2.2.2.2.2.2.2.1, cell_on bw11 hHeld.2.2.2.2.2.2.2.2.2.1, cell_on bw11 hHeld.2.2.2.2.2.2.2.2.2.2.1, cell_on bw11 hHeld.2.2.2.2.2.2.2.2.2.2.2.1, cell_on bw11 hHeld.2.2.2.2.2.2.2.2.2.2.2.2.1, cell_on bw11 hHeld.2.2.2.2.2.2.2.2.2.2.2.2.2.1, also hHeld.2.2.2.2.2.2.2.2.2.2.2.2.2.2 bw11⟩ | exact ⟨cell_on bw10 hHeld.1, cell_on bw10 hHeld.2.1, cell_on bw10 hHeld.2.2.1, cell_on bw10 hHeld.2.2.2.1, cell_on bw10 hHeld.2.2.2.2.1, cell_on bw10 hHeld.2.2.2.2.2.1, cell_on bw10 hHeld.2.2.2.2.2.2.1, cell_on bw10 hHeld.2.2.2.2.2.2.2.1, cell_on bw10 hHeld.2.2.2.2.2.2.2.2.1, cell_on bw10 hHeld.2.2.2.2.2.2.2.2.2.1, cell_on bw10 hHeld.2.2.2.2.2.2.2.2.2.2.1, cell_on bw10 hHeld.2.2.2.2.2.2.2.2.2.2.2.1, cell_on bw10 hHeld.2.2.2.2.2.2.2.2.2.2.2.2.1, cell_on bw10 hHeld.2.2.2.2.2.2.2.2.2.2.2.2.2.1, also hHeld.2.2.2.2.2.2.2.2.2.2.2.2.2.2 bw10⟩ | exact ⟨cell_on bw9 hHeld.1, cell_on bw9 hHeld.2.1, cell_on bw9 hHeld.2.2.1, cell_on bw9 hHeld.2.2.2.1, cell_on bw9 hHeld.2.2.2.2.1, cell_on bw9 hHeld.2.2.2.2.2.1, cell_on bw9 hHeld.2.2.2.2.2.2.1, cell_on bw9 hHeld.2.2.2.2.2.2.2.1, cell_on bw9 hHeld.2.2.2.2.2.2.2.2.1, cell_on bw9 hHeld.2.2.2.2.2.2.2.2.2.1, cell_on bw9 hHeld.2.2.2.2.2.2.2.2.2.2.1, cell_on bw9 hHeld.2.2.2.2.2.2.2.2.2.2.2.1, cell_on bw9 hHeld.2.2.2.2.2.2.2.2.2.2.2.2.1, cell_on bw9 hHeld.2.2.2.2.2.2.2.2.2.2.2.2.2.1, also hHeld.2.2.2.2.2.2.2.2.2.2.2.2.2.2 bw9⟩ | exact ⟨cell_on bw8 hHeld.1, cell_on bw8 hHeld.2.1, cell_on bw8 hHeld.2.2.1, cell_on bw8 hHeld.2.2.2.1, cell_on bw8 hHeld.2.2.2.2.1, cell_on bw8 hHeld.2.2.2.2.2.1, cell_on bw8 hHeld.2.2.2.2.2.2.1, cell_on bw8 hHeld.2.2.2.2.2.2.2.1, cell_on bw8 hHeld.2.2.2.2.2.2.2.2.1, cell_on bw8 hHeld.2.2.2.2.2.2.2.2.2.1, cell_on bw8 hHeld.2.2.2.2.2.2.2.2.2.2.1, cell_on bw8 hHeld.2.2.2.2.2.2.2.2.2.2.2.1, cell_on bw8 hHeld.2.2.2.2.2.2.2.2.2.2.2.2.1, cell_on bw8 hHeld.2.2.2.2.2.2.2.2.2.2.2.2.2.1, also hHeld.2.2.2.2.2.2.2.2.2.2.2.2.2.2 bw8⟩ | exact ⟨cell_on bw7 hHeld.1, cell_on bw7 hHeld.2.1, cell_on bw7 hHeld.2.2.1, cell_on bw7 hHeld.2.2.2.1, cell_on bw7 hHeld.2.2.2.2.1, cell_on bw7 hHeld.2.2.2.2.2.1, cell_on bw7 hHeld.2.2.2.2.2.2.1, cell_on bw7 hHeld.2.2.2.2.2.2.2.1, cell_on bw7 hHeld.2.2.2.2.2.2.2.2.1, cell_on bw7 hHeld.2.2.2.2.2.2.2.2.2.1, cell_on bw7 hHeld.2.2.2.2.2.2.2.2.2.2.1, cell_on bw7 hHeld.2.2.2.2.2.2.2.2.2.2.2.1, cell_on bw7 hHeld.2.2.2.2.2.2.2.2.2.2.2.2.1, cell_on bw7 hHeld.2.2.2.2.2.2.2.2.2.2.2.2.2.1, also hHeld.2.2.2.2.2.2.2.2.2.2.2.2.2.2 bw7⟩ | exact ⟨cell_on bw6 hHeld.1, cell_on bw6 hHeld.2.1, cell_on bw6 hHeld.2.2.1, cell_on bw6 hHeld.2.2.2.1, cell_on bw6 hHeld.2.2.2.2.1, cell_on bw6 hHeld.2.2.2.2.2.1, cell_on bw6 hHeld.2.2.2.2.2.2.1, cell_on bw6 hHeld.2.2.2.2.2.2.2.1, cell_on bw6 hHeld.2.2.2.2.2.2.2.2.1, cell_on bw6 hHeld.2.2.2.2.2.2.2.2.2.1, cell_on bw6 hHeld.2.2.2.2.2.2.2.2.2.2.1, cell_on bw6 hHeld.2.2.2.2.2.2.2.2.2.2.2.1, cell_on bw6 hHeld.2.2.2.2.2.2.2.2.2.2.2.2.1, cell_on bw6 hHeld.2.2.2.2.2.2.2.2.2.2.2.2.2.1, also hHeld.2.2.2.2.2.2.2.2.2.2.2.2.2.2 bw6⟩ | exact ⟨cell_on bw5 hHeld.1, cell_on bw5 hHeld.2.1, cell_on bw5 hHeld.2.2.1, cell_on bw5 hHeld.2.2.2.1, cell_on bw5 hHeld.2.2.2.2.1, cell_on bw5 hHeld.2.2.2.2.2.1, cell_on bw5 hHeld.2.2.2.2.2.2.1, cell_on bw5 hHeld.2.2.2.2.2.2.2.1, cell_on bw5 hHeld.2.2.2.2.2.2.2.2.1, cell_on bw5 hHeld.2.2.2.2.2.2.2.2.2.1, cell_on bw5 hHeld.2.2.2.2.2.2.2.2.2.2.1, cell_on bw5 hHeld.2.2.2.2.2.2.2.2.2.2.2.1, cell_on bw5 hHeld.2.2.2.2.2.2.2.2.2.2.2.2.1, cell_on bw5 hHeld.2.2.2.2.2.2.2.2.2.2.2.2.2.1, also hHeld.2.2.2.2.2.2.2.2.2.2.2.2.2.2 bw5⟩
  clear hK Kc
  have zbw15 := bw15.size
  replace BB := also BB bw15
  replace x_a := x_a.on bw15
  replace x_b := x_b.on bw15
  replace q1 := q1.below bw15
  replace q2 := q2.below bw15
  replace x3 := x3.below bw15
  replace x4 := x4.below bw15
  replace x_x := x_x.on bw15
  replace x_y := x_y.on bw15
  replace h5 := h5.below bw15
  replace x6 := x6.below bw15
  replace h8 := h8.below bw15
  replace x9 := x9.below bw15
  replace h11 := h11.below bw15
  replace x12 := x12.below bw15
  replace h14 := h14.below bw15
  refine take_yes (i := 28) (v := ?vw28) rfl (by kernel_rfl) (by kernel_rfl) (by kernel_rfl) (fun _ _ _ h => h) (by rfl) (by assumption) ?hyw28 ?restw28
  case hyw28 => (intro w hSw; (try dsimp only at hSw); first | (go_simp; done) | (go_simp; with_reducible rfl))
  simp only [Act.put, List.setIfInBounds_toArray, List.set_cons_zero, List.set_cons_succ]
  refine take_yes (i := 29) (v := ?vw29) rfl (by kernel_rfl) (by kernel_rfl) (by kernel_rfl) (fun _ _ _ h => h) (by rfl) (by assumption) ?hyw29 ?restw29
  case hyw29 => (intro w hSw; (try dsimp only at hSw); first | (go_simp; done) | (go_simp; with_reducible rfl))
  simp only [Act.put, List.setIfInBounds_toArray, List.set_cons_zero, List.set_cons_succ]
  refine take_call (i := 30) rfl (by kernel_rfl) (fun Kc hK => ?_)
  go_simp
  (go_at_call 17; refine (lives5_any _).mono ?_; rintro e w16 ⟨rfl, bw16⟩)
  refine hK.out _ _ ?_ (fun hHeld => ?_)
  · first | exact ⟨x_a.c0, x_a.c1, x_a.c2, x_b.c0, x_b.c1, x_b.c2, x_x.c0, x_x.c1, x_x.c2, x_x.c3, x_y.c0, x_y.c1, x_y.c2, x_y.c3, BB⟩ | exact ⟨cell_on bw16 hHeld.1, cell_on bw16 hHeld.2.1, cell_on bw16 hHeld.2.2.1, cell_on bw16 hHeld.2.2.2.1, cell_on bw16 hHeld.2.2.2.2.1, cell_on bw16 hHeld.2.2.2.2.2.1, cell_on bw16 hHeld.2.2.2.2.2.2.1, cell_on bw16 hHeld.2.2.2.2.2.2.2.1, cell_on bw16 hHeld.2.2.2.2.2.2.2.2.1, cell_on bw16 hHeld.2.2.2.2.2.2.2.2.2.1, cell_on bw16 hHeld.2.2.2.2.2.2.2.2.2.2.1, cell_on bw16 hHeld.2.2.2.2.2.2.2.2.2.2.2.1, cell_on bw16 hHeld.2.2.2.2.2.2.2.2.2.2.2.2.1, cell_on bw16 hHeld.2.2.2.2.2.2.2.2.2.2.2.2.2.1, also hHeld.2.2.2.2.2.2.2.2.2.2.2.2.2.2 bw16⟩ | exact ⟨cell_on bw15 hHeld.1, cell_on bw15 hHeld.2.1, cell_on bw15 hHeld.2.2.1, cell_on bw15 hHeld.2.2.2.1, cell_on bw15 hHeld.2.2.2.2.1, cell_on bw15 hHeld.2.2.2.2.2.1, cell_on bw15 hHeld.2.2.2.2.2.2.1, cell_on bw15 hHeld.2.2.2.2.2.2.2.1, cell_on bw15 hHeld.2.2.2.2.2.2.2.2.1, cell_on bw15 hHeld.2.2.2.2.2.2.2.2.2.1, cell_on bw15 hHeld.2.2.2.2.2.2.2.2.2.2.1, cell_on bw15 hHeld.2.2.2.2.2.2.2.2.2.2.2.1, cell_on bw15 hHeld.2.2.2.2.2.2.2.2.2.2.2.2.1, cell_on bw15 hHeld.2.2.2.2.2.2.2.2.2.2.2.2.2.1, also hHeld.2.2.2.2.2.2.2.2.2.2.2.2.2.2 bw15⟩ | exact ⟨cell_on bw14 hHeld.1, cell_on bw14 hHeld.2.1, cell_on bw14 hHeld.2.2.1, cell_on bw14 hHeld.2.2.2.1, cell_on bw14 hHeld.2.2.2.2.1, cell_on bw14 hHeld.2.2.2.2.2.1, cell_on bw14 hHeld.2.2.2.2.2.2.1, cell_on bw14 hHeld.2.2.2.2.2.2.2.1, cell_on bw14 hHeld.2.2.2.2.2.2.2.2.1, cell_on bw14 hHeld.2.2.2.2.2.2.2.2.2.1, cell_on bw14 hHeld.2.2.2.2.2.2.2.2.2.2.1, cell_on bw14 hHeld.2.2.2.2.2.2.2.2.2.2.2.1, cell_on bw14 hHeld.2.2.2.2.2.2.2.2.2.2.2.2.1, cell_on bw14 hHeld.2.2.2.2.2.2.2.2.2.2.2.2.2.1, also hHeld.2.2.2.2.2.2.2.2.2.2.2.2.2.2 bw14⟩ | exact ⟨cell_on bw13 hHeld.1, cell_on bw13 hHeld.2.1, cell_on bw13 hHeld.2.2.1, cell_on bw13 hHeld.2.2.2.1, cell_on bw13 hHeld.2.2.2.2.1, cell_on bw13 hHeld.2.2.2.2.2.1, cell_on bw13 hHeld.2.2.2.2.2.2.1, cell_on bw13 hHeld.2.2.2.2.2.2.2.1, cell_on bw13 hHeld.2.2.2.2.2.2.2.2.1, cell_on bw13 hHeld.2.2.2.2.2.2.2.2.2.1, cell_on bw13 hHeld.2.2.2.2.2.2.2.2.2.2.1, cell_on bw13 hHeld.2.2.2.2.2.2.2.2.2.2.2.1, cell_on bw13 hHeld.2.2.2.2.2.2.2.2.2.2.2.2.1, cell_on bw13 hHeld.2.2.2.2.2.2.2.2.2.2.2.2.2.1, also hHeld.2.2.2.2.2.2.2.2.2.2.2.2.2.2 bw13⟩ | exact ⟨cell_on bw12 hHeld.1, cell_on bw12 hHeld.2.1, cell_on bw12 hHeld.2.2.1, cell_on bw12 hHeld.2.2.2.1, cell_on bw12 hHeld.2.2.2.2.1, cell_on bw12 hHeld.2.2.2.2.2.1, cell_on bw12 hHeld.2.2.2.2.2.2.1, cell_on bw12 hHeld.2.2.2.2.2.2.2.1, cell_on bw12 hHeld.2.2.2.2.2.2.2.2.1, cell_on bw12 hHeld.2.2.2.2.2.2.2.2.2.1, cell_on bw12 hHeld.2.2.2.2.2.2.2.2.2.2.1, cell_on bw12 hHeld.2.2.2.2.2.2.2.2.2.2.2.1, cell_on bw12 hHeld.2.2.2.2.2.2.2.2.2.2.2.2.1, cell_on bw12 hHeld.2.2.2.2.2.2.2.2.2.2.2.2.2.1, also hHeld.2.2.2.2.2.2.2.2.2.2.2.2.2.2 bw12⟩ | exact ⟨cell_on bw11 hHeld.1, cell_on bw11 hHeld.2.1, cell_on bw11 hHeld.2.2.1, cell_on bw11 hHeld.2.2.2.1, cell_on bw11 hHeld.2.2.2.2.1, cell_on bw11 hHeld.2.2.2.2.2.1, cell_on bw11 hHeld.2.2.2.2.2.2.1, cell_on bw11 hHeld.2.2.2.2.2.2.2.1, cell_on bw11 hHeld.2.2.2.2.2.2.2.2.1, cell_on bw11 hHeld.2.2.2.2.2.2.2.2.2.1, cell_on bw11 hHeld.2.2.2.2.2.2.2.2.2.2.1, cell_on bw11 hHeld.2.2.2.2.2.2.2.2.2.2.2.1, cell_on bw11 hHeld.2.2.2.2.2.2.2.2.2.2.2.2.1, cell_on bw11 hHeld.2.2.2.2.2.2.2.2.2.2.2.2.2.1, also hHeld.2.2.2.2.2.2.2.2.2.2.2.2.2.2 bw11⟩ | exact ⟨cell_on bw10 hHeld.1, cell_on bw10 hHeld.2.1, cell_on bw10 hHeld.2.2.1, cell_on bw10 hHeld.2.2.2.1, cell_on bw10 hHeld.2.2.2.2.1, cell_on bw10 hHeld.2.2.2.2.2.1, cell_on bw10 hHeld.2.2.2.2.2.2.1, cell_on bw10 hHeld.2.2.2.2.2.2.2.1, cell_on bw10 hHeld.2.2.2.2.2.2.2.2.1, cell_on bw10 hHeld.2.2.2.2.2.2.2.2.2.1, cell_on bw10 hHeld.2.2.2.2.2.2.2.2.2.2.1, cell_on bw10 hHeld.2.2.2.2.2.2.2.2.2.2.2.1, cell_on bw10 hHeld.2.2.2.2.2.2.2.2.2.2.2.2.1, cell_on bw10 hHeld.2.2.2.2.2.2.2.2.2.2.2.2.2.1, also hHeld.2.2.2.2.2.2.2.2.2.2.2.2.2.2 bw10⟩ | exact ⟨cell_on bw9 hHeld.1, cell_on bw9 hHeld.2.1, cell_on bw9 hHeld.2.2.1, cell_on bw9 hHeld.2.2.2.1, cell_on bw9 hHeld.2.2.2.2.1, cell_on bw9 hHeld.2.2.2.2.2.1, cell_on bw9 hHeld.2.2.2.2.2.2.1, cell_on bw9 hHeld.2.2.2.2.2.2.2.1, cell_on bw9 hHeld.2.2.2.2.2.2.2.2.1, cell_on bw9 hHeld.2.2.2.2.2.2.2.2.2.1, cell_on bw9 hHeld.2.2.2.2.2.2.2.2.2.2.1, cell_on bw9 hHeld.2.2.2.2.2.2.2.2.2.2.2.1, cell_on bw9 hHeld.2.2.2.2.2.2.2.2.2.2.2.2.1, cell_on bw9 hHeld.2.2.2.2.2.2.2.2.2.2.2.2.2.1, also hHeld.2.2.2.2.2.2.2.2.2.2.2.2.2.2 bw9⟩ | exact ⟨cell_on bw8 hHeld.1, cell_on bw8 hHeld.2.1, cell_on bw8 hHeld.2.2.1, cell_on bw8 hHeld.2.2.2.1, cell_on bw8 hHeld.2.2.2.2.1, cell_on bw8 hHeld.2.2.2.2.2.1, cell_on bw8 hHeld.2.2.2.2.2.2.1, cell_on bw8 hHeld.2.2.2.2.2.2.2.1, cell_on bw8 hHeld.2.2.2.2.2.2.2.2.1, cell_on bw8 hHeld.2.2.2.2.2.2.2.2.2.1, cell_on bw8 hHeld.2.2.2.2.2.2.2.2.2.2.1, cell_on bw8 hHeld.2.2.2.2.2.2.2.2.2.2.2.1, cell_on bw8 hHeld.2.2.2.2.2.2.2.2.2.2.2.2.1, cell_on bw8 hHeld.2.2.2.2.2.2.2.2.2.2.2.2.2.1, also hHeld.2.2.2.2.2.2.2.2.2.2.2.2.2.2 bw8⟩ | exact ⟨cell_on bw7 hHeld.1, cell_on bw7 hHeld.2.1, cell_on bw7 hHeld.2.2.1, cell_on bw7 hHeld.2.2.2.1, cell_on bw7 hHeld.2.2.2.2.1, cell_on bw7 hHeld.2.2.2.2.2.1, cell_on bw7 hHeld.2.2.2.2.2.2.1, cell_on bw7 hHeld.2.2.2.2.2.2.2.1, cell_on bw7 hHeld.2.2.2.2.2.2.2.2.1, cell_on bw7 hHeld.2.2.2.2.2.2.2.2.2.1, cell_on bw7 hHeld.2.2.2.2.2.2.2.2.2.2.1, cell_on bw7 hHeld.2.2.2.2.2.2.2.2.2.2.2.1, cell_on bw7 hHeld.2.2.2.2.2.2.2.2.2.2.2.2.1, cell_on bw7 hHeld.2.2.2.2.2.2.2.2.2.2.2.2.2.1, also hHeld.2.2.2.2.2.2.2.2.2.2.2.2.2.2 bw7⟩ | exact ⟨cell_on bw6 hHeld.1, cell_on bw6 hHeld.2.1, cell_on bw6 hHeld.2.2.1, cell_on bw6 hHeld.2.2.2.1, cell_on bw6 hHeld.2.2.2.2.1, cell_on bw6 hHeld.2.2.2.2.2.1, cell_on bw6 hHeld.2.2.2.2.2.2.1, cell_on bw6 hHeld.2.2.2.2.2.2.2.1, cell_on bw6 hHeld.2.2.2.2.2.2.2.2.1, cell_on bw6 hHeld.2.2.2.2.2.2.2.2.2.1, cell_on bw6 hHeld.2.2.2.2.2.2.2.2.2.2.1, cell_on bw6 hHeld.2.2.2.2.2.2.2.2.2.2.2.1, cell_on bw6 hHeld.2.2.2.2.2.2.2.2.2.2.2.2.1, cell_on bw6 hHeld.2.2.2.2.2.2.2.2.2.2.2.2.2.1, also hHeld.2.2.2.2.2.2.2.2.2.2.2.2.2.2 bw6⟩ | exact ⟨cell_on bw5 hHeld.1, cell_on bw5 hHeld.2.1, cell_on bw5 hHeld.2.2.1, cell_on bw5 hHeld.2.2.2.1, cell_on bw5 hHeld.2.2.2.2.1, cell_on bw5 hHeld.2.2.2.2.2.1, cell_on bw5 hHeld.2.2.2.2.2.2.1, cell_on bw5 hHeld.2.2.2.2.2.2.2.1, cell_on bw5 hHeld.2.2.2.2.2.2.2.2.1, cell_on bw5 hHeld.2.2.2.2.2.2.2.2.2.1, cell_on bw5 hHeld.2.2.2.2.2.2.2.2.2.2.1, cell_on bw5 hHeld.2.2.2.2.2.2.2.2.2.2.2.1, cell_on bw5 hHeld.2.2.2.2.2.2.2.2.2.2.2.2.1, cell_on bw5 hHeld.2.2.2.2.2.2.2.2.2.2.2.2.2.1, also hHeld.2.2.2.2.2.2.2.2.2.2.2.2.2.2 bw5⟩
  clear hK Kc
  have zbw16 := bw16.size
  replace BB := also BB bw16
  replace x_a := x_a.on bw16
  replace x_b := x_b.on bw16
  replace q1 := q1.below bw16
  replace q2 := q2.below bw16
  replace x3 := x3.below bw16
  replace x4 := x4.below bw16
  replace x_x := x_x.on bw16
  replace x_y := x_y.on bw16
  replace h5 := h5.below bw16
  replace x6 := x6.below bw16
  replace h8 := h8.below bw16
  replace x9 := x9.below bw16
  replace h11 := h11.below bw16
  replace x12 := x12.below bw16
  replace h14 := h14.below bw16
  refine take_yes (i := 31) (v := ?vw31) rfl (by kernel_rfl) (by kernel_rfl) (by kernel_rfl) (fun _ _ _ h => h) (by rfl) (by assumption) ?hyw31 ?restw31
  case hyw31 => (intro w hSw; (try dsimp only at hSw); first | (go_simp; done) | (go_simp; with_reducible rfl))
  simp only [Act.put, List.setIfInBounds_toArray, List.set_cons_zero, List.set_cons_succ]
  refine take_yes (i := 32) (v := ?vw32) rfl (by kernel_rfl) (by kernel_rfl) (by kernel_rfl) (fun _ _ _ h => h) (by rfl) (by assumption) ?hyw32 ?restw32
  case hyw32 => (intro w hSw; (try dsimp only at hSw); first | (go_simp; done) | (go_simp; with_reducible rfl))
  simp only [Act.put, List.setIfInBounds_toArray, List.set_cons_zero, List.set_cons_succ]
  refine wpAnyH_done (by kernel_rfl) ?_ _
  go_wp2
  go_ret
  exact ⟨rfl, BB⟩
theorem own : ownKnob Tryz.prog.godebug = none := by kernel_rfl
set_option maxRecDepth 100000 in
theorem lifted (os : Os) (started : os.Started) (H : Type) (enc : TypeId × Value → H) :
    ReturnsInHanded {} Tryz.checked os 3 .any (fun w args => (Rows.ratAddsSpec.pre enc Tryz.prog Tryz.f3 [] false w args ∧ laidMetH Tryz.prog Rows.ratAddsRow.laid w) ∧ sizedMet enc Tryz.prog Tryz.f3 (OpenSpec.ofChange Rows.ratAddsSpec) false w args)
      (Rows.ratAddsSpec.post enc Tryz.prog Tryz.f3 false true false false) := by
  refine returnsInHanded_of_change_and (C := Tryz.checked) (X := fun w _ => laidMetH Tryz.prog Rows.ratAddsRow.laid w) (fun _ _ _ hh h => h.of_heap hh) own started (by kernel_rfl) Tryz.func3
    (ChangeSpec.witness_shaped (enc := enc) (C := Tryz.checked) (os := os) (X := fun w _ => laidMetH Tryz.prog Rows.ratAddsRow.laid w) false (World.laidAll Tryz.prog os Rows.ratAddsRow.laid) #[.agg #[.bool false, .slice none 0 0, .slice none 0 0], .agg #[.bool false, .slice none 0 0, .slice none 0 0]] 8 (World.laidAll_os _ _ _)
      (World.shaped_of_ZipB (by kernel_rfl) (by kernel_rfl)) (by kernel_rfl) (by kernel_rfl) (by kernel_rfl)
      (by rw [MakeChecks.laidMetH_plain _ _ _ (by kernel_rfl)]; exact laidMet_laidAll _ (by kernel_rfl) (by kernel_rfl))) ?_
  intro W base args ds gs before hval0 hW _ _ hL _
  have hval : ∀ (j : Nat) t v, Tryz.f3.params[j]? = some t → args[j]? = some v → Value.okWide Tryz.prog W .any base t v := hval0
  have hW' := hW
  obtain ⟨p, q, hA0, hV, rfl, hfz, hnd⟩ := hW
  have hA : DataW.TrodAll enc Tryz.prog W 0 (fun _ => true) true Tryz.f3.params.toList args.toList ds p := hA0
  rw [Tryz.params3] at hA hval
  obtain ⟨v0, vs0, d0, ds0, p0, q0, hargs, rfl, rfl, h0, r0⟩ := trodAll_cons hA
  obtain ⟨v1, vs1, d1, ds1, p1, q1, rfl, rfl, rfl, h1, r1⟩ := trodAll_cons r0
  obtain ⟨rfl, rfl, rfl⟩ := trodAll_nil r1
  obtain rfl : args = #[v0, v1] := by cases args; simp_all
  obtain ⟨rfl, rfl⟩ := trodVars_none hV
  have hlt : ∀ x ∈ p0 ++ p1, x.block < W.heap.size := fun x hx => by simpa using hW'.lt x (by simpa using hx)
  have h0k := h0
  obtain ⟨n0, a0, l0, c0, u0, e0, m0, k0, x0, rfl, hu0, hs0, hx0, ht0⟩ := rat_view (hval 0 27 v0 rfl rfl) h0 (fun b o h => hfz b o (by simp [h])) (fun x hx => hlt x (by simp [hx]))
  have h1k := h1
  obtain ⟨n1, a1, l1, c1, u1, e1, m1, k1, x1, rfl, hu1, hs1, hx1, ht1⟩ := rat_view (hval 1 27 v1 rfl rfl) h1 (fun b o h => hfz b o (by simp [h])) (fun x hx => hlt x (by simp [hx]))
  clear hA0 hval0
  refine (walk n0 a0 l0 c0 u0 e0 m0 k0 x0 n1 a1 l1 c1 u1 e1 m1 k1 x1 W hs0 hu0 ht0 hx0 hs1 hu1 ht1 hx1).mono fun e W' ⟨he, bel⟩ => ?_
  subst he
  exact ⟨_, rfl, _, _, _, [], _, [], hW', trodAll_mk1 (shut_bool Tryz.underlying4 _), (trodAll_cons_mk (Below.trod laidOutAll (by kernel_rfl) (of_decide_eq_true (by kernel_rfl)) h0k bel (fun x hx => hlt x (by simp [hx]))) (trodAll_cons_mk (Below.trod laidOutAll (by kernel_rfl) (of_decide_eq_true (by kernel_rfl)) h1k bel (fun x hx => hlt x (by simp [hx]))) trodAll_mk0)), rfl, bel.frame _, fun h => by cases h⟩

theorem said : Rows.RatAddsSaid :=
  OpenClaim.holds_of_wide 3 Tryz.f3 rfl rfl rfl rfl rfl rfl rfl ⟨rfl, rfl, rfl, rfl, rfl⟩ rfl rfl rfl rfl rfl (by kernel_rfl) Tryz.func3 (by kernel_rfl)
    (of_decide_eq_true (by kernel_rfl)) (by unfold Func.isWrapper; first | (rw [if_pos (by decide +kernel)]; kernel_rfl) | (rw [if_neg (by decide +kernel)]; exact ⟨rfl, rfl⟩))
    (fun os started H enc _ => lifted os started H enc)
/-- The program's own looks are off, and no parameter wants a stand-in: what the card asks. -/
theorem plain (f : FuncId) (fn : Func) (hf : Tryz.pinned.checked.prog.funcNamed "zellige/zelligelaw05.RatAdds" = some f) (hfn : Tryz.pinned.checked.prog.funcs[f]? = some fn) :
    false = Tryz.pinned.checked.prog.looks [] ∧ ∀ (j : Nat) t, fn.params[j]? = some t → Tryz.pinned.checked.prog.wantsStandIn t = false := by
  obtain rfl : f = 3 := Option.some.inj ((show Tryz.prog.funcNamed "zellige/zelligelaw05.RatAdds" = some 3 by kernel_rfl).symm.trans hf) |>.symm
  obtain rfl : fn = Tryz.f3 := (Option.some.inj (Tryz.func3.symm.trans hfn)).symm
  refine ⟨by kernel_rfl, fun j t ht => ?_⟩
  rw [Tryz.params3] at ht
  have hm : t ∈ [27, 27] := by simpa using Array.mem_of_getElem? ht
  have hall : ([27, 27].all fun u => !Tryz.prog.wantsStandIn u) = true := by kernel_rfl
  exact (show Tryz.prog.wantsStandIn t = false by simpa using List.all_eq_true.1 hall t hm)
/-- The statement: the card. -/
theorem proved : Rows.RatAddsCardSaid :=
  Claim7.holds_tied_plain_at .later [] _ _ _ _ said (fun _ h => by cases h) (by kernel_rfl) (fun _ h => by cases h) ratAdds_row_tie rfl ⟨rfl, rfl⟩ (by kernel_rfl) rfl plain (by kernel_rfl)
#print axioms proved
end radds
end Go.Proofs.YtaekgomplkkocaaGreatDoor
