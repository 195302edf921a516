/-
  RatMakes: any two whole numbers as a fraction, or that there is none, and any number of 64 bits.
-/
import Derived.Test.YtaekgomplkkocaaDoorP6
import Derived.Test.YtaekgomplkkocaaDoorP8
import Derived.Test.YtaekgomplkkocaaDoorP9
namespace Go.Proofs.YtaekgomplkkocaaDoor
open Go.RowKit
set_option linter.unusedVariables false

namespace rmakes
open Go.ChangeShapes Go.WideShapes Go.ChangeAt
/-- What holds behind the law's cut of two numbers. -/
def CutM (w W : World) (n m : Bool) (mk : Value → Value → Value → Value → Act) (e : Exit) (act : Act) (wr : World) : Prop :=
  match e with
  | .normal => ∃ (a1 : Option Addr) (m1 c1 x1 : Nat) (d1 : Option Addr) (k1 g1 A : Nat) (a2 : Option Addr) (m2 c2 x2 : Nat) (d2 : Option Addr) (k2 g2 B : Nat), act = mk (.agg #[.bool n, .slice a1 m1 c1, .slice d1 k1 g1]) (.agg #[.bool n, .slice a1 m1 c1]) (.agg #[.bool m, .slice a2 m2 c2, .slice d2 k2 g2]) (.agg #[.bool m, .slice a2 m2 c2]) ∧
    QI wr 6 n a1 m1 c1 d1 k1 g1 (sgz n x1) A ∧ QI wr 6 m a2 m2 c2 d2 k2 g2 (sgz m x2) B ∧ Bx wr w.heap.size (.bool n) (.slice a1 m1 c1) ∧ Bx wr (w.heap.size + 1) (.bool m) (.slice a2 m2 c2) ∧ Below w.heap.size w wr ∧ W.heap.size ≤ wr.heap.size
  | _ => False
theorem bd_i64 {x : Int} (h : (Lit.int .i64 x).wf = true) : -9223372036854775808 ≤ x ∧ x ≤ 9223372036854775807 := by
  simp [Lit.wf, IntKind.min, IntKind.max, IntKind.signed, IntKind.bits] at h
  exact ⟨by omega, by omega⟩
theorem field_num (n : Bool) (a : Option Addr) (l c : Nat) (d : Option Addr) (m k : Nat) (w : World) : (Instr.field 27 (.agg #[.bool n, .slice a l c, .slice d m k]) 0).run Tryd.prog w = .ok (.agg #[.bool n, .slice a l c]) w := by show _ = _; kernel_rfl
theorem low_by_one (x : Int) : x = lowN x 1 ∧ 1 = lowD x 1 := by
  unfold lowN lowD
  rw [Nat.gcd_one_right, Nat.div_one, Nat.div_one]
  exact ⟨(Int.sign_mul_natAbs x).symm, rfl⟩
set_option maxRecDepth 100000 in
set_option maxHeartbeats 80000000 in
theorem walk (n : Bool) (a : Option Addr) (la ca u : Nat) (m : Bool) (b : Option Addr) (lb cb v : Nat) (x : Int) (w : World) (ha : Sl w a la ca (wd.dcells la (u : Int))) (hu : u < 4294967296 ^ la) (hb : Sl w b lb cb (wd.dcells lb (v : Int))) (hv : v < 4294967296 ^ lb) (hx1 : -9223372036854775808 ≤ x) (hx2 : x ≤ 9223372036854775807) :
    Calls Tryd.prog 3 #[.agg #[.bool n, .slice a la ca], .agg #[.bool m, .slice b lb cb], .int .i64 x] w fun e w' => e = .returned (.bool true) ∧ Below w.heap.size w w' := by
  have HX1 : Hid _ := hx1
  have HX2 : Hid _ := hx2
  clear hx1 hx2
  obtain ⟨W, hW, bW, x_a, x_b, sW⟩ := bs_22 w (.bool n) (.slice a la ca) (.bool m) (.slice b lb cb) 25 25
  have zbW := bW.size
  replace ha := ha.below bW
  replace hb := hb.below bW
  have BB := bW
  go_enter Tryd.func3, Tryd.ntmps3
  go_wp2
  rw [← hW]
  clear hW
  have dd1 : Below W.heap.size W W.drew := (Below.refl _ _).drew
  have zdd1 := dd1.size
  replace ha := ha.below dd1
  replace hb := hb.below dd1
  replace BB := also BB dd1
  replace x_a := x_a.on dd1
  replace x_b := x_b.on dd1
  have hnil : ∀ w : World, Sl w none 0 0 (wd.dcells 0 ((0 : Nat) : Int)) := fun w => sl_nil w
  refine wp_mono (Q := CutM w W n m (fun p q r s => ⟨#[.agg #[.bool n, .slice a la ca], .agg #[.bool m, .slice b lb cb], .int .i64 x, .pointer (some ⟨w.heap.size, 0, none⟩), .pointer (some ⟨w.heap.size + 1, 0, none⟩), undef, .bool false, undef, undef, undef, .agg #[.bool n, .slice a la ca], .agg #[.bool n, .slice a la ca, .slice none 0 0], p, q, .agg #[.bool m, .slice b lb cb], .agg #[.bool m, .slice b lb cb, .slice none 0 0], r, s, undef, undef, undef, undef, undef, undef, undef, undef, undef, undef, undef, undef, undef, undef, undef, undef, undef, undef, undef, undef, undef, undef, undef, undef, undef, undef, undef, undef, undef, undef, undef, undef, undef, undef, undef, undef, undef, undef, undef, undef, undef], []⟩)) ?_ ?_
  · have FF := field_num
    have kx_a0 : W.cell? ⟨w.heap.size, 0, none⟩ = some (.bool n) := x_a.c0
    have kx_a1 : W.cell? ⟨w.heap.size, 1, none⟩ = some (.slice a la ca) := x_a.c1
    have kx_a3 : W.frozen? ⟨w.heap.size, 0, none⟩ = false := x_a.f0
    have kx_a4 : W.frozen? ⟨w.heap.size, 1, none⟩ = false := x_a.f1
    have kx_b0 : W.cell? ⟨w.heap.size + 1, 0, none⟩ = some (.bool m) := x_b.c0
    have kx_b1 : W.cell? ⟨w.heap.size + 1, 1, none⟩ = some (.slice b lb cb) := x_b.c1
    have kx_b3 : W.frozen? ⟨w.heap.size + 1, 0, none⟩ = false := x_b.f0
    have kx_b4 : W.frozen? ⟨w.heap.size + 1, 1, none⟩ = false := x_b.f1
    go_region_with (first
      | (go_at_call_of 5 [Value.agg #[Value.bool n, Value.slice a la ca, Value.slice none 0 0]]; refine (short5_any n a la ca u none 0 0 0 _ ha hu (hnil _) (by decide)).mono ?_; rintro e w1 ⟨a1, m1, c1, x1, d1, k1, g1, A, rfl, q1, f1, e1, b1⟩; have ⟨x_ab10, x_ab11, x_ab12, x_ab13⟩ := (x_a.on b1); have ⟨x_bb10, x_bb11, x_bb12, x_bb13⟩ := (x_b.on b1))
      | (go_at_call 5; refine (short5_any m b lb cb v none 0 0 0 _ (hb.below b1) hv (hnil _) (by decide)).mono ?_; rintro e w2 ⟨a2, m2, c2, x2, d2, k2, g2, B, rfl, q2, f2, e2, b2⟩; have ⟨x_ab20, x_ab21, x_ab22, x_ab23⟩ := ((x_a.on b1).on b2); have ⟨x_bb20, x_bb21, x_bb22, x_bb23⟩ := ((x_b.on b1).on b2)))
    all_goals (unfold CutM; dsimp only; have zb1 : W.heap.size ≤ w1.heap.size := b1.size; have zb2 : w1.heap.size ≤ w2.heap.size := b2.size; have F1 : Far W.heap.size a1 m1 := f1; have E1 : Far W.heap.size d1 k1 := e1; exact ⟨a1, m1, c1, x1, d1, k1, g1, A, a2, m2, c2, x2, d2, k2, g2, B, rfl, (((((q1.below b2).put (F1 _ (by omega)) (E1 _ (by omega)) 0 _).put (F1 _ (by omega)) (E1 _ (by omega)) 1 _).put (F1 _ (by omega)) (E1 _ (by omega)) 0 _).put (F1 _ (by omega)) (E1 _ (by omega)) 1 _), ((((q2.put (f2 _ (by omega)) (e2 _ (by omega)) 0 _).put (f2 _ (by omega)) (e2 _ (by omega)) 1 _).put (f2 _ (by omega)) (e2 _ (by omega)) 0 _).put (f2 _ (by omega)) (e2 _ (by omega)) 1 _), (((x_a.on b1).on b2).set.put (by omega)).put (by omega), ((((x_b.on b1).on b2).put (by omega)).put (by omega)).set, below_put2 (below_put2 (also (also BB b1) b2) (by omega) _ _) (by omega) _ _, by simp only [World.size_setCell]; omega⟩)
  intro e act U hcut
  unfold CutM at hcut
  cases e <;> first | exact False.elim hcut | skip
  obtain ⟨a1, m1, c1, x1, d1, k1, g1, A, a2, m2, c2, x2, d2, k2, g2, B, rfl, q1, q2, y_a, y_b, BU, z_U⟩ := hcut
  clear ha hb hu hv x_a x_b BB
  have x_a := y_a
  have x_b := y_b
  have BB := BU
  clear y_a y_b BU
  dsimp only
  generalize sgz n x1 = X at q1
  generalize sgz m x2 = Y at q2
  have HXs : Hid (X.natAbs < 4294967296 ^ 6) := q1.zs
  have HYs : Hid (Y.natAbs < 4294967296 ^ 6) := q2.zs
  by_cases h0 : Y = 0
  · skip
    have HB0 : Hid _ := h0
    clear h0
    have ⟨x_a_0, x_a_1, x_a_2, x_a_3⟩ := x_a
    have ⟨x_b_0, x_b_1, x_b_2, x_b_3⟩ := x_b
    go_wp2_with (go_at_call 6; fail)
    refine (qMake0 n m a1 a2 m1 m2 c1 c2 X Y U q1.wi q2.wi HB0.out).mono ?_
    rintro e w5 ⟨n5, a5, l5, c5, d5, m5, k5, rfl, h5, f5, e5, bw5⟩
    clear x_a_0 x_a_1 x_a_2 x_a_3 x_b_0 x_b_1 x_b_2 x_b_3
    have zbw5 := bw5.size
    replace BB := also BB bw5
    replace x_a := x_a.on bw5
    replace x_b := x_b.on bw5
    replace q1 := q1.below bw5
    replace q2 := q2.below bw5
    obtain ⟨V5, hV5, bV5, x_r, sV5⟩ := bs_3 w5 (.bool n5) (.slice a5 l5 c5) (.slice d5 m5 k5) 27
    have zbV5 := bV5.size
    replace BB := also BB bV5
    replace x_a := x_a.on bV5
    replace x_b := x_b.on bV5
    replace q1 := q1.below bV5
    replace q2 := q2.below bV5
    replace h5 := h5.below bV5
    have st_b_0 : (w5.alloc (.cells #[.bool n5, .slice a5 l5 c5, .slice d5 m5 k5] 27)).cell? ⟨w.heap.size + 1, 0, none⟩ = some (.bool m) := by rw [← hV5]; exact x_b.c0
    have st_b_1 : (w5.alloc (.cells #[.bool n5, .slice a5 l5 c5, .slice d5 m5 k5] 27)).cell? ⟨w.heap.size + 1, 1, none⟩ = some (.slice a2 m2 c2) := by rw [← hV5]; exact x_b.c1
    have sf_b_0 : (w5.alloc (.cells #[.bool n5, .slice a5 l5 c5, .slice d5 m5 k5] 27)).frozen? ⟨w.heap.size + 1, 0, none⟩ = false := by rw [← hV5]; exact x_b.f0
    have sf_b_1 : (w5.alloc (.cells #[.bool n5, .slice a5 l5 c5, .slice d5 m5 k5] 27)).frozen? ⟨w.heap.size + 1, 1, none⟩ = false := by rw [← hV5]; exact x_b.f1
    go_wp2_with (go_at_call 7; fail)
    rw [← hV5]
    clear hV5 st_b_0 st_b_1 sf_b_0 sf_b_1
    refine (rwOf m a2 m2 c2 Y V5 q2.wi).mono ?_
    rintro e w6 ⟨s6, d6, l6, c6, rfl, r6, f6, bw6⟩
    have zbw6 := bw6.size
    replace BB := also BB bw6
    replace x_a := x_a.on bw6
    replace x_b := x_b.on bw6
    replace q1 := q1.below bw6
    replace q2 := q2.below bw6
    replace h5 := h5.below bw6
    replace x_r := x_r.on bw6
    obtain rfl : s6 = 0 := by rw [r6.sg, HB0.out]; rfl
    obtain ⟨V6, hV6, bV6, x_y, sV6⟩ := bs_2 w6 (.int .i64 0) (.slice d6 l6 c6) 35
    have zbV6 := bV6.size
    replace BB := also BB bV6
    replace x_a := x_a.on bV6
    replace x_b := x_b.on bV6
    replace q1 := q1.below bV6
    replace q2 := q2.below bV6
    replace h5 := h5.below bV6
    replace x_r := x_r.on bV6
    replace r6 := r6.below bV6
    go_wp2
    rw [← hV6]
    clear hV6
    have dd2 : Below V6.heap.size V6 V6.drew := (Below.refl _ _).drew
    have zdd2 := dd2.size
    replace BB := also BB dd2
    replace x_a := x_a.on dd2
    replace x_b := x_b.on dd2
    replace q1 := q1.below dd2
    replace q2 := q2.below dd2
    replace h5 := h5.below dd2
    replace x_r := x_r.on dd2
    replace r6 := r6.below dd2
    replace x_y := x_y.on dd2
    refine wp_region_held_drew (S := (fun w' => w'.cell? ⟨w5.heap.size, 0, none⟩ = some (.bool n5) ∧ w'.cell? ⟨w5.heap.size, 1, none⟩ = some (.slice a5 l5 c5) ∧ w'.cell? ⟨w5.heap.size, 2, none⟩ = some (.slice d5 m5 k5) ∧ Below w.heap.size w w')) (by kernel_rfl) ?_ (fun hHeld => ?_)
    · first | exact ⟨x_r.c0, x_r.c1, x_r.c2, BB⟩ | exact ⟨cell_on bw9 hHeld.1, cell_on bw9 hHeld.2.1, cell_on bw9 hHeld.2.2.1, also hHeld.2.2.2 bw9⟩ | exact ⟨cell_on bw8 hHeld.1, cell_on bw8 hHeld.2.1, cell_on bw8 hHeld.2.2.1, also hHeld.2.2.2 bw8⟩ | exact ⟨cell_on bw7 hHeld.1, cell_on bw7 hHeld.2.1, cell_on bw7 hHeld.2.2.1, also hHeld.2.2.2 bw7⟩
    refine take_yes (i := 0) (v := ?vv0) rfl (by kernel_rfl) (by kernel_rfl) (by kernel_rfl) (fun _ _ _ h => h) (by rfl) (by assumption) ?hyv0 ?restv0
    case hyv0 => (intro w hSw; (try dsimp only at hSw); first | (go_simp; done) | (go_simp; with_reducible rfl))
    simp only [Act.put, List.setIfInBounds_toArray, List.set_cons_zero, List.set_cons_succ]
    refine take_call (i := 1) rfl (by kernel_rfl) (fun Kc hK => ?_)
    go_simp
    (go_at_call 9; refine (rqLong 0 _ (by decide) (by decide)).mono ?_; rintro e w7 ⟨s7, d7, l7, c7, t7, g7, h7, k7, rfl, x7, r7, bw7⟩)
    refine hK.out _ _ ?_ (fun hHeld => ?_)
    · first | exact ⟨x_r.c0, x_r.c1, x_r.c2, BB⟩ | exact ⟨cell_on bw9 hHeld.1, cell_on bw9 hHeld.2.1, cell_on bw9 hHeld.2.2.1, also hHeld.2.2.2 bw9⟩ | exact ⟨cell_on bw8 hHeld.1, cell_on bw8 hHeld.2.1, cell_on bw8 hHeld.2.2.1, also hHeld.2.2.2 bw8⟩ | exact ⟨cell_on bw7 hHeld.1, cell_on bw7 hHeld.2.1, cell_on bw7 hHeld.2.2.1, also hHeld.2.2.2 bw7⟩
    clear hK Kc
    have zbw7 := bw7.size
    replace BB := also BB bw7
    replace x_a := x_a.on bw7
    replace x_b := x_b.on bw7
    replace q1 := q1.below bw7
    replace q2 := q2.below bw7
    replace h5 := h5.below bw7
    replace x_r := x_r.on bw7
    replace r6 := r6.below bw7
    replace x_y := x_y.on bw7
    refine take_call (i := 2) rfl (by kernel_rfl) (fun Kc hK => ?_)
    go_simp
    (go_at_call 8; refine (rqSame n5 a5 l5 c5 d5 m5 k5 0 1 s7 d7 l7 c7 t7 g7 h7 k7 0 1 2 _ h5 x7 rfl rfl).mono ?_; rintro e w8 ⟨rfl, bw8⟩)
    refine hK.out _ _ ?_ (fun hHeld => ?_)
    · first | exact ⟨x_r.c0, x_r.c1, x_r.c2, BB⟩ | exact ⟨cell_on bw9 hHeld.1, cell_on bw9 hHeld.2.1, cell_on bw9 hHeld.2.2.1, also hHeld.2.2.2 bw9⟩ | exact ⟨cell_on bw8 hHeld.1, cell_on bw8 hHeld.2.1, cell_on bw8 hHeld.2.2.1, also hHeld.2.2.2 bw8⟩ | exact ⟨cell_on bw7 hHeld.1, cell_on bw7 hHeld.2.1, cell_on bw7 hHeld.2.2.1, also hHeld.2.2.2 bw7⟩
    clear hK Kc
    have zbw8 := bw8.size
    replace BB := also BB bw8
    replace x_a := x_a.on bw8
    replace x_b := x_b.on bw8
    replace q1 := q1.below bw8
    replace q2 := q2.below bw8
    replace h5 := h5.below bw8
    replace x_r := x_r.on bw8
    replace r6 := r6.below bw8
    replace x_y := x_y.on bw8
    replace x7 := x7.below bw8
    refine take_yes (i := 3) (v := ?vv3) rfl (by kernel_rfl) (by kernel_rfl) (by kernel_rfl) (fun _ _ _ h => h) (by rfl) (by assumption) ?hyv3 ?restv3
    case hyv3 => (intro w hSw; (try dsimp only at hSw); first | (go_simp; done) | (go_simp; with_reducible rfl))
    simp only [Act.put, List.setIfInBounds_toArray, List.set_cons_zero, List.set_cons_succ]
    refine take_yes (i := 4) (v := ?vv4) rfl (by kernel_rfl) (by kernel_rfl) (by kernel_rfl) (fun _ _ _ h => h) (by rfl) (by assumption) ?hyv4 ?restv4
    case hyv4 => (intro w hSw; (try dsimp only at hSw); first | (go_simp; done) | (go_simp; with_reducible rfl))
    simp only [Act.put, List.setIfInBounds_toArray, List.set_cons_zero, List.set_cons_succ]
    refine take_yes (i := 5) (v := ?vv5) rfl (by kernel_rfl) (by kernel_rfl) (by kernel_rfl) (fun _ _ _ h => h) (by rfl) (by assumption) ?hyv5 ?restv5
    case hyv5 => (intro w hSw; (try dsimp only at hSw); first | (go_simp; done) | (go_simp; with_reducible rfl))
    simp only [Act.put, List.setIfInBounds_toArray, List.set_cons_zero, List.set_cons_succ]
    refine take_yes (i := 6) (v := ?vv6) rfl (by kernel_rfl) (by kernel_rfl) (by kernel_rfl) (fun _ _ _ h => h) (by rfl) (by assumption) ?hyv6 ?restv6
    case hyv6 => (intro w hSw; (try dsimp only at hSw); first | (go_simp; done) | (go_simp; with_reducible rfl))
    simp only [Act.put, List.setIfInBounds_toArray, List.set_cons_zero, List.set_cons_succ]
    refine take_yes (i := 7) (v := ?vv7) rfl (by kernel_rfl) (by kernel_rfl) (by kernel_rfl) (fun _ _ _ h => h) (by rfl) (by assumption) ?hyv7 ?restv7
    case hyv7 => (intro w hSw; (try dsimp only at hSw); first | (go_simp; done) | (go_simp; with_reducible rfl))
    simp only [Act.put, List.setIfInBounds_toArray, List.set_cons_zero, List.set_cons_succ]
    refine take_call (i := 8) rfl (by kernel_rfl) (fun Kc hK => ?_)
    go_simp
    (go_at_call 10; refine (lives5_any _).mono ?_; rintro e w9 ⟨rfl, bw9⟩)
    refine hK.out _ _ ?_ (fun hHeld => ?_)
    · first | exact ⟨x_r.c0, x_r.c1, x_r.c2, BB⟩ | exact ⟨cell_on bw9 hHeld.1, cell_on bw9 hHeld.2.1, cell_on bw9 hHeld.2.2.1, also hHeld.2.2.2 bw9⟩ | exact ⟨cell_on bw8 hHeld.1, cell_on bw8 hHeld.2.1, cell_on bw8 hHeld.2.2.1, also hHeld.2.2.2 bw8⟩ | exact ⟨cell_on bw7 hHeld.1, cell_on bw7 hHeld.2.1, cell_on bw7 hHeld.2.2.1, also hHeld.2.2.2 bw7⟩
    clear hK Kc
    have zbw9 := bw9.size
    replace BB := also BB bw9
    replace x_a := x_a.on bw9
    replace x_b := x_b.on bw9
    replace q1 := q1.below bw9
    replace q2 := q2.below bw9
    replace h5 := h5.below bw9
    replace x_r := x_r.on bw9
    replace r6 := r6.below bw9
    replace x_y := x_y.on bw9
    replace x7 := x7.below bw9
    refine take_yes (i := 9) (v := ?vv9) rfl (by kernel_rfl) (by kernel_rfl) (by kernel_rfl) (fun _ _ _ h => h) (by rfl) (by assumption) ?hyv9 ?restv9
    case hyv9 => (intro w hSw; (try dsimp only at hSw); first | (go_simp; done) | (go_simp; with_reducible rfl))
    simp only [Act.put, List.setIfInBounds_toArray, List.set_cons_zero, List.set_cons_succ]
    refine take_yes (i := 10) (v := ?vv10) rfl (by kernel_rfl) (by kernel_rfl) (by kernel_rfl) (fun _ _ _ h => h) (by rfl) (by assumption) ?hyv10 ?restv10
    case hyv10 => (intro w hSw; (try dsimp only at hSw); first | (go_simp; done) | (go_simp; with_reducible rfl))
    simp only [Act.put, List.setIfInBounds_toArray, List.set_cons_zero, List.set_cons_succ]
    refine wpAnyH_done (by kernel_rfl) ?_ _
    go_wp2
    go_ret
    exact ⟨rfl, BB⟩
  · skip
    have HB0 : Hid _ := h0
    clear h0
    have ⟨x_a_0, x_a_1, x_a_2, x_a_3⟩ := x_a
    have ⟨x_b_0, x_b_1, x_b_2, x_b_3⟩ := x_b
    go_wp2_with (go_at_call 6; fail)
    refine (qMake n m a1 a2 m1 m2 c1 c2 X Y U q1.wi q2.wi HB0.out _ _ rfl rfl).mono ?_
    rintro e w5 ⟨n5, a5, l5, c5, d5, m5, k5, rfl, h5, f5, e5, bw5⟩
    clear x_a_0 x_a_1 x_a_2 x_a_3 x_b_0 x_b_1 x_b_2 x_b_3
    have zbw5 := bw5.size
    replace BB := also BB bw5
    replace x_a := x_a.on bw5
    replace x_b := x_b.on bw5
    replace q1 := q1.below bw5
    replace q2 := q2.below bw5
    obtain ⟨V5, hV5, bV5, x_r, sV5⟩ := bs_3 w5 (.bool n5) (.slice a5 l5 c5) (.slice d5 m5 k5) 27
    have zbV5 := bV5.size
    replace BB := also BB bV5
    replace x_a := x_a.on bV5
    replace x_b := x_b.on bV5
    replace q1 := q1.below bV5
    replace q2 := q2.below bV5
    replace h5 := h5.below bV5
    have st_b_0 : (w5.alloc (.cells #[.bool n5, .slice a5 l5 c5, .slice d5 m5 k5] 27)).cell? ⟨w.heap.size + 1, 0, none⟩ = some (.bool m) := by rw [← hV5]; exact x_b.c0
    have st_b_1 : (w5.alloc (.cells #[.bool n5, .slice a5 l5 c5, .slice d5 m5 k5] 27)).cell? ⟨w.heap.size + 1, 1, none⟩ = some (.slice a2 m2 c2) := by rw [← hV5]; exact x_b.c1
    have sf_b_0 : (w5.alloc (.cells #[.bool n5, .slice a5 l5 c5, .slice d5 m5 k5] 27)).frozen? ⟨w.heap.size + 1, 0, none⟩ = false := by rw [← hV5]; exact x_b.f0
    have sf_b_1 : (w5.alloc (.cells #[.bool n5, .slice a5 l5 c5, .slice d5 m5 k5] 27)).frozen? ⟨w.heap.size + 1, 1, none⟩ = false := by rw [← hV5]; exact x_b.f1
    go_wp2_with (go_at_call 7; fail)
    rw [← hV5]
    clear hV5 st_b_0 st_b_1 sf_b_0 sf_b_1
    refine (rwOf m a2 m2 c2 Y V5 q2.wi).mono ?_
    rintro e w6 ⟨s6, d6, l6, c6, rfl, r6, f6, bw6⟩
    have zbw6 := bw6.size
    replace BB := also BB bw6
    replace x_a := x_a.on bw6
    replace x_b := x_b.on bw6
    replace q1 := q1.below bw6
    replace q2 := q2.below bw6
    replace h5 := h5.below bw6
    replace x_r := x_r.on bw6
    have hs6 : ¬ s6 = 0 := by rw [r6.sg]; exact fun e => HB0.out (Int.sign_eq_zero_iff_zero.1 e)
    obtain ⟨V6, hV6, bV6, x_y, sV6⟩ := bs_2 w6 (.int .i64 s6) (.slice d6 l6 c6) 35
    have zbV6 := bV6.size
    replace BB := also BB bV6
    replace x_a := x_a.on bV6
    replace x_b := x_b.on bV6
    replace q1 := q1.below bV6
    replace q2 := q2.below bV6
    replace h5 := h5.below bV6
    replace x_r := x_r.on bV6
    replace r6 := r6.below bV6
    go_wp2
    rw [← hV6]
    clear hV6
    have dd2 : Below V6.heap.size V6 V6.drew := (Below.refl _ _).drew
    have zdd2 := dd2.size
    replace BB := also BB dd2
    replace x_a := x_a.on dd2
    replace x_b := x_b.on dd2
    replace q1 := q1.below dd2
    replace q2 := q2.below dd2
    replace h5 := h5.below dd2
    replace x_r := x_r.on dd2
    replace r6 := r6.below dd2
    replace x_y := x_y.on dd2
    refine wp_region_held_drew (S := (fun w' => w'.cell? ⟨w5.heap.size, 0, none⟩ = some (.bool n5) ∧ w'.cell? ⟨w5.heap.size, 1, none⟩ = some (.slice a5 l5 c5) ∧ w'.cell? ⟨w5.heap.size, 2, none⟩ = some (.slice d5 m5 k5) ∧ w'.cell? ⟨w.heap.size, 0, none⟩ = some (.bool n) ∧ w'.cell? ⟨w.heap.size, 1, none⟩ = some (.slice a1 m1 c1) ∧ w'.cell? ⟨w6.heap.size, 0, none⟩ = some (.int .i64 s6) ∧ w'.cell? ⟨w6.heap.size, 1, none⟩ = some (.slice d6 l6 c6) ∧ Below w.heap.size w w')) (by kernel_rfl) ?_ (fun hHeld => ?_)
    · first | exact ⟨x_r.c0, x_r.c1, x_r.c2, x_a.c0, x_a.c1, x_y.c0, x_y.c1, BB⟩ | exact ⟨cell_on bw14 hHeld.1, cell_on bw14 hHeld.2.1, cell_on bw14 hHeld.2.2.1, cell_on bw14 hHeld.2.2.2.1, cell_on bw14 hHeld.2.2.2.2.1, cell_on bw14 hHeld.2.2.2.2.2.1, cell_on bw14 hHeld.2.2.2.2.2.2.1, also hHeld.2.2.2.2.2.2.2 bw14⟩ | exact ⟨cell_on bw13 hHeld.1, cell_on bw13 hHeld.2.1, cell_on bw13 hHeld.2.2.1, cell_on bw13 hHeld.2.2.2.1, cell_on bw13 hHeld.2.2.2.2.1, cell_on bw13 hHeld.2.2.2.2.2.1, cell_on bw13 hHeld.2.2.2.2.2.2.1, also hHeld.2.2.2.2.2.2.2 bw13⟩ | exact ⟨cell_on bw12 hHeld.1, cell_on bw12 hHeld.2.1, cell_on bw12 hHeld.2.2.1, cell_on bw12 hHeld.2.2.2.1, cell_on bw12 hHeld.2.2.2.2.1, cell_on bw12 hHeld.2.2.2.2.2.1, cell_on bw12 hHeld.2.2.2.2.2.2.1, also hHeld.2.2.2.2.2.2.2 bw12⟩ | exact ⟨cell_on bw11 hHeld.1, cell_on bw11 hHeld.2.1, cell_on bw11 hHeld.2.2.1, cell_on bw11 hHeld.2.2.2.1, cell_on bw11 hHeld.2.2.2.2.1, cell_on bw11 hHeld.2.2.2.2.2.1, cell_on bw11 hHeld.2.2.2.2.2.2.1, also hHeld.2.2.2.2.2.2.2 bw11⟩ | exact ⟨cell_on bw10 hHeld.1, cell_on bw10 hHeld.2.1, cell_on bw10 hHeld.2.2.1, cell_on bw10 hHeld.2.2.2.1, cell_on bw10 hHeld.2.2.2.2.1, cell_on bw10 hHeld.2.2.2.2.2.1, cell_on bw10 hHeld.2.2.2.2.2.2.1, also hHeld.2.2.2.2.2.2.2 bw10⟩ | exact ⟨cell_on bw9 hHeld.1, cell_on bw9 hHeld.2.1, cell_on bw9 hHeld.2.2.1, cell_on bw9 hHeld.2.2.2.1, cell_on bw9 hHeld.2.2.2.2.1, cell_on bw9 hHeld.2.2.2.2.2.1, cell_on bw9 hHeld.2.2.2.2.2.2.1, also hHeld.2.2.2.2.2.2.2 bw9⟩ | exact ⟨cell_on bw8 hHeld.1, cell_on bw8 hHeld.2.1, cell_on bw8 hHeld.2.2.1, cell_on bw8 hHeld.2.2.2.1, cell_on bw8 hHeld.2.2.2.2.1, cell_on bw8 hHeld.2.2.2.2.2.1, cell_on bw8 hHeld.2.2.2.2.2.2.1, also hHeld.2.2.2.2.2.2.2 bw8⟩
    refine take_yes (i := 0) (v := ?vw0) rfl (by kernel_rfl) (by kernel_rfl) (by kernel_rfl) (fun _ _ _ h => h) (by rfl) (by assumption) ?hyw0 ?restw0
    case hyw0 => (intro w hSw; (try dsimp only at hSw); first | (go_simp; done) | (go_simp; with_reducible rfl))
    simp only [Act.put, List.setIfInBounds_toArray, List.set_cons_zero, List.set_cons_succ]
    refine take_yes (i := 1) (v := ?vw1) rfl (by kernel_rfl) (by kernel_rfl) (by kernel_rfl) (fun _ _ _ h => h) (by rfl) (by assumption) ?hyw1 ?restw1
    case hyw1 => (intro w hSw; (try dsimp only at hSw); first | (go_simp; done) | (go_simp; with_reducible rfl))
    simp only [Act.put, List.setIfInBounds_toArray, List.set_cons_zero, List.set_cons_succ]
    refine take_yes (i := 3) (v := ?vw3) rfl (by kernel_rfl) (by kernel_rfl) (by kernel_rfl) (fun _ _ _ h => h) (by rfl) (by assumption) ?hyw3 ?restw3
    case hyw3 => (intro w hSw; (try dsimp only at hSw); first | (go_simp; done) | (go_simp; with_reducible rfl))
    simp only [Act.put, List.setIfInBounds_toArray, List.set_cons_zero, List.set_cons_succ]
    refine take_call (i := 2) rfl (by kernel_rfl) (fun Kc hK => ?_)
    go_simp
    (go_at_call 7; refine (rwOf n a1 m1 c1 X _ q1.wi).mono ?_; rintro e w8 ⟨s8, d8, l8, c8, rfl, r8, f8, bw8⟩)
    refine hK.out _ _ ?_ (fun hHeld => ?_)
    · first | exact ⟨x_r.c0, x_r.c1, x_r.c2, x_a.c0, x_a.c1, x_y.c0, x_y.c1, BB⟩ | exact ⟨cell_on bw14 hHeld.1, cell_on bw14 hHeld.2.1, cell_on bw14 hHeld.2.2.1, cell_on bw14 hHeld.2.2.2.1, cell_on bw14 hHeld.2.2.2.2.1, cell_on bw14 hHeld.2.2.2.2.2.1, cell_on bw14 hHeld.2.2.2.2.2.2.1, also hHeld.2.2.2.2.2.2.2 bw14⟩ | exact ⟨cell_on bw13 hHeld.1, cell_on bw13 hHeld.2.1, cell_on bw13 hHeld.2.2.1, cell_on bw13 hHeld.2.2.2.1, cell_on bw13 hHeld.2.2.2.2.1, cell_on bw13 hHeld.2.2.2.2.2.1, cell_on bw13 hHeld.2.2.2.2.2.2.1, also hHeld.2.2.2.2.2.2.2 bw13⟩ | exact ⟨cell_on bw12 hHeld.1, cell_on bw12 hHeld.2.1, cell_on bw12 hHeld.2.2.1, cell_on bw12 hHeld.2.2.2.1, cell_on bw12 hHeld.2.2.2.2.1, cell_on bw12 hHeld.2.2.2.2.2.1, cell_on bw12 hHeld.2.2.2.2.2.2.1, also hHeld.2.2.2.2.2.2.2 bw12⟩ | exact ⟨cell_on bw11 hHeld.1, cell_on bw11 hHeld.2.1, cell_on bw11 hHeld.2.2.1, cell_on bw11 hHeld.2.2.2.1, cell_on bw11 hHeld.2.2.2.2.1, cell_on bw11 hHeld.2.2.2.2.2.1, cell_on bw11 hHeld.2.2.2.2.2.2.1, also hHeld.2.2.2.2.2.2.2 bw11⟩ | exact ⟨cell_on bw10 hHeld.1, cell_on bw10 hHeld.2.1, cell_on bw10 hHeld.2.2.1, cell_on bw10 hHeld.2.2.2.1, cell_on bw10 hHeld.2.2.2.2.1, cell_on bw10 hHeld.2.2.2.2.2.1, cell_on bw10 hHeld.2.2.2.2.2.2.1, also hHeld.2.2.2.2.2.2.2 bw10⟩ | exact ⟨cell_on bw9 hHeld.1, cell_on bw9 hHeld.2.1, cell_on bw9 hHeld.2.2.1, cell_on bw9 hHeld.2.2.2.1, cell_on bw9 hHeld.2.2.2.2.1, cell_on bw9 hHeld.2.2.2.2.2.1, cell_on bw9 hHeld.2.2.2.2.2.2.1, also hHeld.2.2.2.2.2.2.2 bw9⟩ | exact ⟨cell_on bw8 hHeld.1, cell_on bw8 hHeld.2.1, cell_on bw8 hHeld.2.2.1, cell_on bw8 hHeld.2.2.2.1, cell_on bw8 hHeld.2.2.2.2.1, cell_on bw8 hHeld.2.2.2.2.2.1, cell_on bw8 hHeld.2.2.2.2.2.2.1, also hHeld.2.2.2.2.2.2.2 bw8⟩
    clear hK Kc
    have zbw8 := bw8.size
    replace BB := also BB bw8
    replace x_a := x_a.on bw8
    replace x_b := x_b.on bw8
    replace q1 := q1.below bw8
    replace q2 := q2.below bw8
    replace h5 := h5.below bw8
    replace x_r := x_r.on bw8
    replace r6 := r6.below bw8
    replace x_y := x_y.on bw8
    refine take_call (i := 4) rfl (by kernel_rfl) (fun Kc hK => ?_)
    go_simp
    (go_at_call 11; refine (rqOver s8 d8 l8 c8 s6 d6 l6 c6 X Y 6 _ r8 r6 HB0.out HXs.out HYs.out (by decide) (X * Y.sign) Y.natAbs rfl rfl).mono ?_; rintro e w9 ⟨s9, d9, l9, c9, t9, g9, h9, k9, rfl, x9, r9, bw9⟩)
    refine hK.out _ _ ?_ (fun hHeld => ?_)
    · first | exact ⟨x_r.c0, x_r.c1, x_r.c2, x_a.c0, x_a.c1, x_y.c0, x_y.c1, BB⟩ | exact ⟨cell_on bw14 hHeld.1, cell_on bw14 hHeld.2.1, cell_on bw14 hHeld.2.2.1, cell_on bw14 hHeld.2.2.2.1, cell_on bw14 hHeld.2.2.2.2.1, cell_on bw14 hHeld.2.2.2.2.2.1, cell_on bw14 hHeld.2.2.2.2.2.2.1, also hHeld.2.2.2.2.2.2.2 bw14⟩ | exact ⟨cell_on bw13 hHeld.1, cell_on bw13 hHeld.2.1, cell_on bw13 hHeld.2.2.1, cell_on bw13 hHeld.2.2.2.1, cell_on bw13 hHeld.2.2.2.2.1, cell_on bw13 hHeld.2.2.2.2.2.1, cell_on bw13 hHeld.2.2.2.2.2.2.1, also hHeld.2.2.2.2.2.2.2 bw13⟩ | exact ⟨cell_on bw12 hHeld.1, cell_on bw12 hHeld.2.1, cell_on bw12 hHeld.2.2.1, cell_on bw12 hHeld.2.2.2.1, cell_on bw12 hHeld.2.2.2.2.1, cell_on bw12 hHeld.2.2.2.2.2.1, cell_on bw12 hHeld.2.2.2.2.2.2.1, also hHeld.2.2.2.2.2.2.2 bw12⟩ | exact ⟨cell_on bw11 hHeld.1, cell_on bw11 hHeld.2.1, cell_on bw11 hHeld.2.2.1, cell_on bw11 hHeld.2.2.2.1, cell_on bw11 hHeld.2.2.2.2.1, cell_on bw11 hHeld.2.2.2.2.2.1, cell_on bw11 hHeld.2.2.2.2.2.2.1, also hHeld.2.2.2.2.2.2.2 bw11⟩ | exact ⟨cell_on bw10 hHeld.1, cell_on bw10 hHeld.2.1, cell_on bw10 hHeld.2.2.1, cell_on bw10 hHeld.2.2.2.1, cell_on bw10 hHeld.2.2.2.2.1, cell_on bw10 hHeld.2.2.2.2.2.1, cell_on bw10 hHeld.2.2.2.2.2.2.1, also hHeld.2.2.2.2.2.2.2 bw10⟩ | exact ⟨cell_on bw9 hHeld.1, cell_on bw9 hHeld.2.1, cell_on bw9 hHeld.2.2.1, cell_on bw9 hHeld.2.2.2.1, cell_on bw9 hHeld.2.2.2.2.1, cell_on bw9 hHeld.2.2.2.2.2.1, cell_on bw9 hHeld.2.2.2.2.2.2.1, also hHeld.2.2.2.2.2.2.2 bw9⟩ | exact ⟨cell_on bw8 hHeld.1, cell_on bw8 hHeld.2.1, cell_on bw8 hHeld.2.2.1, cell_on bw8 hHeld.2.2.2.1, cell_on bw8 hHeld.2.2.2.2.1, cell_on bw8 hHeld.2.2.2.2.2.1, cell_on bw8 hHeld.2.2.2.2.2.2.1, also hHeld.2.2.2.2.2.2.2 bw8⟩
    clear hK Kc
    have zbw9 := bw9.size
    replace BB := also BB bw9
    replace x_a := x_a.on bw9
    replace x_b := x_b.on bw9
    replace q1 := q1.below bw9
    replace q2 := q2.below bw9
    replace h5 := h5.below bw9
    replace x_r := x_r.on bw9
    replace r6 := r6.below bw9
    replace x_y := x_y.on bw9
    replace r8 := r8.below bw9
    refine take_call (i := 5) rfl (by kernel_rfl) (fun Kc hK => ?_)
    go_simp
    (go_at_call 8; refine (rqSame n5 a5 l5 c5 d5 m5 k5 _ _ s9 d9 l9 c9 t9 g9 h9 k9 (X * Y.sign) Y.natAbs 6 _ h5 x9 rfl rfl).mono ?_; rintro e w10 ⟨rfl, bw10⟩)
    refine hK.out _ _ ?_ (fun hHeld => ?_)
    · first | exact ⟨x_r.c0, x_r.c1, x_r.c2, x_a.c0, x_a.c1, x_y.c0, x_y.c1, BB⟩ | exact ⟨cell_on bw14 hHeld.1, cell_on bw14 hHeld.2.1, cell_on bw14 hHeld.2.2.1, cell_on bw14 hHeld.2.2.2.1, cell_on bw14 hHeld.2.2.2.2.1, cell_on bw14 hHeld.2.2.2.2.2.1, cell_on bw14 hHeld.2.2.2.2.2.2.1, also hHeld.2.2.2.2.2.2.2 bw14⟩ | exact ⟨cell_on bw13 hHeld.1, cell_on bw13 hHeld.2.1, cell_on bw13 hHeld.2.2.1, cell_on bw13 hHeld.2.2.2.1, cell_on bw13 hHeld.2.2.2.2.1, cell_on bw13 hHeld.2.2.2.2.2.1, cell_on bw13 hHeld.2.2.2.2.2.2.1, also hHeld.2.2.2.2.2.2.2 bw13⟩ | exact ⟨cell_on bw12 hHeld.1, cell_on bw12 hHeld.2.1, cell_on bw12 hHeld.2.2.1, cell_on bw12 hHeld.2.2.2.1, cell_on bw12 hHeld.2.2.2.2.1, cell_on bw12 hHeld.2.2.2.2.2.1, cell_on bw12 hHeld.2.2.2.2.2.2.1, also hHeld.2.2.2.2.2.2.2 bw12⟩ | exact ⟨cell_on bw11 hHeld.1, cell_on bw11 hHeld.2.1, cell_on bw11 hHeld.2.2.1, cell_on bw11 hHeld.2.2.2.1, cell_on bw11 hHeld.2.2.2.2.1, cell_on bw11 hHeld.2.2.2.2.2.1, cell_on bw11 hHeld.2.2.2.2.2.2.1, also hHeld.2.2.2.2.2.2.2 bw11⟩ | exact ⟨cell_on bw10 hHeld.1, cell_on bw10 hHeld.2.1, cell_on bw10 hHeld.2.2.1, cell_on bw10 hHeld.2.2.2.1, cell_on bw10 hHeld.2.2.2.2.1, cell_on bw10 hHeld.2.2.2.2.2.1, cell_on bw10 hHeld.2.2.2.2.2.2.1, also hHeld.2.2.2.2.2.2.2 bw10⟩ | exact ⟨cell_on bw9 hHeld.1, cell_on bw9 hHeld.2.1, cell_on bw9 hHeld.2.2.1, cell_on bw9 hHeld.2.2.2.1, cell_on bw9 hHeld.2.2.2.2.1, cell_on bw9 hHeld.2.2.2.2.2.1, cell_on bw9 hHeld.2.2.2.2.2.2.1, also hHeld.2.2.2.2.2.2.2 bw9⟩ | exact ⟨cell_on bw8 hHeld.1, cell_on bw8 hHeld.2.1, cell_on bw8 hHeld.2.2.1, cell_on bw8 hHeld.2.2.2.1, cell_on bw8 hHeld.2.2.2.2.1, cell_on bw8 hHeld.2.2.2.2.2.1, cell_on bw8 hHeld.2.2.2.2.2.2.1, also hHeld.2.2.2.2.2.2.2 bw8⟩
    clear hK Kc
    have zbw10 := bw10.size
    replace BB := also BB bw10
    replace x_a := x_a.on bw10
    replace x_b := x_b.on bw10
    replace q1 := q1.below bw10
    replace q2 := q2.below bw10
    replace h5 := h5.below bw10
    replace x_r := x_r.on bw10
    replace r6 := r6.below bw10
    replace x_y := x_y.on bw10
    replace r8 := r8.below bw10
    replace x9 := x9.below bw10
    refine take_yes (i := 6) (v := ?vw6) rfl (by kernel_rfl) (by kernel_rfl) (by kernel_rfl) (fun _ _ _ h => h) (by rfl) (by assumption) ?hyw6 ?restw6
    case hyw6 => (intro w hSw; (try dsimp only at hSw); first | (go_simp; done) | (go_simp; with_reducible rfl))
    simp only [Act.put, List.setIfInBounds_toArray, List.set_cons_zero, List.set_cons_succ]
    refine take_yes (i := 7) (v := ?vw7) rfl (by kernel_rfl) (by kernel_rfl) (by kernel_rfl) (fun _ _ _ h => h) (by rfl) (by assumption) ?hyw7 ?restw7
    case hyw7 => (intro w hSw; (try dsimp only at hSw); first | (go_simp; done) | (go_simp; with_reducible rfl))
    simp only [Act.put, List.setIfInBounds_toArray, List.set_cons_zero, List.set_cons_succ]
    refine take_yes (i := 8) (v := ?vw8) rfl (by kernel_rfl) (by kernel_rfl) (by kernel_rfl) (fun _ _ _ h => h) (by rfl) (by assumption) ?hyw8 ?restw8
    case hyw8 => (intro w hSw; (try dsimp only at hSw); first | (go_simp; done) | (go_simp; with_reducible rfl))
    simp only [Act.put, List.setIfInBounds_toArray, List.set_cons_zero, List.set_cons_succ]
    refine take_yes (i := 9) (v := ?vw9) rfl (by kernel_rfl) (by kernel_rfl) (by kernel_rfl) (fun _ _ _ h => h) (by rfl) (by assumption) ?hyw9 ?restw9
    case hyw9 => (intro w hSw; (try dsimp only at hSw); first | (go_simp; done) | (go_simp; with_reducible rfl))
    simp only [Act.put, List.setIfInBounds_toArray, List.set_cons_zero, List.set_cons_succ]
    refine take_yes (i := 10) (v := ?vw10) rfl (by kernel_rfl) (by kernel_rfl) (by kernel_rfl) (fun _ _ _ h => h) (by rfl) (by assumption) ?hyw10 ?restw10
    case hyw10 => (intro w hSw; (try dsimp only at hSw); first | (go_simp; done) | (go_simp; with_reducible rfl))
    simp only [Act.put, List.setIfInBounds_toArray, List.set_cons_zero, List.set_cons_succ]
    refine take_yes (i := 11) (v := ?vw11) rfl (by kernel_rfl) (by kernel_rfl) (by kernel_rfl) (fun _ _ _ h => h) (by rfl) (by assumption) ?hyw11 ?restw11
    case hyw11 => (intro w hSw; (try dsimp only at hSw); first | (go_simp; done) | (go_simp; with_reducible rfl))
    simp only [Act.put, List.setIfInBounds_toArray, List.set_cons_zero, List.set_cons_succ]
    refine take_yes (i := 13) (v := ?vw13) rfl (by kernel_rfl) (by kernel_rfl) (by kernel_rfl) (fun _ _ _ h => h) (by rfl) (by assumption) ?hyw13 ?restw13
    case hyw13 => (intro w hSw; (try dsimp only at hSw); first | (go_simp; done) | (go_simp; with_reducible rfl))
    simp only [Act.put, List.setIfInBounds_toArray, List.set_cons_zero, List.set_cons_succ]
    refine take_call (i := 12) rfl (by kernel_rfl) (fun Kc hK => ?_)
    go_simp
    (go_at_call 12; refine (qOf x _ HX1.out HX2.out).mono ?_; rintro e w11 ⟨n11, a11, l11, c11, d11, m11, k11, rfl, h11, f11, e11, bw11⟩)
    refine hK.out _ _ ?_ (fun hHeld => ?_)
    · first | exact ⟨x_r.c0, x_r.c1, x_r.c2, x_a.c0, x_a.c1, x_y.c0, x_y.c1, BB⟩ | exact ⟨cell_on bw14 hHeld.1, cell_on bw14 hHeld.2.1, cell_on bw14 hHeld.2.2.1, cell_on bw14 hHeld.2.2.2.1, cell_on bw14 hHeld.2.2.2.2.1, cell_on bw14 hHeld.2.2.2.2.2.1, cell_on bw14 hHeld.2.2.2.2.2.2.1, also hHeld.2.2.2.2.2.2.2 bw14⟩ | exact ⟨cell_on bw13 hHeld.1, cell_on bw13 hHeld.2.1, cell_on bw13 hHeld.2.2.1, cell_on bw13 hHeld.2.2.2.1, cell_on bw13 hHeld.2.2.2.2.1, cell_on bw13 hHeld.2.2.2.2.2.1, cell_on bw13 hHeld.2.2.2.2.2.2.1, also hHeld.2.2.2.2.2.2.2 bw13⟩ | exact ⟨cell_on bw12 hHeld.1, cell_on bw12 hHeld.2.1, cell_on bw12 hHeld.2.2.1, cell_on bw12 hHeld.2.2.2.1, cell_on bw12 hHeld.2.2.2.2.1, cell_on bw12 hHeld.2.2.2.2.2.1, cell_on bw12 hHeld.2.2.2.2.2.2.1, also hHeld.2.2.2.2.2.2.2 bw12⟩ | exact ⟨cell_on bw11 hHeld.1, cell_on bw11 hHeld.2.1, cell_on bw11 hHeld.2.2.1, cell_on bw11 hHeld.2.2.2.1, cell_on bw11 hHeld.2.2.2.2.1, cell_on bw11 hHeld.2.2.2.2.2.1, cell_on bw11 hHeld.2.2.2.2.2.2.1, also hHeld.2.2.2.2.2.2.2 bw11⟩ | exact ⟨cell_on bw10 hHeld.1, cell_on bw10 hHeld.2.1, cell_on bw10 hHeld.2.2.1, cell_on bw10 hHeld.2.2.2.1, cell_on bw10 hHeld.2.2.2.2.1, cell_on bw10 hHeld.2.2.2.2.2.1, cell_on bw10 hHeld.2.2.2.2.2.2.1, also hHeld.2.2.2.2.2.2.2 bw10⟩ | exact ⟨cell_on bw9 hHeld.1, cell_on bw9 hHeld.2.1, cell_on bw9 hHeld.2.2.1, cell_on bw9 hHeld.2.2.2.1, cell_on bw9 hHeld.2.2.2.2.1, cell_on bw9 hHeld.2.2.2.2.2.1, cell_on bw9 hHeld.2.2.2.2.2.2.1, also hHeld.2.2.2.2.2.2.2 bw9⟩ | exact ⟨cell_on bw8 hHeld.1, cell_on bw8 hHeld.2.1, cell_on bw8 hHeld.2.2.1, cell_on bw8 hHeld.2.2.2.1, cell_on bw8 hHeld.2.2.2.2.1, cell_on bw8 hHeld.2.2.2.2.2.1, cell_on bw8 hHeld.2.2.2.2.2.2.1, also hHeld.2.2.2.2.2.2.2 bw8⟩
    clear hK Kc
    have zbw11 := bw11.size
    replace BB := also BB bw11
    replace x_a := x_a.on bw11
    replace x_b := x_b.on bw11
    replace q1 := q1.below bw11
    replace q2 := q2.below bw11
    replace h5 := h5.below bw11
    replace x_r := x_r.on bw11
    replace r6 := r6.below bw11
    replace x_y := x_y.on bw11
    replace r8 := r8.below bw11
    replace x9 := x9.below bw11
    refine take_call (i := 14) rfl (by kernel_rfl) (fun Kc hK => ?_)
    go_simp
    (go_at_call 9; refine (rqLong x _ HX1.out HX2.out).mono ?_; rintro e w12 ⟨s12, d12, l12, c12, t12, g12, h12, k12, rfl, x12, r12, bw12⟩)
    refine hK.out _ _ ?_ (fun hHeld => ?_)
    · first | exact ⟨x_r.c0, x_r.c1, x_r.c2, x_a.c0, x_a.c1, x_y.c0, x_y.c1, BB⟩ | exact ⟨cell_on bw14 hHeld.1, cell_on bw14 hHeld.2.1, cell_on bw14 hHeld.2.2.1, cell_on bw14 hHeld.2.2.2.1, cell_on bw14 hHeld.2.2.2.2.1, cell_on bw14 hHeld.2.2.2.2.2.1, cell_on bw14 hHeld.2.2.2.2.2.2.1, also hHeld.2.2.2.2.2.2.2 bw14⟩ | exact ⟨cell_on bw13 hHeld.1, cell_on bw13 hHeld.2.1, cell_on bw13 hHeld.2.2.1, cell_on bw13 hHeld.2.2.2.1, cell_on bw13 hHeld.2.2.2.2.1, cell_on bw13 hHeld.2.2.2.2.2.1, cell_on bw13 hHeld.2.2.2.2.2.2.1, also hHeld.2.2.2.2.2.2.2 bw13⟩ | exact ⟨cell_on bw12 hHeld.1, cell_on bw12 hHeld.2.1, cell_on bw12 hHeld.2.2.1, cell_on bw12 hHeld.2.2.2.1, cell_on bw12 hHeld.2.2.2.2.1, cell_on bw12 hHeld.2.2.2.2.2.1, cell_on bw12 hHeld.2.2.2.2.2.2.1, also hHeld.2.2.2.2.2.2.2 bw12⟩ | exact ⟨cell_on bw11 hHeld.1, cell_on bw11 hHeld.2.1, cell_on bw11 hHeld.2.2.1, cell_on bw11 hHeld.2.2.2.1, cell_on bw11 hHeld.2.2.2.2.1, cell_on bw11 hHeld.2.2.2.2.2.1, cell_on bw11 hHeld.2.2.2.2.2.2.1, also hHeld.2.2.2.2.2.2.2 bw11⟩ | exact ⟨cell_on bw10 hHeld.1, cell_on bw10 hHeld.2.1, cell_on bw10 hHeld.2.2.1, cell_on bw10 hHeld.2.2.2.1, cell_on bw10 hHeld.2.2.2.2.1, cell_on bw10 hHeld.2.2.2.2.2.1, cell_on bw10 hHeld.2.2.2.2.2.2.1, also hHeld.2.2.2.2.2.2.2 bw10⟩ | exact ⟨cell_on bw9 hHeld.1, cell_on bw9 hHeld.2.1, cell_on bw9 hHeld.2.2.1, cell_on bw9 hHeld.2.2.2.1, cell_on bw9 hHeld.2.2.2.2.1, cell_on bw9 hHeld.2.2.2.2.2.1, cell_on bw9 hHeld.2.2.2.2.2.2.1, also hHeld.2.2.2.2.2.2.2 bw9⟩ | exact ⟨cell_on bw8 hHeld.1, cell_on bw8 hHeld.2.1, cell_on bw8 hHeld.2.2.1, cell_on bw8 hHeld.2.2.2.1, cell_on bw8 hHeld.2.2.2.2.1, cell_on bw8 hHeld.2.2.2.2.2.1, cell_on bw8 hHeld.2.2.2.2.2.2.1, also hHeld.2.2.2.2.2.2.2 bw8⟩
    clear hK Kc
    have zbw12 := bw12.size
    replace BB := also BB bw12
    replace x_a := x_a.on bw12
    replace x_b := x_b.on bw12
    replace q1 := q1.below bw12
    replace q2 := q2.below bw12
    replace h5 := h5.below bw12
    replace x_r := x_r.on bw12
    replace r6 := r6.below bw12
    replace x_y := x_y.on bw12
    replace r8 := r8.below bw12
    replace x9 := x9.below bw12
    replace h11 := h11.below bw12
    refine take_call (i := 15) rfl (by kernel_rfl) (fun Kc hK => ?_)
    go_simp
    (go_at_call 8; refine (rqSame n11 a11 l11 c11 d11 m11 k11 x 1 s12 d12 l12 c12 t12 g12 h12 k12 x 1 2 _ h11 x12 (low_by_one x).1 (low_by_one x).2).mono ?_; rintro e w13 ⟨rfl, bw13⟩)
    refine hK.out _ _ ?_ (fun hHeld => ?_)
    · first | exact ⟨x_r.c0, x_r.c1, x_r.c2, x_a.c0, x_a.c1, x_y.c0, x_y.c1, BB⟩ | exact ⟨cell_on bw14 hHeld.1, cell_on bw14 hHeld.2.1, cell_on bw14 hHeld.2.2.1, cell_on bw14 hHeld.2.2.2.1, cell_on bw14 hHeld.2.2.2.2.1, cell_on bw14 hHeld.2.2.2.2.2.1, cell_on bw14 hHeld.2.2.2.2.2.2.1, also hHeld.2.2.2.2.2.2.2 bw14⟩ | exact ⟨cell_on bw13 hHeld.1, cell_on bw13 hHeld.2.1, cell_on bw13 hHeld.2.2.1, cell_on bw13 hHeld.2.2.2.1, cell_on bw13 hHeld.2.2.2.2.1, cell_on bw13 hHeld.2.2.2.2.2.1, cell_on bw13 hHeld.2.2.2.2.2.2.1, also hHeld.2.2.2.2.2.2.2 bw13⟩ | exact ⟨cell_on bw12 hHeld.1, cell_on bw12 hHeld.2.1, cell_on bw12 hHeld.2.2.1, cell_on bw12 hHeld.2.2.2.1, cell_on bw12 hHeld.2.2.2.2.1, cell_on bw12 hHeld.2.2.2.2.2.1, cell_on bw12 hHeld.2.2.2.2.2.2.1, also hHeld.2.2.2.2.2.2.2 bw12⟩ | exact ⟨cell_on bw11 hHeld.1, cell_on bw11 hHeld.2.1, cell_on bw11 hHeld.2.2.1, cell_on bw11 hHeld.2.2.2.1, cell_on bw11 hHeld.2.2.2.2.1, cell_on bw11 hHeld.2.2.2.2.2.1, cell_on bw11 hHeld.2.2.2.2.2.2.1, also hHeld.2.2.2.2.2.2.2 bw11⟩ | exact ⟨cell_on bw10 hHeld.1, cell_on bw10 hHeld.2.1, cell_on bw10 hHeld.2.2.1, cell_on bw10 hHeld.2.2.2.1, cell_on bw10 hHeld.2.2.2.2.1, cell_on bw10 hHeld.2.2.2.2.2.1, cell_on bw10 hHeld.2.2.2.2.2.2.1, also hHeld.2.2.2.2.2.2.2 bw10⟩ | exact ⟨cell_on bw9 hHeld.1, cell_on bw9 hHeld.2.1, cell_on bw9 hHeld.2.2.1, cell_on bw9 hHeld.2.2.2.1, cell_on bw9 hHeld.2.2.2.2.1, cell_on bw9 hHeld.2.2.2.2.2.1, cell_on bw9 hHeld.2.2.2.2.2.2.1, also hHeld.2.2.2.2.2.2.2 bw9⟩ | exact ⟨cell_on bw8 hHeld.1, cell_on bw8 hHeld.2.1, cell_on bw8 hHeld.2.2.1, cell_on bw8 hHeld.2.2.2.1, cell_on bw8 hHeld.2.2.2.2.1, cell_on bw8 hHeld.2.2.2.2.2.1, cell_on bw8 hHeld.2.2.2.2.2.2.1, also hHeld.2.2.2.2.2.2.2 bw8⟩
    clear hK Kc
    have zbw13 := bw13.size
    replace BB := also BB bw13
    replace x_a := x_a.on bw13
    replace x_b := x_b.on bw13
    replace q1 := q1.below bw13
    replace q2 := q2.below bw13
    replace h5 := h5.below bw13
    replace x_r := x_r.on bw13
    replace r6 := r6.below bw13
    replace x_y := x_y.on bw13
    replace r8 := r8.below bw13
    replace x9 := x9.below bw13
    replace h11 := h11.below bw13
    replace x12 := x12.below bw13
    refine take_yes (i := 16) (v := ?vw16) rfl (by kernel_rfl) (by kernel_rfl) (by kernel_rfl) (fun _ _ _ h => h) (by rfl) (by assumption) ?hyw16 ?restw16
    case hyw16 => (intro w hSw; (try dsimp only at hSw); first | (go_simp; done) | (go_simp; with_reducible rfl))
    simp only [Act.put, List.setIfInBounds_toArray, List.set_cons_zero, List.set_cons_succ]
    refine take_yes (i := 17) (v := ?vw17) rfl (by kernel_rfl) (by kernel_rfl) (by kernel_rfl) (fun _ _ _ h => h) (by rfl) (by assumption) ?hyw17 ?restw17
    case hyw17 => (intro w hSw; (try dsimp only at hSw); first | (go_simp; done) | (go_simp; with_reducible rfl))
    simp only [Act.put, List.setIfInBounds_toArray, List.set_cons_zero, List.set_cons_succ]
    refine take_call (i := 18) rfl (by kernel_rfl) (fun Kc hK => ?_)
    go_simp
    (go_at_call 10; refine (lives5_any _).mono ?_; rintro e w14 ⟨rfl, bw14⟩)
    refine hK.out _ _ ?_ (fun hHeld => ?_)
    · first | exact ⟨x_r.c0, x_r.c1, x_r.c2, x_a.c0, x_a.c1, x_y.c0, x_y.c1, BB⟩ | exact ⟨cell_on bw14 hHeld.1, cell_on bw14 hHeld.2.1, cell_on bw14 hHeld.2.2.1, cell_on bw14 hHeld.2.2.2.1, cell_on bw14 hHeld.2.2.2.2.1, cell_on bw14 hHeld.2.2.2.2.2.1, cell_on bw14 hHeld.2.2.2.2.2.2.1, also hHeld.2.2.2.2.2.2.2 bw14⟩ | exact ⟨cell_on bw13 hHeld.1, cell_on bw13 hHeld.2.1, cell_on bw13 hHeld.2.2.1, cell_on bw13 hHeld.2.2.2.1, cell_on bw13 hHeld.2.2.2.2.1, cell_on bw13 hHeld.2.2.2.2.2.1, cell_on bw13 hHeld.2.2.2.2.2.2.1, also hHeld.2.2.2.2.2.2.2 bw13⟩ | exact ⟨cell_on bw12 hHeld.1, cell_on bw12 hHeld.2.1, cell_on bw12 hHeld.2.2.1, cell_on bw12 hHeld.2.2.2.1, cell_on bw12 hHeld.2.2.2.2.1, cell_on bw12 hHeld.2.2.2.2.2.1, cell_on bw12 hHeld.2.2.2.2.2.2.1, also hHeld.2.2.2.2.2.2.2 bw12⟩ | exact ⟨cell_on bw11 hHeld.1, cell_on bw11 hHeld.2.1, cell_on bw11 hHeld.2.2.1, cell_on bw11 hHeld.2.2.2.1, cell_on bw11 hHeld.2.2.2.2.1, cell_on bw11 hHeld.2.2.2.2.2.1, cell_on bw11 hHeld.2.2.2.2.2.2.1, also hHeld.2.2.2.2.2.2.2 bw11⟩ | exact ⟨cell_on bw10 hHeld.1, cell_on bw10 hHeld.2.1, cell_on bw10 hHeld.2.2.1, cell_on bw10 hHeld.2.2.2.1, cell_on bw10 hHeld.2.2.2.2.1, cell_on bw10 hHeld.2.2.2.2.2.1, cell_on bw10 hHeld.2.2.2.2.2.2.1, also hHeld.2.2.2.2.2.2.2 bw10⟩ | exact ⟨cell_on bw9 hHeld.1, cell_on bw9 hHeld.2.1, cell_on bw9 hHeld.2.2.1, cell_on bw9 hHeld.2.2.2.1, cell_on bw9 hHeld.2.2.2.2.1, cell_on bw9 hHeld.2.2.2.2.2.1, cell_on bw9 hHeld.2.2.2.2.2.2.1, also hHeld.2.2.2.2.2.2.2 bw9⟩ | exact ⟨cell_on bw8 hHeld.1, cell_on bw8 hHeld.2.1, cell_on bw8 hHeld.2.2.1, cell_on bw8 hHeld.2.2.2.1, cell_on bw8 hHeld.2.2.2.2.1, cell_on bw8 hHeld.2.2.2.2.2.1, cell_on bw8 hHeld.2.2.2.2.2.2.1, also hHeld.2.2.2.2.2.2.2 bw8⟩
    clear hK Kc
    have zbw14 := bw14.size
    replace BB := also BB bw14
    replace x_a := x_a.on bw14
    replace x_b := x_b.on bw14
    replace q1 := q1.below bw14
    replace q2 := q2.below bw14
    replace h5 := h5.below bw14
    replace x_r := x_r.on bw14
    replace r6 := r6.below bw14
    replace x_y := x_y.on bw14
    replace r8 := r8.below bw14
    replace x9 := x9.below bw14
    replace h11 := h11.below bw14
    replace x12 := x12.below bw14
    refine take_yes (i := 19) (v := ?vw19) rfl (by kernel_rfl) (by kernel_rfl) (by kernel_rfl) (fun _ _ _ h => h) (by rfl) (by assumption) ?hyw19 ?restw19
    case hyw19 => (intro w hSw; (try dsimp only at hSw); first | (go_simp; done) | (go_simp; with_reducible rfl))
    simp only [Act.put, List.setIfInBounds_toArray, List.set_cons_zero, List.set_cons_succ]
    refine take_yes (i := 20) (v := ?vw20) rfl (by kernel_rfl) (by kernel_rfl) (by kernel_rfl) (fun _ _ _ h => h) (by rfl) (by assumption) ?hyw20 ?restw20
    case hyw20 => (intro w hSw; (try dsimp only at hSw); first | (go_simp; done) | (go_simp; with_reducible rfl))
    simp only [Act.put, List.setIfInBounds_toArray, List.set_cons_zero, List.set_cons_succ]
    refine wpAnyH_done (by kernel_rfl) ?_ _
    go_wp2
    go_ret
    exact ⟨rfl, BB⟩
theorem own : ownKnob Tryd.prog.godebug = none := by kernel_rfl
set_option maxRecDepth 100000 in
theorem lifted (os : Os) (started : os.Started) (H : Type) (enc : TypeId × Value → H) :
    ReturnsInHanded {} Tryd.checked os 3 .any (fun w args => (Rows.ratMakesSpec.pre enc Tryd.prog Tryd.f3 [] false w args ∧ laidMetH Tryd.prog Rows.ratMakesRow.laid w) ∧ sizedMet enc Tryd.prog Tryd.f3 (OpenSpec.ofChange Rows.ratMakesSpec) false w args)
      (Rows.ratMakesSpec.post enc Tryd.prog Tryd.f3 false true false false) := by
  refine returnsInHanded_of_change_and (C := Tryd.checked) (X := fun w _ => laidMetH Tryd.prog Rows.ratMakesRow.laid w) (fun _ _ _ hh h => h.of_heap hh) own started (by kernel_rfl) Tryd.func3
    (ChangeSpec.witness_shaped (enc := enc) (C := Tryd.checked) (os := os) (X := fun w _ => laidMetH Tryd.prog Rows.ratMakesRow.laid w) false (World.laidAll Tryd.prog os Rows.ratMakesRow.laid) #[.agg #[.bool false, .slice none 0 0], .agg #[.bool false, .slice none 0 0], .int .i64 0] 8 (World.laidAll_os _ _ _)
      (World.shaped_of_ZipB (by kernel_rfl) (by kernel_rfl)) (by kernel_rfl) (by kernel_rfl) (by kernel_rfl)
      (by rw [MakeChecks.laidMetH_plain _ _ _ (by kernel_rfl)]; exact laidMet_laidAll _ (by kernel_rfl) (by kernel_rfl))) ?_
  intro W base args ds gs before hval0 hW _ _ hL _
  have hval : ∀ (j : Nat) t v, Tryd.f3.params[j]? = some t → args[j]? = some v → Value.okWide Tryd.prog W .any base t v := hval0
  have hW' := hW
  obtain ⟨p, q, hA0, hV, rfl, hfz, hnd⟩ := hW
  have hA : DataW.TrodAll enc Tryd.prog W 0 (fun _ => true) true Tryd.f3.params.toList args.toList ds p := hA0
  rw [Tryd.params3] at hA hval
  obtain ⟨v0, vs0, d0, ds0, p0, q0, hargs, rfl, rfl, h0, r0⟩ := trodAll_cons hA
  obtain ⟨v1, vs1, d1, ds1, p1, q1, rfl, rfl, rfl, h1, r1⟩ := trodAll_cons r0
  obtain ⟨v2, vs2, d2, ds2, p2, q2, rfl, rfl, rfl, h2, r2⟩ := trodAll_cons r1
  obtain ⟨rfl, rfl, rfl⟩ := trodAll_nil r2
  obtain rfl : args = #[v0, v1, v2] := by cases args; simp_all
  obtain ⟨rfl, rfl⟩ := trodVars_none hV
  have hlt : ∀ x ∈ p0 ++ p1 ++ p2, x.block < W.heap.size := fun x hx => by simpa using hW'.lt x (by simpa using hx)
  have h0k := h0
  obtain ⟨n0, a0, l0, c0, u0, rfl, hu0, hs0⟩ := int_view (hval 0 25 v0 rfl rfl) h0 (fun b o h => hfz b o (by simp [h])) (fun x hx => hlt x (by simp [hx]))
  have h1k := h1
  obtain ⟨n1, a1, l1, c1, u1, rfl, hu1, hs1⟩ := int_view (hval 1 25 v1 rfl rfl) h1 (fun b o h => hfz b o (by simp [h])) (fun x hx => hlt x (by simp [hx]))
  obtain ⟨a2, rfl, rfl, rfl, w2⟩ := open_int Tryd.underlying2 (hval 2 2 v2 rfl rfl) h2
  clear hA0 hval0
  refine (walk n0 a0 l0 c0 u0 n1 a1 l1 c1 u1 a2 W hs0 hu0 hs1 hu1 (bd_i64 w2).1 (bd_i64 w2).2).mono fun e W' ⟨he, bel⟩ => ?_
  subst he
  exact ⟨_, rfl, _, _, _, [], _, [], hW', trodAll_mk1 (shut_bool Tryd.underlying4 _), (trodAll_cons_mk (Below.trod laidOutAll (by kernel_rfl) (of_decide_eq_true (by kernel_rfl)) h0k bel (fun x hx => hlt x (by simp [hx]))) (trodAll_cons_mk (Below.trod laidOutAll (by kernel_rfl) (of_decide_eq_true (by kernel_rfl)) h1k bel (fun x hx => hlt x (by simp [hx]))) (trodAll_cons_mk (shut_int Tryd.underlying2 w2) trodAll_mk0))), rfl, bel.frame _, fun h => by cases h⟩

theorem said : Rows.RatMakesSaid :=
  OpenClaim.holds_of_wide 3 Tryd.f3 rfl rfl rfl rfl rfl rfl rfl ⟨rfl, rfl, rfl, rfl, rfl⟩ rfl rfl rfl rfl rfl (by kernel_rfl) Tryd.func3 (by kernel_rfl)
    (of_decide_eq_true (by kernel_rfl)) (by unfold Func.isWrapper; first | (rw [if_pos (by decide +kernel)]; kernel_rfl) | (rw [if_neg (by decide +kernel)]; exact ⟨rfl, rfl⟩))
    (fun os started H enc _ => lifted os started H enc)
/-- The program's own looks are off, and no parameter wants a stand-in: what the card asks. -/
theorem plain (f : FuncId) (fn : Func) (hf : Tryd.pinned.checked.prog.funcNamed "zellige/zelligelaw05.RatMakes" = some f) (hfn : Tryd.pinned.checked.prog.funcs[f]? = some fn) :
    false = Tryd.pinned.checked.prog.looks [] ∧ ∀ (j : Nat) t, fn.params[j]? = some t → Tryd.pinned.checked.prog.wantsStandIn t = false := by
  obtain rfl : f = 3 := Option.some.inj ((show Tryd.prog.funcNamed "zellige/zelligelaw05.RatMakes" = some 3 by kernel_rfl).symm.trans hf) |>.symm
  obtain rfl : fn = Tryd.f3 := (Option.some.inj (Tryd.func3.symm.trans hfn)).symm
  refine ⟨by kernel_rfl, fun j t ht => ?_⟩
  rw [Tryd.params3] at ht
  have hm : t ∈ [25, 25, 2] := by simpa using Array.mem_of_getElem? ht
  have hall : ([25, 25, 2].all fun u => !Tryd.prog.wantsStandIn u) = true := by kernel_rfl
  exact (show Tryd.prog.wantsStandIn t = false by simpa using List.all_eq_true.1 hall t hm)
/-- The statement: the card. -/
theorem proved : Rows.RatMakesCardSaid :=
  Claim7.holds_tied_plain_at .later [] _ _ _ _ said (fun _ h => by cases h) (by kernel_rfl) (fun _ h => by cases h) ratMakes_row_tie rfl ⟨rfl, rfl⟩ (by kernel_rfl) rfl plain (by kernel_rfl)
#print axioms proved
end rmakes
end Go.Proofs.YtaekgomplkkocaaDoor
