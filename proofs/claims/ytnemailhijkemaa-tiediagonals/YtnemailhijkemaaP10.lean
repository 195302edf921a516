/-
  Joined texts, part 10:
  What zelligeref07's diff, Area and Dist answer.
  What zelligeref07's near, sign, Orient and flat answer.
-/
import Derived.Test.YtnemailhijkemaaP9
import Derived.Test.YtnemailhijkemaaP2
import Derived.Test.YtnemailhijkemaaP4
import Derived.Test.YtnemailhijkemaaP3
namespace Go.Proofs.Ytnemailhijkemaa
open Go.RowKit
set_option linter.unusedVariables false

theorem few_num {z : Int} (h : z.natAbs ≤ 1000000000000000000000000000000000000000000000000000000000000) : hf.nlen z.natAbs ≤ 1000000 := hfew (K := 7) (Nat.lt_of_le_of_lt h (by decide)) (by decide)
theorem fieldS (s : Int) (d : Option Addr) (l c : Nat) (w : World) : (Instr.field 42 (.agg #[.int .i64 s, .slice d l c]) 0).run Try.prog w = .ok (.int .i64 s) w := by simp [Instr.field, go_sem, asAgg]
def R64 (x : Int) : Prop := -9223372036854775808 ≤ x ∧ x ≤ 9223372036854775807
theorem in_64 {x : Int} (h : inC x = true) : R64 x := by have := inC_true.1 h; exact ⟨by omega, by omega⟩
set_option maxRecDepth 100000 in
theorem rpDiff (a b : Int) (w : World) (ha : R64 a) (hb : R64 b) {z : Int} (hz : z = b - a) : Calls Try.prog 39 #[.int .i64 a, .int .i64 b] w (GotR w (fun _ => True) z) := by
  have FA : Hid _ := few_i64 ha
  have FB : Hid _ := few_i64 hb
  have HA : Hid _ := ha
  have HB : Hid _ := hb
  have HZ : Hid _ := hz
  clear ha hb hz
  obtain ⟨W, hW, bW, x_r, sW⟩ := bs_2 w (.int .i64 0) (.slice none 0 0) 42
  have zbW := bW.size
  have BB := bW
  go_enter Try.func39, Try.ntmps39
  go_wp2_with (go_at_call 27; fail)
  rw [← hW]
  clear hW
  refine (rwLong b W HB.out.1 HB.out.2).mono ?_
  rintro e w1 ⟨s1, d1, l1, c1, rfl, r1, f1, bw1⟩
  have zbw1 := bw1.size
  replace BB := also BB bw1
  replace x_r := x_r.on bw1
  go_wp2_with (go_at_call 27; fail)
  refine (rwLong a w1 HA.out.1 HA.out.2).mono ?_
  rintro e w2 ⟨s2, d2, l2, c2, rfl, r2, f2, bw2⟩
  have zbw2 := bw2.size
  replace BB := also BB bw2
  replace x_r := x_r.on bw2
  replace r1 := r1.below bw2
  go_wp2_with (go_at_call 42; fail)
  refine (rwSub s1 s2 d1 d2 l1 c1 l2 c2 b a z w2 r1 r2 FB.out FA.out HZ.out).mono ?_
  rintro e w3 ⟨s3, d3, l3, c3, rfl, r3, f3, bw3⟩
  have zbw3 := bw3.size
  replace BB := also BB bw3
  replace x_r := x_r.on bw3
  replace r1 := r1.below bw3
  replace r2 := r2.below bw3
  have ⟨x_r_0, x_r_1, x_r_2, x_r_3⟩ := x_r
  go_wp2
  exact bodyPost_ret (v := .agg #[.int .i64 s3, .slice d3 l3 c3]) (by simp [results, Try.results39, go_sem, *]) rfl (endR _ (by omega) BB r3 (f3 _ (by omega) ⟨f1 _ (by omega) trivial, f2 _ (by omega) trivial⟩) (fun j hj _ => f3 j (by omega) ⟨f1 j (by omega) trivial, f2 j (by omega) trivial⟩) _ _)
set_option maxRecDepth 100000 in
set_option maxHeartbeats 4000000 in
theorem rpArea (a1 a2 b1 b2 c1 c2 : Int) (w : World) (ha : canC a1 a2 = true) (hb : canC b1 b2 = true) (hc : canC c1 c2 = true) {z : Int} (hz : z = areaP a1 a2 b1 b2 c1 c2) : Calls Try.prog 25 #[.agg #[.int .i64 a1, .int .i64 a2], .agg #[.int .i64 b1, .int .i64 b2], .agg #[.int .i64 c1, .int .i64 c2]] w (GotR w (fun _ => True) z) := by
  have Ra1 : Hid _ := in_64 (canC_true.1 ha).1
  have Ra2 : Hid _ := in_64 (canC_true.1 ha).2
  have Rb1 : Hid _ := in_64 (canC_true.1 hb).1
  have Rb2 : Hid _ := in_64 (canC_true.1 hb).2
  have Rc1 : Hid _ := in_64 (canC_true.1 hc).1
  have Rc2 : Hid _ := in_64 (canC_true.1 hc).2
  have qx := can_diff (canC_true.1 hb).1 (canC_true.1 ha).1
  have qy := can_diff (canC_true.1 hc).2 (canC_true.1 ha).2
  have qu := can_diff (canC_true.1 hb).2 (canC_true.1 ha).2
  have qv := can_diff (canC_true.1 hc).1 (canC_true.1 ha).1
  obtain ⟨x, hx⟩ : ∃ z : Int, z = b1 - a1 := ⟨_, rfl⟩
  have Ex : Hid _ := hx
  obtain ⟨y, hy⟩ : ∃ z : Int, z = c2 - a2 := ⟨_, rfl⟩
  have Ey : Hid _ := hy
  obtain ⟨u, hu⟩ : ∃ z : Int, z = b2 - a2 := ⟨_, rfl⟩
  have Eu : Hid _ := hu
  obtain ⟨v, hv⟩ : ∃ z : Int, z = c1 - a1 := ⟨_, rfl⟩
  have Ev : Hid _ := hv
  obtain ⟨p, hp⟩ : ∃ z : Int, z = x * y := ⟨_, rfl⟩
  have Ep : Hid _ := hp
  obtain ⟨q, hq⟩ : ∃ z : Int, z = u * v := ⟨_, rfl⟩
  have Eq : Hid _ := hq
  have HZ : Hid (z = p - q) := by unfold Hid; rw [hz, hp, hq, hx, hy, hu, hv]; rfl
  rw [← hx] at qx
  have Fx : Hid _ := few_num (z := x) (by omega)
  rw [← hy] at qy
  have Fy : Hid _ := few_num (z := y) (by omega)
  rw [← hu] at qu
  have Fu : Hid _ := few_num (z := u) (by omega)
  rw [← hv] at qv
  have Fv : Hid _ := few_num (z := v) (by omega)
  have qp := prod_abs qx qy
  have qq := prod_abs qu qv
  rw [← hp] at qp
  rw [← hq] at qq
  have Fp : Hid _ := few_num (z := p) (by omega)
  have Fq : Hid _ := few_num (z := q) (by omega)
  clear hz hx hy hu hv hp hq qx qy qu qv qp qq ha hb hc
  obtain ⟨W, hW, bW, x_a, x_b, x_c, x_r, sW⟩ := bs_2222 w (.int .i64 a1) (.int .i64 a2) (.int .i64 b1) (.int .i64 b2) (.int .i64 c1) (.int .i64 c2) (.int .i64 0) (.slice none 0 0) 23 23 23 42
  have zbW := bW.size
  have BB := bW
  go_enter Try.func25, Try.ntmps25
  go_wp2
  rw [← hW]
  clear hW
  have dd1 : Below W.heap.size W W.drew := (Below.refl _ _).drew
  have zdd1 := dd1.size
  replace BB := also BB dd1
  replace x_a := x_a.on dd1
  replace x_b := x_b.on dd1
  replace x_c := x_c.on dd1
  replace x_r := x_r.on dd1
  refine wp_region_held_drew (S := (fun w' => w'.cell? ⟨w.heap.size, 0, none⟩ = some (.int .i64 a1) ∧ w'.cell? ⟨w.heap.size, 1, none⟩ = some (.int .i64 a2) ∧ w'.cell? ⟨w.heap.size + 1, 0, none⟩ = some (.int .i64 b1) ∧ w'.cell? ⟨w.heap.size + 1, 1, none⟩ = some (.int .i64 b2) ∧ w'.cell? ⟨w.heap.size + 1 + 1, 0, none⟩ = some (.int .i64 c1) ∧ w'.cell? ⟨w.heap.size + 1 + 1, 1, none⟩ = some (.int .i64 c2) ∧ Below w.heap.size w w')) (by kernel_rfl) ?_ (fun hHeld => ?_)
  · exact ⟨x_a.c0, x_a.c1, x_b.c0, x_b.c1, x_c.c0, x_c.c1, BB⟩
  refine take_yes (i := 0) (v := ?vs0) rfl (by kernel_rfl) (by kernel_rfl) (by kernel_rfl) (fun _ _ _ h => h) (by rfl) (by assumption) ?hys0 ?rests0
  case hys0 => (intro w hSw; (try dsimp only at hSw); first | (go_simp; done) | (go_simp; with_reducible rfl))
  simp only [Act.put, List.setIfInBounds_toArray, List.set_cons_zero, List.set_cons_succ]
  refine take_yes (i := 1) (v := ?vs1) rfl (by kernel_rfl) (by kernel_rfl) (by kernel_rfl) (fun _ _ _ h => h) (by rfl) (by assumption) ?hys1 ?rests1
  case hys1 => (intro w hSw; (try dsimp only at hSw); first | (go_simp; done) | (go_simp; with_reducible rfl))
  simp only [Act.put, List.setIfInBounds_toArray, List.set_cons_zero, List.set_cons_succ]
  refine take_yes (i := 2) (v := ?vs2) rfl (by kernel_rfl) (by kernel_rfl) (by kernel_rfl) (fun _ _ _ h => h) (by rfl) (by assumption) ?hys2 ?rests2
  case hys2 => (intro w hSw; (try dsimp only at hSw); first | (go_simp; done) | (go_simp; with_reducible rfl))
  simp only [Act.put, List.setIfInBounds_toArray, List.set_cons_zero, List.set_cons_succ]
  refine take_yes (i := 3) (v := ?vs3) rfl (by kernel_rfl) (by kernel_rfl) (by kernel_rfl) (fun _ _ _ h => h) (by rfl) (by assumption) ?hys3 ?rests3
  case hys3 => (intro w hSw; (try dsimp only at hSw); first | (go_simp; done) | (go_simp; with_reducible rfl))
  simp only [Act.put, List.setIfInBounds_toArray, List.set_cons_zero, List.set_cons_succ]
  refine take_yes (i := 5) (v := ?vs5) rfl (by kernel_rfl) (by kernel_rfl) (by kernel_rfl) (fun _ _ _ h => h) (by rfl) (by assumption) ?hys5 ?rests5
  case hys5 => (intro w hSw; (try dsimp only at hSw); first | (go_simp; done) | (go_simp; with_reducible rfl))
  simp only [Act.put, List.setIfInBounds_toArray, List.set_cons_zero, List.set_cons_succ]
  refine take_yes (i := 6) (v := ?vs6) rfl (by kernel_rfl) (by kernel_rfl) (by kernel_rfl) (fun _ _ _ h => h) (by rfl) (by assumption) ?hys6 ?rests6
  case hys6 => (intro w hSw; (try dsimp only at hSw); first | (go_simp; done) | (go_simp; with_reducible rfl))
  simp only [Act.put, List.setIfInBounds_toArray, List.set_cons_zero, List.set_cons_succ]
  refine take_yes (i := 7) (v := ?vs7) rfl (by kernel_rfl) (by kernel_rfl) (by kernel_rfl) (fun _ _ _ h => h) (by rfl) (by assumption) ?hys7 ?rests7
  case hys7 => (intro w hSw; (try dsimp only at hSw); first | (go_simp; done) | (go_simp; with_reducible rfl))
  simp only [Act.put, List.setIfInBounds_toArray, List.set_cons_zero, List.set_cons_succ]
  refine take_yes (i := 8) (v := ?vs8) rfl (by kernel_rfl) (by kernel_rfl) (by kernel_rfl) (fun _ _ _ h => h) (by rfl) (by assumption) ?hys8 ?rests8
  case hys8 => (intro w hSw; (try dsimp only at hSw); first | (go_simp; done) | (go_simp; with_reducible rfl))
  simp only [Act.put, List.setIfInBounds_toArray, List.set_cons_zero, List.set_cons_succ]
  refine take_yes (i := 11) (v := ?vs11) rfl (by kernel_rfl) (by kernel_rfl) (by kernel_rfl) (fun _ _ _ h => h) (by rfl) (by assumption) ?hys11 ?rests11
  case hys11 => (intro w hSw; (try dsimp only at hSw); first | (go_simp; done) | (go_simp; with_reducible rfl))
  simp only [Act.put, List.setIfInBounds_toArray, List.set_cons_zero, List.set_cons_succ]
  refine take_yes (i := 12) (v := ?vs12) rfl (by kernel_rfl) (by kernel_rfl) (by kernel_rfl) (fun _ _ _ h => h) (by rfl) (by assumption) ?hys12 ?rests12
  case hys12 => (intro w hSw; (try dsimp only at hSw); first | (go_simp; done) | (go_simp; with_reducible rfl))
  simp only [Act.put, List.setIfInBounds_toArray, List.set_cons_zero, List.set_cons_succ]
  refine take_yes (i := 13) (v := ?vs13) rfl (by kernel_rfl) (by kernel_rfl) (by kernel_rfl) (fun _ _ _ h => h) (by rfl) (by assumption) ?hys13 ?rests13
  case hys13 => (intro w hSw; (try dsimp only at hSw); first | (go_simp; done) | (go_simp; with_reducible rfl))
  simp only [Act.put, List.setIfInBounds_toArray, List.set_cons_zero, List.set_cons_succ]
  refine take_yes (i := 14) (v := ?vs14) rfl (by kernel_rfl) (by kernel_rfl) (by kernel_rfl) (fun _ _ _ h => h) (by rfl) (by assumption) ?hys14 ?rests14
  case hys14 => (intro w hSw; (try dsimp only at hSw); first | (go_simp; done) | (go_simp; with_reducible rfl))
  simp only [Act.put, List.setIfInBounds_toArray, List.set_cons_zero, List.set_cons_succ]
  refine take_yes (i := 16) (v := ?vs16) rfl (by kernel_rfl) (by kernel_rfl) (by kernel_rfl) (fun _ _ _ h => h) (by rfl) (by assumption) ?hys16 ?rests16
  case hys16 => (intro w hSw; (try dsimp only at hSw); first | (go_simp; done) | (go_simp; with_reducible rfl))
  simp only [Act.put, List.setIfInBounds_toArray, List.set_cons_zero, List.set_cons_succ]
  refine take_yes (i := 17) (v := ?vs17) rfl (by kernel_rfl) (by kernel_rfl) (by kernel_rfl) (fun _ _ _ h => h) (by rfl) (by assumption) ?hys17 ?rests17
  case hys17 => (intro w hSw; (try dsimp only at hSw); first | (go_simp; done) | (go_simp; with_reducible rfl))
  simp only [Act.put, List.setIfInBounds_toArray, List.set_cons_zero, List.set_cons_succ]
  refine take_yes (i := 18) (v := ?vs18) rfl (by kernel_rfl) (by kernel_rfl) (by kernel_rfl) (fun _ _ _ h => h) (by rfl) (by assumption) ?hys18 ?rests18
  case hys18 => (intro w hSw; (try dsimp only at hSw); first | (go_simp; done) | (go_simp; with_reducible rfl))
  simp only [Act.put, List.setIfInBounds_toArray, List.set_cons_zero, List.set_cons_succ]
  refine take_yes (i := 19) (v := ?vs19) rfl (by kernel_rfl) (by kernel_rfl) (by kernel_rfl) (fun _ _ _ h => h) (by rfl) (by assumption) ?hys19 ?rests19
  case hys19 => (intro w hSw; (try dsimp only at hSw); first | (go_simp; done) | (go_simp; with_reducible rfl))
  simp only [Act.put, List.setIfInBounds_toArray, List.set_cons_zero, List.set_cons_succ]
  refine take_call (i := 4) rfl (by kernel_rfl) (fun Kc hK => ?_)
  go_simp
  (go_at_call 39; refine (rpDiff a1 b1 _ Ra1.out Rb1.out Ex.out).mono ?_; rintro e w1 ⟨s11, d11, l11, c11, rfl, r11, f11, bw1⟩)
  refine hK.out _ _ ?_ (fun hHeld => ?_)
  · exact ⟨cell_on bw1 hHeld.1, cell_on bw1 hHeld.2.1, cell_on bw1 hHeld.2.2.1, cell_on bw1 hHeld.2.2.2.1, cell_on bw1 hHeld.2.2.2.2.1, cell_on bw1 hHeld.2.2.2.2.2.1, also hHeld.2.2.2.2.2.2 bw1⟩
  clear hK Kc
  have zbw1 := bw1.size
  replace BB := also BB bw1
  replace x_a := x_a.on bw1
  replace x_b := x_b.on bw1
  replace x_c := x_c.on bw1
  replace x_r := x_r.on bw1
  refine take_call (i := 9) rfl (by kernel_rfl) (fun Kc hK => ?_)
  go_simp
  (go_at_call 39; refine (rpDiff a2 c2 _ Ra2.out Rc2.out Ey.out).mono ?_; rintro e w2 ⟨s12, d12, l12, c12, rfl, r12, f12, bw2⟩)
  refine hK.out _ _ ?_ (fun hHeld => ?_)
  · exact ⟨cell_on bw2 hHeld.1, cell_on bw2 hHeld.2.1, cell_on bw2 hHeld.2.2.1, cell_on bw2 hHeld.2.2.2.1, cell_on bw2 hHeld.2.2.2.2.1, cell_on bw2 hHeld.2.2.2.2.2.1, also hHeld.2.2.2.2.2.2 bw2⟩
  clear hK Kc
  have zbw2 := bw2.size
  replace BB := also BB bw2
  replace x_a := x_a.on bw2
  replace x_b := x_b.on bw2
  replace x_c := x_c.on bw2
  replace x_r := x_r.on bw2
  replace r11 := r11.below bw2
  refine take_call (i := 10) rfl (by kernel_rfl) (fun Kc hK => ?_)
  go_simp
  (go_at_call 40; refine (rwMul s11 s12 d11 d12 l11 c11 l12 c12 x y p _ r11 r12 Fx.out Fy.out Ep.out).mono ?_; rintro e w3 ⟨s13, d13, l13, c13, rfl, r13, f13, bw3⟩)
  refine hK.out _ _ ?_ (fun hHeld => ?_)
  · exact ⟨cell_on bw3 hHeld.1, cell_on bw3 hHeld.2.1, cell_on bw3 hHeld.2.2.1, cell_on bw3 hHeld.2.2.2.1, cell_on bw3 hHeld.2.2.2.2.1, cell_on bw3 hHeld.2.2.2.2.2.1, also hHeld.2.2.2.2.2.2 bw3⟩
  clear hK Kc
  have zbw3 := bw3.size
  replace BB := also BB bw3
  replace x_a := x_a.on bw3
  replace x_b := x_b.on bw3
  replace x_c := x_c.on bw3
  replace x_r := x_r.on bw3
  replace r11 := r11.below bw3
  replace r12 := r12.below bw3
  refine take_call (i := 15) rfl (by kernel_rfl) (fun Kc hK => ?_)
  go_simp
  (go_at_call 39; refine (rpDiff a2 b2 _ Ra2.out Rb2.out Eu.out).mono ?_; rintro e w4 ⟨s14, d14, l14, c14, rfl, r14, f14, bw4⟩)
  refine hK.out _ _ ?_ (fun hHeld => ?_)
  · exact ⟨cell_on bw4 hHeld.1, cell_on bw4 hHeld.2.1, cell_on bw4 hHeld.2.2.1, cell_on bw4 hHeld.2.2.2.1, cell_on bw4 hHeld.2.2.2.2.1, cell_on bw4 hHeld.2.2.2.2.2.1, also hHeld.2.2.2.2.2.2 bw4⟩
  clear hK Kc
  have zbw4 := bw4.size
  replace BB := also BB bw4
  replace x_a := x_a.on bw4
  replace x_b := x_b.on bw4
  replace x_c := x_c.on bw4
  replace x_r := x_r.on bw4
  replace r11 := r11.below bw4
  replace r12 := r12.below bw4
  replace r13 := r13.below bw4
  refine take_call (i := 20) rfl (by kernel_rfl) (fun Kc hK => ?_)
  go_simp
  (go_at_call 39; refine (rpDiff a1 c1 _ Ra1.out Rc1.out Ev.out).mono ?_; rintro e w5 ⟨s15, d15, l15, c15, rfl, r15, f15, bw5⟩)
  refine hK.out _ _ ?_ (fun hHeld => ?_)
  · exact ⟨cell_on bw5 hHeld.1, cell_on bw5 hHeld.2.1, cell_on bw5 hHeld.2.2.1, cell_on bw5 hHeld.2.2.2.1, cell_on bw5 hHeld.2.2.2.2.1, cell_on bw5 hHeld.2.2.2.2.2.1, also hHeld.2.2.2.2.2.2 bw5⟩
  clear hK Kc
  have zbw5 := bw5.size
  replace BB := also BB bw5
  replace x_a := x_a.on bw5
  replace x_b := x_b.on bw5
  replace x_c := x_c.on bw5
  replace x_r := x_r.on bw5
  replace r11 := r11.below bw5
  replace r12 := r12.below bw5
  replace r13 := r13.below bw5
  replace r14 := r14.below bw5
  refine take_call (i := 21) rfl (by kernel_rfl) (fun Kc hK => ?_)
  go_simp
  (go_at_call 40; refine (rwMul s14 s15 d14 d15 l14 c14 l15 c15 u v q _ r14 r15 Fu.out Fv.out Eq.out).mono ?_; rintro e w6 ⟨s16, d16, l16, c16, rfl, r16, f16, bw6⟩)
  refine hK.out _ _ ?_ (fun hHeld => ?_)
  · exact ⟨cell_on bw6 hHeld.1, cell_on bw6 hHeld.2.1, cell_on bw6 hHeld.2.2.1, cell_on bw6 hHeld.2.2.2.1, cell_on bw6 hHeld.2.2.2.2.1, cell_on bw6 hHeld.2.2.2.2.2.1, also hHeld.2.2.2.2.2.2 bw6⟩
  clear hK Kc
  have zbw6 := bw6.size
  replace BB := also BB bw6
  replace x_a := x_a.on bw6
  replace x_b := x_b.on bw6
  replace x_c := x_c.on bw6
  replace x_r := x_r.on bw6
  replace r11 := r11.below bw6
  replace r12 := r12.below bw6
  replace r13 := r13.below bw6
  replace r14 := r14.below bw6
  replace r15 := r15.below bw6
  refine take_call (i := 22) rfl (by kernel_rfl) (fun Kc hK => ?_)
  go_simp
  (go_at_call 42; refine (rwSub s13 s16 d13 d16 l13 c13 l16 c16 p q z _ r13 r16 Fp.out Fq.out HZ.out).mono ?_; rintro e w7 ⟨s17, d17, l17, c17, rfl, r17, f17, bw7⟩)
  refine hK.out _ _ ?_ (fun hHeld => ?_)
  · exact ⟨cell_on bw7 hHeld.1, cell_on bw7 hHeld.2.1, cell_on bw7 hHeld.2.2.1, cell_on bw7 hHeld.2.2.2.1, cell_on bw7 hHeld.2.2.2.2.1, cell_on bw7 hHeld.2.2.2.2.2.1, also hHeld.2.2.2.2.2.2 bw7⟩
  clear hK Kc
  have zbw7 := bw7.size
  replace BB := also BB bw7
  replace x_a := x_a.on bw7
  replace x_b := x_b.on bw7
  replace x_c := x_c.on bw7
  replace x_r := x_r.on bw7
  replace r11 := r11.below bw7
  replace r12 := r12.below bw7
  replace r13 := r13.below bw7
  replace r14 := r14.below bw7
  replace r15 := r15.below bw7
  replace r16 := r16.below bw7
  have ⟨x_r_0, x_r_1, x_r_2, x_r_3⟩ := x_r
  refine take_call (i := 23) rfl (by kernel_rfl) (fun Kc hK => ?_)
  go_simp
  refine hK.out _ _ ?_ (fun hHeld => ?_)
  · first | exact ⟨cell_put2 hHeld.1 (by omega) _ _, cell_put2 hHeld.2.1 (by omega) _ _, cell_put2 hHeld.2.2.1 (by omega) _ _, cell_put2 hHeld.2.2.2.1 (by omega) _ _, cell_put2 hHeld.2.2.2.2.1 (by omega) _ _, cell_put2 hHeld.2.2.2.2.2.1 (by omega) _ _, below_put2 hHeld.2.2.2.2.2.2 (by omega) _ _⟩ | exact ⟨x_a.c0, x_a.c1, x_b.c0, x_b.c1, x_c.c0, x_c.c1, BB⟩
  clear hK Kc
  refine wpAnyH_done (by kernel_rfl) ?_ _
  go_wp2
  exact bodyPost_ret (v := .agg #[.int .i64 s17, .slice d17 l17 c17]) (by simp [results, Try.results25, go_sem, *]) rfl (endR _ (by omega) BB r17 (f17 _ (by omega) ⟨f13 _ (by omega) trivial, f16 _ (by omega) trivial⟩) (fun j hj _ => f17 j (by omega) ⟨f13 j (by omega) trivial, f16 j (by omega) trivial⟩) _ _)
def SpD (x y : Int) : Nat → Value → (World → Prop) → (Nat → Prop) → Prop
  | 0 => RNIs x
  | 1 => RNIs y
  | _ => ValIs undef
theorem SpD_good (x y : Int) : GoodSp (SpD x y) := fun j x R A h => match j with
  | 0 => rnIs_good h
  | 1 => rnIs_good h
  | k + 2 => valIs_good h
def SpDZ : Nat → List Value
  | 0 => [.int .i64 0, .slice none 0 0]
  | 1 => [.int .i64 0, .slice none 0 0]
  | _ => []
theorem fuel_SpD_b0 {bD eD : Nat → Bool} {f : Nat} (hf : f = 2 + (nb (bD 0) + nb (bD 1) + nb (eD 0) + nb (eD 1))) (h : bD 0 = false) : f - 1 = 2 + (nb (upd bD 0 true 0) + nb (upd bD 0 true 1) + nb (eD 0) + nb (eD 1)) := by
  have h1 : nb (bD 0) = 1 := by rw [h]; rfl
  have h2 : nb (upd bD 0 true 0) = 0 := rfl
  have q1 : nb (upd bD 0 true 1) = nb (bD 1) := rfl
  omega
theorem fuel_SpD_b1 {bD eD : Nat → Bool} {f : Nat} (hf : f = 2 + (nb (bD 0) + nb (bD 1) + nb (eD 0) + nb (eD 1))) (h : bD 1 = false) : f - 1 = 2 + (nb (upd bD 1 true 0) + nb (upd bD 1 true 1) + nb (eD 0) + nb (eD 1)) := by
  have h1 : nb (bD 1) = 1 := by rw [h]; rfl
  have h2 : nb (upd bD 1 true 1) = 0 := rfl
  have q0 : nb (upd bD 1 true 0) = nb (bD 0) := rfl
  omega
theorem fuel_SpD_e0 {bD eD : Nat → Bool} {f : Nat} (hf : f = 2 + (nb (bD 0) + nb (bD 1) + nb (eD 0) + nb (eD 1))) (h : eD 0 = false) : f - 1 = 2 + (nb (bD 0) + nb (bD 1) + nb (upd eD 0 true 0) + nb (upd eD 0 true 1)) := by
  have h1 : nb (eD 0) = 1 := by rw [h]; rfl
  have h2 : nb (upd eD 0 true 0) = 0 := rfl
  have q1 : nb (upd eD 0 true 1) = nb (eD 1) := rfl
  omega
theorem fuel_SpD_e1 {bD eD : Nat → Bool} {f : Nat} (hf : f = 2 + (nb (bD 0) + nb (bD 1) + nb (eD 0) + nb (eD 1))) (h : eD 1 = false) : f - 1 = 2 + (nb (bD 0) + nb (bD 1) + nb (upd eD 1 true 0) + nb (upd eD 1 true 1)) := by
  have h1 : nb (eD 1) = 1 := by rw [h]; rfl
  have h2 : nb (upd eD 1 true 1) = 0 := rfl
  have q0 : nb (upd eD 1 true 0) = nb (eD 0) := rfl
  omega
set_option maxRecDepth 100000 in
set_option maxHeartbeats 4000000 in
theorem rpDist (a1 a2 b1 b2 : Int) (w : World) (ha : canC a1 a2 = true) (hb : canC b1 b2 = true) {z : Int} (hz : z = distP a1 a2 b1 b2) : Calls Try.prog 41 #[.agg #[.int .i64 a1, .int .i64 a2], .agg #[.int .i64 b1, .int .i64 b2]] w (GotR w (fun _ => True) z) := by
  have Ra1 : Hid _ := in_64 (canC_true.1 ha).1
  have Ra2 : Hid _ := in_64 (canC_true.1 ha).2
  have Rb1 : Hid _ := in_64 (canC_true.1 hb).1
  have Rb2 : Hid _ := in_64 (canC_true.1 hb).2
  have qx := can_diff (canC_true.1 hb).1 (canC_true.1 ha).1
  have qy := can_diff (canC_true.1 hb).2 (canC_true.1 ha).2
  obtain ⟨x, hx⟩ : ∃ z : Int, z = b1 - a1 := ⟨_, rfl⟩
  have Ex : Hid _ := hx
  obtain ⟨y, hy⟩ : ∃ z : Int, z = b2 - a2 := ⟨_, rfl⟩
  have Ey : Hid _ := hy
  obtain ⟨p, hp⟩ : ∃ z : Int, z = x * x := ⟨_, rfl⟩
  have Ep : Hid _ := hp
  obtain ⟨q, hq⟩ : ∃ z : Int, z = y * y := ⟨_, rfl⟩
  have Eq : Hid _ := hq
  have HZ : Hid (z = p + q) := by unfold Hid; rw [hz, hp, hq, hx, hy]; rfl
  rw [← hx] at qx
  have Fx : Hid _ := few_num (z := x) (by omega)
  rw [← hy] at qy
  have Fy : Hid _ := few_num (z := y) (by omega)
  have qp := prod_abs qx qx
  have qq := prod_abs qy qy
  rw [← hp] at qp
  rw [← hq] at qq
  have Fp : Hid _ := few_num (z := p) (by omega)
  have Fq : Hid _ := few_num (z := q) (by omega)
  clear hz hx hy hp hq qx qy qp qq ha hb
  obtain ⟨W, hW, bW, x_a, x_b, x_r, sW⟩ := bs_222 w (.int .i64 a1) (.int .i64 a2) (.int .i64 b1) (.int .i64 b2) (.int .i64 0) (.slice none 0 0) 23 23 42
  have zbW := bW.size
  have BB := bW
  go_enter Try.func41, Try.ntmps41
  go_wp2
  rw [← hW]
  clear hW
  obtain ⟨QQ, hQQ⟩ : ∃ QQ : Exit → Act → World → Prop, QQ = fun e act wr => e = .normal ∧ ∃ (pma0 : Nat) (pma1 : Nat) (s11 : Int) (d11 : Option Addr) (l11 c11 : Nat) (s12 : Int) (d12 : Option Addr) (l12 c12 : Nat), act = ⟨#[.agg #[.int .i64 a1, .int .i64 a2], .agg #[.int .i64 b1, .int .i64 b2], .pointer (some ⟨w.heap.size, 0, none⟩), .pointer (some ⟨w.heap.size + 1, 0, none⟩), .pointer (some ⟨w.heap.size + 1 + 1, 0, none⟩), .pointer (some ⟨pma0, 0, none⟩), .pointer (some ⟨pma1, 0, none⟩), .pointer (some ⟨w.heap.size, 0, none⟩), .int .i64 a1, .pointer (some ⟨w.heap.size + 1, 0, none⟩), .int .i64 b1, .agg #[.int .i64 s11, .slice d11 l11 c11], .pointer (some ⟨w.heap.size, 1, none⟩), .int .i64 a2, .pointer (some ⟨w.heap.size + 1, 1, none⟩), .int .i64 b2, .agg #[.int .i64 s12, .slice d12 l12 c12], undef, undef, undef, undef, undef, undef, undef], []⟩ ∧ RN wr s11 d11 l11 c11 x ∧ RN wr s12 d12 l12 c12 y ∧ Bx wr (w.heap.size) (.int .i64 a1) (.int .i64 a2) ∧ Bx wr (w.heap.size + 1) (.int .i64 b1) (.int .i64 b2) ∧ Bx wr (w.heap.size + 1 + 1) (.int .i64 0) (.slice none 0 0) ∧ Bx wr pma0 (.int .i64 s11) (.slice d11 l11 c11) ∧ Bx wr pma1 (.int .i64 s12) (.slice d12 l12 c12) ∧ Below w.heap.size w wr ∧ W.heap.size ≤ wr.heap.size ∧ (W.heap.size ≤ pma0 ∧ pma0 < wr.heap.size) ∧ (W.heap.size ≤ pma1 ∧ pma1 < wr.heap.size) := ⟨_, rfl⟩
  have HQQ : Hid _ := hQQ
  clear hQQ
  refine wp_mono (Q := QQ) ?_ ?_
  · refine wp_region_held_drew (S := (fun w' => w'.cell? ⟨w.heap.size, 0, none⟩ = some (.int .i64 a1) ∧ w'.cell? ⟨w.heap.size, 1, none⟩ = some (.int .i64 a2) ∧ w'.cell? ⟨w.heap.size + 1, 0, none⟩ = some (.int .i64 b1) ∧ w'.cell? ⟨w.heap.size + 1, 1, none⟩ = some (.int .i64 b2) ∧ Below w.heap.size w w')) (by kernel_rfl) ?_ (fun hHeld => ?_)
    · exact ⟨x_a.c0, x_a.c1, x_b.c0, x_b.c1, BB.drew⟩
    refine take_yes (i := 0) (v := ?vma0x1) rfl (by kernel_rfl) (by kernel_rfl) (by kernel_rfl) (fun _ _ _ h => by rw [HQQ.out] at h; exact Exit.noConfusion h.1) (by rfl) (by assumption) ?hyma0x1 ?restma0x1
    case hyma0x1 => (intro w hSw; (try dsimp only at hSw); first | (go_simp; done) | (go_simp; with_reducible rfl))
    simp only [Act.put, List.setIfInBounds_toArray, List.set_cons_zero, List.set_cons_succ]
    refine take_yes (i := 1) (v := ?vma1x2) rfl (by kernel_rfl) (by kernel_rfl) (by kernel_rfl) (fun _ _ _ h => by rw [HQQ.out] at h; exact Exit.noConfusion h.1) (by rfl) (by assumption) ?hyma1x2 ?restma1x2
    case hyma1x2 => (intro w hSw; (try dsimp only at hSw); first | (go_simp; done) | (go_simp; with_reducible rfl))
    simp only [Act.put, List.setIfInBounds_toArray, List.set_cons_zero, List.set_cons_succ]
    refine take_yes (i := 2) (v := ?vma2x3) rfl (by kernel_rfl) (by kernel_rfl) (by kernel_rfl) (fun _ _ _ h => by rw [HQQ.out] at h; exact Exit.noConfusion h.1) (by rfl) (by assumption) ?hyma2x3 ?restma2x3
    case hyma2x3 => (intro w hSw; (try dsimp only at hSw); first | (go_simp; done) | (go_simp; with_reducible rfl))
    simp only [Act.put, List.setIfInBounds_toArray, List.set_cons_zero, List.set_cons_succ]
    refine take_yes (i := 3) (v := ?vma3x4) rfl (by kernel_rfl) (by kernel_rfl) (by kernel_rfl) (fun _ _ _ h => by rw [HQQ.out] at h; exact Exit.noConfusion h.1) (by rfl) (by assumption) ?hyma3x4 ?restma3x4
    case hyma3x4 => (intro w hSw; (try dsimp only at hSw); first | (go_simp; done) | (go_simp; with_reducible rfl))
    simp only [Act.put, List.setIfInBounds_toArray, List.set_cons_zero, List.set_cons_succ]
    refine take_yes (i := 5) (v := ?vma5x5) rfl (by kernel_rfl) (by kernel_rfl) (by kernel_rfl) (fun _ _ _ h => by rw [HQQ.out] at h; exact Exit.noConfusion h.1) (by rfl) (by assumption) ?hyma5x5 ?restma5x5
    case hyma5x5 => (intro w hSw; (try dsimp only at hSw); first | (go_simp; done) | (go_simp; with_reducible rfl))
    simp only [Act.put, List.setIfInBounds_toArray, List.set_cons_zero, List.set_cons_succ]
    refine take_yes (i := 6) (v := ?vma6x6) rfl (by kernel_rfl) (by kernel_rfl) (by kernel_rfl) (fun _ _ _ h => by rw [HQQ.out] at h; exact Exit.noConfusion h.1) (by rfl) (by assumption) ?hyma6x6 ?restma6x6
    case hyma6x6 => (intro w hSw; (try dsimp only at hSw); first | (go_simp; done) | (go_simp; with_reducible rfl))
    simp only [Act.put, List.setIfInBounds_toArray, List.set_cons_zero, List.set_cons_succ]
    refine take_yes (i := 7) (v := ?vma7x7) rfl (by kernel_rfl) (by kernel_rfl) (by kernel_rfl) (fun _ _ _ h => by rw [HQQ.out] at h; exact Exit.noConfusion h.1) (by rfl) (by assumption) ?hyma7x7 ?restma7x7
    case hyma7x7 => (intro w hSw; (try dsimp only at hSw); first | (go_simp; done) | (go_simp; with_reducible rfl))
    simp only [Act.put, List.setIfInBounds_toArray, List.set_cons_zero, List.set_cons_succ]
    refine take_yes (i := 8) (v := ?vma8x8) rfl (by kernel_rfl) (by kernel_rfl) (by kernel_rfl) (fun _ _ _ h => by rw [HQQ.out] at h; exact Exit.noConfusion h.1) (by rfl) (by assumption) ?hyma8x8 ?restma8x8
    case hyma8x8 => (intro w hSw; (try dsimp only at hSw); first | (go_simp; done) | (go_simp; with_reducible rfl))
    simp only [Act.put, List.setIfInBounds_toArray, List.set_cons_zero, List.set_cons_succ]
    clear hHeld
    obtain ⟨INV, hINV⟩ : ∃ INV : Nat → Array Bool → Act → World → Prop, INV = fun f L act wr => ∃ (bD eD : Nat → Bool) (pD : Nat → Nat) (RD : Nat → World → Prop) (AD : Nat → Nat → Prop) (uD vD : Nat → Value), f = 2 + (nb (bD 0) + nb (bD 1) + nb (eD 0) + nb (eD 1)) ∧ L = #[true, true, true, true, bD 0, true, true, true, true, bD 1, eD 0, eD 1, false, false] ∧ act = ⟨#[.agg #[.int .i64 a1, .int .i64 a2], .agg #[.int .i64 b1, .int .i64 b2], .pointer (some ⟨w.heap.size, 0, none⟩), .pointer (some ⟨w.heap.size + 1, 0, none⟩), .pointer (some ⟨w.heap.size + 1 + 1, 0, none⟩), vD 0, vD 1, .pointer (some ⟨w.heap.size, 0, none⟩), .int .i64 a1, .pointer (some ⟨w.heap.size + 1, 0, none⟩), .int .i64 b1, uD 0, .pointer (some ⟨w.heap.size, 1, none⟩), .int .i64 a2, .pointer (some ⟨w.heap.size + 1, 1, none⟩), .int .i64 b2, uD 1, undef, undef, undef, undef, undef, undef, undef], []⟩ ∧ (bD 1 = true → bD 0 = true) ∧ Mk W SpDZ (SpD x y) bD eD pD RD AD uD vD wr := ⟨_, rfl⟩
    have HINV : Hid _ := hINV
    clear hINV
    refine phase INV ?stepma _ _ _ _ ?initma
    case initma => rw [HINV.out]; exact ⟨fun _ => false, fun _ => false, fun _ => 0, fun _ _ => True, fun _ _ => True, fun _ => undef, fun _ => undef, rfl, rfl, rfl, fun h => Bool.noConfusion h, Mk.start _ _ _ (Below.refl _ _).drew⟩
    intro f L act wr hinv
    rw [HINV.out] at hinv
    obtain ⟨bD, eD, pD, RD, AD, uD, vD, hf, rfl, rfl, ch0, hm⟩ := hinv
    by_cases hall : bD 1 = true ∧ eD 0 = true ∧ eD 1 = true
    · refine Or.inl ?_
      obtain ⟨hb1, he0, he1⟩ := hall
      have hb0 := ch0 hb1
      simp only [hb0, hb1, he0, he1, nb] at hf
      subst hf
      rw [hb0, hb1, he0, he1, hm.ptr 0 he0, hm.ptr 1 he1]
      obtain ⟨s11, d11, l11, c11, hu0, hR0, hA0⟩ : RNIs _ _ _ _ := hm.spec 0 hb0
      rw [hu0]
      have r11 : RN wr s11 d11 l11 c11 x := by have := hm.res 0 hb0; rw [hR0] at this; exact this
      have n_r11_0_pma0 : NA (pD 0) d11 l11 := by have := hm.ap 0 0 he0 hb0; rw [hA0] at this; exact this
      have n_r11_0_pma1 : NA (pD 1) d11 l11 := by have := hm.ap 1 0 he1 hb0; rw [hA0] at this; exact this
      obtain ⟨s12, d12, l12, c12, hu1, hR1, hA1⟩ : RNIs _ _ _ _ := hm.spec 1 hb1
      rw [hu1]
      have r12 : RN wr s12 d12 l12 c12 y := by have := hm.res 1 hb1; rw [hR1] at this; exact this
      have n_r12_0_pma0 : NA (pD 0) d12 l12 := by have := hm.ap 0 1 he0 hb1; rw [hA1] at this; exact this
      have n_r12_0_pma1 : NA (pD 1) d12 l12 := by have := hm.ap 1 1 he1 hb1; rw [hA1] at this; exact this
      have y_pma0 : Bx wr (pD 0) (.int .i64 0) (.slice none 0 0) := bx_row (hm.blk 0 he0)
      have gpma0 := hm.old 0 he0
      have ltpma0 := hm.lt 0 he0
      have y_pma1 : Bx wr (pD 1) (.int .i64 0) (.slice none 0 0) := bx_row (hm.blk 1 he1)
      have gpma1 := hm.old 1 he1
      have ltpma1 := hm.lt 1 he1
      have ne_0_1 : pD 0 ≠ pD 1 := hm.ne 0 1 he0 he1 (by decide)
      have BU := hm.bel
      replace x_a := x_a.on BU
      replace x_b := x_b.on BU
      replace x_r := x_r.on BU
      replace BB := also BB BU
      have hHeld : ((fun w' => w'.cell? ⟨w.heap.size, 0, none⟩ = some (.int .i64 a1) ∧ w'.cell? ⟨w.heap.size, 1, none⟩ = some (.int .i64 a2) ∧ w'.cell? ⟨w.heap.size + 1, 0, none⟩ = some (.int .i64 b1) ∧ w'.cell? ⟨w.heap.size + 1, 1, none⟩ = some (.int .i64 b2) ∧ Below w.heap.size w w')) wr := ⟨x_a.c0, x_a.c1, x_b.c0, x_b.c1, BB⟩
      clear hm HINV INV ch0
      generalize pD 0 = pma0 at *
      generalize pD 1 = pma1 at *
      dsimp only at hHeld
      have ⟨c_pma0_0, c_pma0_1, c_pma0_2, c_pma0_3⟩ : Bx wr pma0 (.int .i64 0) (.slice none 0 0) := y_pma0
      refine take_call (i := 12) rfl (by kernel_rfl) (fun Kc hK => ?_)
      go_simp
      refine hK.out _ _ ⟨cell_put2 hHeld.1 (by omega) _ _, cell_put2 hHeld.2.1 (by omega) _ _, cell_put2 hHeld.2.2.1 (by omega) _ _, cell_put2 hHeld.2.2.2.1 (by omega) _ _, below_put2 hHeld.2.2.2.2 (by omega) _ _⟩ (fun hHeld => ?_)
      clear hK Kc
      have ⟨c_pma1_0, c_pma1_1, c_pma1_2, c_pma1_3⟩ : Bx ((wr.setCell ⟨pma0, 0, none⟩ (.int .i64 s11)).setCell ⟨pma0, 1, none⟩ (.slice d11 l11 c11)) pma1 (.int .i64 0) (.slice none 0 0) := ((y_pma1.put ne_0_1).put ne_0_1)
      refine take_call (i := 13) rfl (by kernel_rfl) (fun Kc hK => ?_)
      go_simp
      refine hK.out _ _ ⟨cell_put2 hHeld.1 (by omega) _ _, cell_put2 hHeld.2.1 (by omega) _ _, cell_put2 hHeld.2.2.1 (by omega) _ _, cell_put2 hHeld.2.2.2.1 (by omega) _ _, below_put2 hHeld.2.2.2.2 (by omega) _ _⟩ (fun hHeld => ?_)
      clear hK Kc
      refine wpAnyH_done (by kernel_rfl) ?_ _
      rw [HQQ.out]
      exact ⟨rfl, pma0, pma1, s11, d11, l11, c11, s12, d12, l12, c12, rfl, ((((r11.put n_r11_0_pma0 0 _).put n_r11_0_pma0 1 _).put n_r11_0_pma1 0 _).put n_r11_0_pma1 1 _), ((((r12.put n_r12_0_pma0 0 _).put n_r12_0_pma0 1 _).put n_r12_0_pma1 0 _).put n_r12_0_pma1 1 _), ((((x_a.put (by omega)).put (by omega)).put (by omega)).put (by omega)), ((((x_b.put (by omega)).put (by omega)).put (by omega)).put (by omega)), ((((x_r.put (by omega)).put (by omega)).put (by omega)).put (by omega)), ((y_pma0.set.put (fun e => ne_0_1 e.symm)).put (fun e => ne_0_1 e.symm)), ((y_pma1.put ne_0_1).put ne_0_1).set, (below_put2 (below_put2 BB (by omega) _ _) (by omega) _ _), by have := BU.size; simp only [World.size_setCell]; omega, ⟨gpma0, by simp only [World.size_setCell]; omega⟩, ⟨gpma1, by simp only [World.size_setCell]; omega⟩⟩
    · refine Or.inr ⟨f - 1, by omega, ?nema, ?opsma⟩
      case nema =>
        cases he0 : eD 0
        · exact ready_ne (i := 10) (by decide) (by kernel_rfl)
        cases he1 : eD 1
        · exact ready_ne (i := 11) (by decide) (by kernel_rfl)
        cases hb0 : bD 0
        · exact ready_ne (i := 4) (by decide) (by kernel_rfl)
        cases hb1 : bD 1
        · exact ready_ne (i := 9) (by decide) (by kernel_rfl)
        exact absurd ⟨hb1, he0, he1⟩ hall
      case opsma =>
        intro i hi
        obtain ⟨hlt, hnot, hdep⟩ := ready_at hi
        replace hlt : i < 14 := hlt
        obtain rfl | rfl | rfl | rfl | rfl | rfl | rfl | rfl | rfl | rfl | rfl | rfl | rfl | rfl : i = 0 ∨ i = 1 ∨ i = 2 ∨ i = 3 ∨ i = 4 ∨ i = 5 ∨ i = 6 ∨ i = 7 ∨ i = 8 ∨ i = 9 ∨ i = 10 ∨ i = 11 ∨ i = 12 ∨ i = 13 := by omega
        · skip
          exact Bool.noConfusion (show true = false from hnot)
        · skip
          exact Bool.noConfusion (show true = false from hnot)
        · skip
          exact Bool.noConfusion (show true = false from hnot)
        · skip
          exact Bool.noConfusion (show true = false from hnot)
        · skip
          have hbj : bD 0 = false := hnot
          refine ⟨_, rfl, fun K' hK => ?_⟩
          go_simp
          (go_at_call 39; refine (rpDiff a1 b1 _ Ra1.out Rb1.out Ex.out).mono ?_; rintro e' X ⟨s11, d11, l11, c11, rfl, r11, f11, bX⟩)
          have hm' := hm.call (SpD_good x y) 0 bX (.agg #[.int .i64 s11, .slice d11 l11 c11]) (fun w => RN w s11 d11 l11 c11 x) (fun k => NA k d11 l11) ⟨_, _, _, _, rfl, rfl, rfl⟩ r11 (fun i hi => f11 (pD i) (hm.lt i hi) trivial)
          refine hK.out _ _ ⟨cell_on hm'.bel x_a.c0, cell_on hm'.bel x_a.c1, cell_on hm'.bel x_b.c0, cell_on hm'.bel x_b.c1, also BB hm'.bel⟩ ?_
          rw [HINV.out]
          exact ⟨upd bD 0 true, eD, pD, upd RD 0 (fun w => RN w s11 d11 l11 c11 x), upd AD 0 (fun k => NA k d11 l11), upd uD 0 (.agg #[.int .i64 s11, .slice d11 l11 c11]), vD, fuel_SpD_b0 hf hbj, rfl, rfl, fun _ => rfl, hm'⟩
        · skip
          exact Bool.noConfusion (show true = false from hnot)
        · skip
          exact Bool.noConfusion (show true = false from hnot)
        · skip
          exact Bool.noConfusion (show true = false from hnot)
        · skip
          exact Bool.noConfusion (show true = false from hnot)
        · skip
          have hbj : bD 1 = false := hnot
          have hprev : bD 0 = true := hdep _ rfl 2 _ rfl rfl
          refine ⟨_, rfl, fun K' hK => ?_⟩
          go_simp
          (go_at_call 39; refine (rpDiff a2 b2 _ Ra2.out Rb2.out Ey.out).mono ?_; rintro e' X ⟨s12, d12, l12, c12, rfl, r12, f12, bX⟩)
          have hm' := hm.call (SpD_good x y) 1 bX (.agg #[.int .i64 s12, .slice d12 l12 c12]) (fun w => RN w s12 d12 l12 c12 y) (fun k => NA k d12 l12) ⟨_, _, _, _, rfl, rfl, rfl⟩ r12 (fun i hi => f12 (pD i) (hm.lt i hi) trivial)
          refine hK.out _ _ ⟨cell_on hm'.bel x_a.c0, cell_on hm'.bel x_a.c1, cell_on hm'.bel x_b.c0, cell_on hm'.bel x_b.c1, also BB hm'.bel⟩ ?_
          rw [HINV.out]
          exact ⟨upd bD 1 true, eD, pD, upd RD 1 (fun w => RN w s12 d12 l12 c12 y), upd AD 1 (fun k => NA k d12 l12), upd uD 1 (.agg #[.int .i64 s12, .slice d12 l12 c12]), vD, fuel_SpD_b1 hf hbj, rfl, rfl, fun _ => hprev, hm'⟩
        · skip
          have hei : eD 0 = false := hnot
          refine ⟨_, rfl, fun K' hK => ?_⟩
          go_simp
          have hm' := hm.alloc (SpD_good x y) 0 42 hei
          refine hK.out _ _ ⟨cell_on hm'.bel x_a.c0, cell_on hm'.bel x_a.c1, cell_on hm'.bel x_b.c0, cell_on hm'.bel x_b.c1, also BB hm'.bel⟩ ?_
          rw [HINV.out]
          exact ⟨bD, upd eD 0 true, upd pD 0 wr.heap.size, RD, AD, uD, upd vD 0 (.pointer (some ⟨wr.heap.size, 0, none⟩)), fuel_SpD_e0 hf hei, rfl, rfl, ch0, hm'⟩
        · skip
          have hei : eD 1 = false := hnot
          refine ⟨_, rfl, fun K' hK => ?_⟩
          go_simp
          have hm' := hm.alloc (SpD_good x y) 1 42 hei
          refine hK.out _ _ ⟨cell_on hm'.bel x_a.c0, cell_on hm'.bel x_a.c1, cell_on hm'.bel x_b.c0, cell_on hm'.bel x_b.c1, also BB hm'.bel⟩ ?_
          rw [HINV.out]
          exact ⟨bD, upd eD 1 true, upd pD 1 wr.heap.size, RD, AD, uD, upd vD 1 (.pointer (some ⟨wr.heap.size, 0, none⟩)), fuel_SpD_e1 hf hei, rfl, rfl, ch0, hm'⟩
        · skip
          exact absurd ⟨hdep _ rfl 2 _ rfl rfl, hdep _ rfl 0 _ rfl rfl, hdep _ rfl 14 _ rfl rfl⟩ hall
        · skip
          exact Bool.noConfusion (show false = true from hdep _ rfl 2 _ rfl rfl)
  rw [HQQ.out]
  rintro e act Y1 ⟨rfl, pma0, pma1, s11, d11, l11, c11, s12, d12, l12, c12, rfl, r11, r12, x_a, x_b, x_r, x_X, x_Y, BB, z_Y1, z_Y1_pma0, z_Y1_pma1⟩
  clear HQQ QQ
  try dsimp only
  go_wp2
  have dd1 : Below Y1.heap.size Y1 Y1.drew := (Below.refl _ _).drew
  have zdd1 := dd1.size
  replace BB := also BB dd1
  replace x_a := x_a.on dd1
  replace x_b := x_b.on dd1
  replace x_r := x_r.on dd1
  replace r11 := r11.below dd1
  replace r12 := r12.below dd1
  replace x_X := x_X.on dd1
  replace x_Y := x_Y.on dd1
  refine wp_region_held_drew (S := (fun w' => w'.cell? ⟨pma0, 0, none⟩ = some (.int .i64 s11) ∧ w'.cell? ⟨pma0, 1, none⟩ = some (.slice d11 l11 c11) ∧ w'.cell? ⟨pma1, 0, none⟩ = some (.int .i64 s12) ∧ w'.cell? ⟨pma1, 1, none⟩ = some (.slice d12 l12 c12) ∧ Below w.heap.size w w')) (by kernel_rfl) ?_ (fun hHeld => ?_)
  · exact ⟨x_X.c0, x_X.c1, x_Y.c0, x_Y.c1, BB⟩
  refine take_yes (i := 0) (v := ?vs0) rfl (by kernel_rfl) (by kernel_rfl) (by kernel_rfl) (fun _ _ _ h => h) (by rfl) (by assumption) ?hys0 ?rests0
  case hys0 => (intro w hSw; (try dsimp only at hSw); first | (go_simp; done) | (go_simp; with_reducible rfl))
  simp only [Act.put, List.setIfInBounds_toArray, List.set_cons_zero, List.set_cons_succ]
  refine take_yes (i := 1) (v := ?vs1) rfl (by kernel_rfl) (by kernel_rfl) (by kernel_rfl) (fun _ _ _ h => h) (by rfl) (by assumption) ?hys1 ?rests1
  case hys1 => (intro w hSw; (try dsimp only at hSw); first | (go_simp; done) | (go_simp; with_reducible rfl))
  simp only [Act.put, List.setIfInBounds_toArray, List.set_cons_zero, List.set_cons_succ]
  refine take_yes (i := 3) (v := ?vs3) rfl (by kernel_rfl) (by kernel_rfl) (by kernel_rfl) (fun _ _ _ h => h) (by rfl) (by assumption) ?hys3 ?rests3
  case hys3 => (intro w hSw; (try dsimp only at hSw); first | (go_simp; done) | (go_simp; with_reducible rfl))
  simp only [Act.put, List.setIfInBounds_toArray, List.set_cons_zero, List.set_cons_succ]
  refine take_yes (i := 4) (v := ?vs4) rfl (by kernel_rfl) (by kernel_rfl) (by kernel_rfl) (fun _ _ _ h => h) (by rfl) (by assumption) ?hys4 ?rests4
  case hys4 => (intro w hSw; (try dsimp only at hSw); first | (go_simp; done) | (go_simp; with_reducible rfl))
  simp only [Act.put, List.setIfInBounds_toArray, List.set_cons_zero, List.set_cons_succ]
  refine take_call (i := 2) rfl (by kernel_rfl) (fun Kc hK => ?_)
  go_simp
  (go_at_call 40; refine (rwMul s11 s11 d11 d11 l11 c11 l11 c11 x x p _ r11 r11 Fx.out Fx.out Ep.out).mono ?_; rintro e w3 ⟨s13, d13, l13, c13, rfl, r13, f13, bw3⟩)
  refine hK.out _ _ ?_ (fun hHeld => ?_)
  · exact ⟨cell_on bw3 hHeld.1, cell_on bw3 hHeld.2.1, cell_on bw3 hHeld.2.2.1, cell_on bw3 hHeld.2.2.2.1, also hHeld.2.2.2.2 bw3⟩
  clear hK Kc
  have zbw3 := bw3.size
  replace BB := also BB bw3
  replace x_a := x_a.on bw3
  replace x_b := x_b.on bw3
  replace x_r := x_r.on bw3
  replace r11 := r11.below bw3
  replace r12 := r12.below bw3
  replace x_X := x_X.on bw3
  replace x_Y := x_Y.on bw3
  refine take_call (i := 5) rfl (by kernel_rfl) (fun Kc hK => ?_)
  go_simp
  (go_at_call 40; refine (rwMul s12 s12 d12 d12 l12 c12 l12 c12 y y q _ r12 r12 Fy.out Fy.out Eq.out).mono ?_; rintro e w4 ⟨s14, d14, l14, c14, rfl, r14, f14, bw4⟩)
  refine hK.out _ _ ?_ (fun hHeld => ?_)
  · exact ⟨cell_on bw4 hHeld.1, cell_on bw4 hHeld.2.1, cell_on bw4 hHeld.2.2.1, cell_on bw4 hHeld.2.2.2.1, also hHeld.2.2.2.2 bw4⟩
  clear hK Kc
  have zbw4 := bw4.size
  replace BB := also BB bw4
  replace x_a := x_a.on bw4
  replace x_b := x_b.on bw4
  replace x_r := x_r.on bw4
  replace r11 := r11.below bw4
  replace r12 := r12.below bw4
  replace x_X := x_X.on bw4
  replace x_Y := x_Y.on bw4
  replace r13 := r13.below bw4
  refine take_call (i := 6) rfl (by kernel_rfl) (fun Kc hK => ?_)
  go_simp
  (go_at_call 43; refine (rwAdd s13 s14 d13 d14 l13 c13 l14 c14 p q z _ r13 r14 Fp.out Fq.out HZ.out).mono ?_; rintro e w5 ⟨s15, d15, l15, c15, rfl, r15, f15, bw5⟩)
  refine hK.out _ _ ?_ (fun hHeld => ?_)
  · exact ⟨cell_on bw5 hHeld.1, cell_on bw5 hHeld.2.1, cell_on bw5 hHeld.2.2.1, cell_on bw5 hHeld.2.2.2.1, also hHeld.2.2.2.2 bw5⟩
  clear hK Kc
  have zbw5 := bw5.size
  replace BB := also BB bw5
  replace x_a := x_a.on bw5
  replace x_b := x_b.on bw5
  replace x_r := x_r.on bw5
  replace r11 := r11.below bw5
  replace r12 := r12.below bw5
  replace x_X := x_X.on bw5
  replace x_Y := x_Y.on bw5
  replace r13 := r13.below bw5
  replace r14 := r14.below bw5
  have ⟨x_r_0, x_r_1, x_r_2, x_r_3⟩ := x_r
  refine take_call (i := 7) rfl (by kernel_rfl) (fun Kc hK => ?_)
  go_simp
  refine hK.out _ _ ?_ (fun hHeld => ?_)
  · first | exact ⟨cell_put2 hHeld.1 (by omega) _ _, cell_put2 hHeld.2.1 (by omega) _ _, cell_put2 hHeld.2.2.1 (by omega) _ _, cell_put2 hHeld.2.2.2.1 (by omega) _ _, below_put2 hHeld.2.2.2.2 (by omega) _ _⟩ | exact ⟨x_X.c0, x_X.c1, x_Y.c0, x_Y.c1, BB⟩
  clear hK Kc
  refine wpAnyH_done (by kernel_rfl) ?_ _
  go_wp2
  exact bodyPost_ret (v := .agg #[.int .i64 s15, .slice d15 l15 c15]) (by simp [results, Try.results41, go_sem, *]) rfl (endR _ (by omega) BB r15 (f15 _ (by omega) ⟨f13 _ (by omega) trivial, f14 _ (by omega) trivial⟩) (fun j hj _ => f15 j (by omega) ⟨f13 j (by omega) trivial, f14 j (by omega) trivial⟩) _ _)
end Go.Proofs.Ytnemailhijkemaa

namespace Go.Proofs.Ytnemailhijkemaa
open Go.RowKit
set_option linter.unusedVariables false

def nearP (a1 a2 b1 b2 : Int) : Bool := decide (-8192 < b1 - a1 ∧ b1 - a1 < 8192 ∧ -8192 < b2 - a2 ∧ b2 - a2 < 8192)
theorem near_abs {a1 a2 b1 b2 : Int} (h : nearP a1 a2 b1 b2 = true) : (b1 - a1).natAbs ≤ 8191 ∧ (b2 - a2).natAbs ≤ 8191 := by
  have := of_decide_eq_true h
  omega
theorem rpSign (n : Int) (w : World) {g : Int} (hg : g = n.sign) : Calls Try.prog 24 #[.int .i64 n] w fun e w' => e = .returned (.int .i64 g) ∧ Below w.heap.size w w' := by
  rcases Int.lt_trichotomy n 0 with h | h | h
  · obtain rfl : g = -1 := by rw [hg, Int.sign_eq_neg_one_of_neg h]
    clear hg
    go_enter Try.func24, Try.ntmps24
    go_wp2
    go_ret
    exact ⟨rfl, Below.refl _ _⟩
  · subst h
    obtain rfl : g = 0 := hg
    go_enter Try.func24, Try.ntmps24
    go_wp2
    go_ret
    exact ⟨rfl, Below.refl _ _⟩
  · obtain rfl : g = 1 := by rw [hg, Int.sign_eq_one_of_pos h]
    clear hg
    have h' : ¬ n < 0 := by omega
    go_enter Try.func24, Try.ntmps24
    go_wp2
    go_ret
    exact ⟨rfl, Below.refl _ _⟩
set_option maxRecDepth 100000 in
set_option maxHeartbeats 4000000 in
theorem rpNear (a1 a2 b1 b2 : Int) (w : World) (ha : canC a1 a2 = true) (hb : canC b1 b2 = true) {r : Bool} (hr : r = nearP a1 a2 b1 b2) :
    Calls Try.prog 23 #[.agg #[.int .i64 a1, .int .i64 a2], .agg #[.int .i64 b1, .int .i64 b2]] w fun e w' => e = .returned (.bool r) ∧ Below w.heap.size w w' := by
  obtain ⟨x, hx⟩ : ∃ x, x = b1 - a1 := ⟨_, rfl⟩
  have c_x := can_sub (canC_true.1 hb).1 (canC_true.1 ha).1
  rw [← hx] at c_x
  have w_x : wrap64 (b1 - a1) = x := by rw [← hx]; exact c_x.1
  have v_x : IntKind.i64.wrap (b1 - a1) = x := (wrap_i64 _).trans w_x
  have R_x : Hid _ := c_x.2
  have E_x : Hid _ := hx
  clear c_x hx
  obtain ⟨y, hy⟩ : ∃ y, y = b2 - a2 := ⟨_, rfl⟩
  have c_y := can_sub (canC_true.1 hb).2 (canC_true.1 ha).2
  rw [← hy] at c_y
  have w_y : wrap64 (b2 - a2) = y := by rw [← hy]; exact c_y.1
  have v_y : IntKind.i64.wrap (b2 - a2) = y := (wrap_i64 _).trans w_y
  have R_y : Hid _ := c_y.2
  have E_y : Hid _ := hy
  clear c_y hy
  have HR : Hid (r = decide (-8192 < x ∧ x < 8192 ∧ -8192 < y ∧ y < 8192)) := by unfold Hid; rw [hr, E_x.out, E_y.out]; rfl
  clear hr ha hb
  rcases Decidable.em (-8192 < x) with k0 | k0
  rotate_left
  · skip
    obtain rfl : r = false := by rw [HR.out]; simp; omega
    have k' : decide (-8192 < x) = false := decide_eq_false k0
    obtain ⟨W, hW, bW, x_a, x_b, sW⟩ := bs_22 w (.int .i64 a1) (.int .i64 a2) (.int .i64 b1) (.int .i64 b2) 23 23
    have zbW := bW.size
    have BB := bW
    go_enter Try.func23, Try.ntmps23
    go_wp2
    rw [← hW]
    clear hW
    have dd1 : Below W.heap.size W W.drew := (Below.refl _ _).drew
    have zdd1 := dd1.size
    replace BB := also BB dd1
    replace x_a := x_a.on dd1
    replace x_b := x_b.on dd1
    refine wp_region_held_drew (S := (fun w' => w'.cell? ⟨w.heap.size, 0, none⟩ = some (.int .i64 a1) ∧ w'.cell? ⟨w.heap.size, 1, none⟩ = some (.int .i64 a2) ∧ w'.cell? ⟨w.heap.size + 1, 0, none⟩ = some (.int .i64 b1) ∧ w'.cell? ⟨w.heap.size + 1, 1, none⟩ = some (.int .i64 b2) ∧ Below w.heap.size w w')) (by kernel_rfl) ?_ (fun hHeld => ?_)
    · exact ⟨x_a.c0, x_a.c1, x_b.c0, x_b.c1, BB⟩
    refine take_yes (i := 0) (v := ?vsa0) rfl (by kernel_rfl) (by kernel_rfl) (by kernel_rfl) (fun _ _ _ h => h) (by rfl) (by assumption) ?hysa0 ?restsa0
    case hysa0 => (intro w hSw; (try dsimp only at hSw); first | (go_simp; done) | (go_simp; with_reducible rfl))
    simp only [Act.put, List.setIfInBounds_toArray, List.set_cons_zero, List.set_cons_succ]
    refine take_yes (i := 1) (v := ?vsa1) rfl (by kernel_rfl) (by kernel_rfl) (by kernel_rfl) (fun _ _ _ h => h) (by rfl) (by assumption) ?hysa1 ?restsa1
    case hysa1 => (intro w hSw; (try dsimp only at hSw); first | (go_simp; done) | (go_simp; with_reducible rfl))
    simp only [Act.put, List.setIfInBounds_toArray, List.set_cons_zero, List.set_cons_succ]
    refine take_yes (i := 2) (v := ?vsa2) rfl (by kernel_rfl) (by kernel_rfl) (by kernel_rfl) (fun _ _ _ h => h) (by rfl) (by assumption) ?hysa2 ?restsa2
    case hysa2 => (intro w hSw; (try dsimp only at hSw); first | (go_simp; done) | (go_simp; with_reducible rfl))
    simp only [Act.put, List.setIfInBounds_toArray, List.set_cons_zero, List.set_cons_succ]
    refine take_yes (i := 3) (v := ?vsa3) rfl (by kernel_rfl) (by kernel_rfl) (by kernel_rfl) (fun _ _ _ h => h) (by rfl) (by assumption) ?hysa3 ?restsa3
    case hysa3 => (intro w hSw; (try dsimp only at hSw); first | (go_simp; done) | (go_simp; with_reducible rfl))
    simp only [Act.put, List.setIfInBounds_toArray, List.set_cons_zero, List.set_cons_succ]
    refine take_yes (i := 4) (v := ?vsa4) rfl (by kernel_rfl) (by kernel_rfl) (by kernel_rfl) (fun _ _ _ h => h) (by rfl) (by assumption) ?hysa4 ?restsa4
    case hysa4 => (intro w hSw; (try dsimp only at hSw); first | (go_simp; done) | (go_simp; with_reducible rfl))
    simp only [Act.put, List.setIfInBounds_toArray, List.set_cons_zero, List.set_cons_succ]
    refine take_yes (i := 5) (v := ?vsa5) rfl (by kernel_rfl) (by kernel_rfl) (by kernel_rfl) (fun _ _ _ h => h) (by rfl) (by assumption) ?hysa5 ?restsa5
    case hysa5 => (intro w hSw; (try dsimp only at hSw); first | (go_simp; done) | (go_simp; with_reducible rfl))
    simp only [Act.put, List.setIfInBounds_toArray, List.set_cons_zero, List.set_cons_succ]
    refine take_yes (i := 6) (v := ?vsa6) rfl (by kernel_rfl) (by kernel_rfl) (by kernel_rfl) (fun _ _ _ h => h) (by rfl) (by assumption) ?hysa6 ?restsa6
    case hysa6 => (intro w hSw; (try dsimp only at hSw); first | (go_simp; done) | (go_simp; with_reducible rfl))
    simp only [Act.put, List.setIfInBounds_toArray, List.set_cons_zero, List.set_cons_succ]
    refine take_yes (i := 7) (v := ?vsa7) rfl (by kernel_rfl) (by kernel_rfl) (by kernel_rfl) (fun _ _ _ h => h) (by rfl) (by assumption) ?hysa7 ?restsa7
    case hysa7 => (intro w hSw; (try dsimp only at hSw); first | (go_simp; done) | (go_simp; with_reducible rfl))
    simp only [Act.put, List.setIfInBounds_toArray, List.set_cons_zero, List.set_cons_succ]
    refine take_yes (i := 8) (v := ?vsa8) rfl (by kernel_rfl) (by kernel_rfl) (by kernel_rfl) (fun _ _ _ h => h) (by rfl) (by assumption) ?hysa8 ?restsa8
    case hysa8 => (intro w hSw; (try dsimp only at hSw); first | (go_simp; done) | (go_simp; with_reducible rfl))
    simp only [Act.put, List.setIfInBounds_toArray, List.set_cons_zero, List.set_cons_succ]
    refine take_yes (i := 9) (v := ?vsa9) rfl (by kernel_rfl) (by kernel_rfl) (by kernel_rfl) (fun _ _ _ h => h) (by rfl) (by assumption) ?hysa9 ?restsa9
    case hysa9 => (intro w hSw; (try dsimp only at hSw); first | (go_simp; done) | (go_simp; with_reducible rfl))
    simp only [Act.put, List.setIfInBounds_toArray, List.set_cons_zero, List.set_cons_succ]
    refine take_yes (i := 10) (v := ?vsa10) rfl (by kernel_rfl) (by kernel_rfl) (by kernel_rfl) (fun _ _ _ h => h) (by rfl) (by assumption) ?hysa10 ?restsa10
    case hysa10 => (intro w hSw; (try dsimp only at hSw); first | (go_simp; done) | (go_simp; with_reducible rfl))
    simp only [Act.put, List.setIfInBounds_toArray, List.set_cons_zero, List.set_cons_succ]
    refine take_yes (i := 11) (v := ?vsa11) rfl (by kernel_rfl) (by kernel_rfl) (by kernel_rfl) (fun _ _ _ h => h) (by rfl) (by assumption) ?hysa11 ?restsa11
    case hysa11 => (intro w hSw; (try dsimp only at hSw); first | (go_simp; done) | (go_simp; with_reducible rfl))
    simp only [Act.put, List.setIfInBounds_toArray, List.set_cons_zero, List.set_cons_succ]
    refine wpAnyH_done (by kernel_rfl) ?_ _
    go_wp2
    go_ret
    exact ⟨rfl, BB⟩
  rcases Decidable.em (x < 8192) with k1 | k1
  rotate_left
  · skip
    obtain rfl : r = false := by rw [HR.out]; simp; omega
    have k' : decide (x < 8192) = false := decide_eq_false k1
    obtain ⟨W, hW, bW, x_a, x_b, sW⟩ := bs_22 w (.int .i64 a1) (.int .i64 a2) (.int .i64 b1) (.int .i64 b2) 23 23
    have zbW := bW.size
    have BB := bW
    go_enter Try.func23, Try.ntmps23
    go_wp2
    rw [← hW]
    clear hW
    have dd1 : Below W.heap.size W W.drew := (Below.refl _ _).drew
    have zdd1 := dd1.size
    replace BB := also BB dd1
    replace x_a := x_a.on dd1
    replace x_b := x_b.on dd1
    refine wp_region_held_drew (S := (fun w' => w'.cell? ⟨w.heap.size, 0, none⟩ = some (.int .i64 a1) ∧ w'.cell? ⟨w.heap.size, 1, none⟩ = some (.int .i64 a2) ∧ w'.cell? ⟨w.heap.size + 1, 0, none⟩ = some (.int .i64 b1) ∧ w'.cell? ⟨w.heap.size + 1, 1, none⟩ = some (.int .i64 b2) ∧ Below w.heap.size w w')) (by kernel_rfl) ?_ (fun hHeld => ?_)
    · exact ⟨x_a.c0, x_a.c1, x_b.c0, x_b.c1, BB⟩
    refine take_yes (i := 0) (v := ?vsb0) rfl (by kernel_rfl) (by kernel_rfl) (by kernel_rfl) (fun _ _ _ h => h) (by rfl) (by assumption) ?hysb0 ?restsb0
    case hysb0 => (intro w hSw; (try dsimp only at hSw); first | (go_simp; done) | (go_simp; with_reducible rfl))
    simp only [Act.put, List.setIfInBounds_toArray, List.set_cons_zero, List.set_cons_succ]
    refine take_yes (i := 1) (v := ?vsb1) rfl (by kernel_rfl) (by kernel_rfl) (by kernel_rfl) (fun _ _ _ h => h) (by rfl) (by assumption) ?hysb1 ?restsb1
    case hysb1 => (intro w hSw; (try dsimp only at hSw); first | (go_simp; done) | (go_simp; with_reducible rfl))
    simp only [Act.put, List.setIfInBounds_toArray, List.set_cons_zero, List.set_cons_succ]
    refine take_yes (i := 2) (v := ?vsb2) rfl (by kernel_rfl) (by kernel_rfl) (by kernel_rfl) (fun _ _ _ h => h) (by rfl) (by assumption) ?hysb2 ?restsb2
    case hysb2 => (intro w hSw; (try dsimp only at hSw); first | (go_simp; done) | (go_simp; with_reducible rfl))
    simp only [Act.put, List.setIfInBounds_toArray, List.set_cons_zero, List.set_cons_succ]
    refine take_yes (i := 3) (v := ?vsb3) rfl (by kernel_rfl) (by kernel_rfl) (by kernel_rfl) (fun _ _ _ h => h) (by rfl) (by assumption) ?hysb3 ?restsb3
    case hysb3 => (intro w hSw; (try dsimp only at hSw); first | (go_simp; done) | (go_simp; with_reducible rfl))
    simp only [Act.put, List.setIfInBounds_toArray, List.set_cons_zero, List.set_cons_succ]
    refine take_yes (i := 4) (v := ?vsb4) rfl (by kernel_rfl) (by kernel_rfl) (by kernel_rfl) (fun _ _ _ h => h) (by rfl) (by assumption) ?hysb4 ?restsb4
    case hysb4 => (intro w hSw; (try dsimp only at hSw); first | (go_simp; done) | (go_simp; with_reducible rfl))
    simp only [Act.put, List.setIfInBounds_toArray, List.set_cons_zero, List.set_cons_succ]
    refine take_yes (i := 5) (v := ?vsb5) rfl (by kernel_rfl) (by kernel_rfl) (by kernel_rfl) (fun _ _ _ h => h) (by rfl) (by assumption) ?hysb5 ?restsb5
    case hysb5 => (intro w hSw; (try dsimp only at hSw); first | (go_simp; done) | (go_simp; with_reducible rfl))
    simp only [Act.put, List.setIfInBounds_toArray, List.set_cons_zero, List.set_cons_succ]
    refine take_yes (i := 6) (v := ?vsb6) rfl (by kernel_rfl) (by kernel_rfl) (by kernel_rfl) (fun _ _ _ h => h) (by rfl) (by assumption) ?hysb6 ?restsb6
    case hysb6 => (intro w hSw; (try dsimp only at hSw); first | (go_simp; done) | (go_simp; with_reducible rfl))
    simp only [Act.put, List.setIfInBounds_toArray, List.set_cons_zero, List.set_cons_succ]
    refine take_yes (i := 7) (v := ?vsb7) rfl (by kernel_rfl) (by kernel_rfl) (by kernel_rfl) (fun _ _ _ h => h) (by rfl) (by assumption) ?hysb7 ?restsb7
    case hysb7 => (intro w hSw; (try dsimp only at hSw); first | (go_simp; done) | (go_simp; with_reducible rfl))
    simp only [Act.put, List.setIfInBounds_toArray, List.set_cons_zero, List.set_cons_succ]
    refine take_yes (i := 8) (v := ?vsb8) rfl (by kernel_rfl) (by kernel_rfl) (by kernel_rfl) (fun _ _ _ h => h) (by rfl) (by assumption) ?hysb8 ?restsb8
    case hysb8 => (intro w hSw; (try dsimp only at hSw); first | (go_simp; done) | (go_simp; with_reducible rfl))
    simp only [Act.put, List.setIfInBounds_toArray, List.set_cons_zero, List.set_cons_succ]
    refine take_yes (i := 9) (v := ?vsb9) rfl (by kernel_rfl) (by kernel_rfl) (by kernel_rfl) (fun _ _ _ h => h) (by rfl) (by assumption) ?hysb9 ?restsb9
    case hysb9 => (intro w hSw; (try dsimp only at hSw); first | (go_simp; done) | (go_simp; with_reducible rfl))
    simp only [Act.put, List.setIfInBounds_toArray, List.set_cons_zero, List.set_cons_succ]
    refine take_yes (i := 10) (v := ?vsb10) rfl (by kernel_rfl) (by kernel_rfl) (by kernel_rfl) (fun _ _ _ h => h) (by rfl) (by assumption) ?hysb10 ?restsb10
    case hysb10 => (intro w hSw; (try dsimp only at hSw); first | (go_simp; done) | (go_simp; with_reducible rfl))
    simp only [Act.put, List.setIfInBounds_toArray, List.set_cons_zero, List.set_cons_succ]
    refine take_yes (i := 11) (v := ?vsb11) rfl (by kernel_rfl) (by kernel_rfl) (by kernel_rfl) (fun _ _ _ h => h) (by rfl) (by assumption) ?hysb11 ?restsb11
    case hysb11 => (intro w hSw; (try dsimp only at hSw); first | (go_simp; done) | (go_simp; with_reducible rfl))
    simp only [Act.put, List.setIfInBounds_toArray, List.set_cons_zero, List.set_cons_succ]
    refine wpAnyH_done (by kernel_rfl) ?_ _
    go_wp2
    go_ret
    exact ⟨rfl, BB⟩
  rcases Decidable.em (-8192 < y) with k2 | k2
  rotate_left
  · skip
    obtain rfl : r = false := by rw [HR.out]; simp; omega
    have k' : decide (-8192 < y) = false := decide_eq_false k2
    obtain ⟨W, hW, bW, x_a, x_b, sW⟩ := bs_22 w (.int .i64 a1) (.int .i64 a2) (.int .i64 b1) (.int .i64 b2) 23 23
    have zbW := bW.size
    have BB := bW
    go_enter Try.func23, Try.ntmps23
    go_wp2
    rw [← hW]
    clear hW
    have dd1 : Below W.heap.size W W.drew := (Below.refl _ _).drew
    have zdd1 := dd1.size
    replace BB := also BB dd1
    replace x_a := x_a.on dd1
    replace x_b := x_b.on dd1
    refine wp_region_held_drew (S := (fun w' => w'.cell? ⟨w.heap.size, 0, none⟩ = some (.int .i64 a1) ∧ w'.cell? ⟨w.heap.size, 1, none⟩ = some (.int .i64 a2) ∧ w'.cell? ⟨w.heap.size + 1, 0, none⟩ = some (.int .i64 b1) ∧ w'.cell? ⟨w.heap.size + 1, 1, none⟩ = some (.int .i64 b2) ∧ Below w.heap.size w w')) (by kernel_rfl) ?_ (fun hHeld => ?_)
    · exact ⟨x_a.c0, x_a.c1, x_b.c0, x_b.c1, BB⟩
    refine take_yes (i := 0) (v := ?vsc0) rfl (by kernel_rfl) (by kernel_rfl) (by kernel_rfl) (fun _ _ _ h => h) (by rfl) (by assumption) ?hysc0 ?restsc0
    case hysc0 => (intro w hSw; (try dsimp only at hSw); first | (go_simp; done) | (go_simp; with_reducible rfl))
    simp only [Act.put, List.setIfInBounds_toArray, List.set_cons_zero, List.set_cons_succ]
    refine take_yes (i := 1) (v := ?vsc1) rfl (by kernel_rfl) (by kernel_rfl) (by kernel_rfl) (fun _ _ _ h => h) (by rfl) (by assumption) ?hysc1 ?restsc1
    case hysc1 => (intro w hSw; (try dsimp only at hSw); first | (go_simp; done) | (go_simp; with_reducible rfl))
    simp only [Act.put, List.setIfInBounds_toArray, List.set_cons_zero, List.set_cons_succ]
    refine take_yes (i := 2) (v := ?vsc2) rfl (by kernel_rfl) (by kernel_rfl) (by kernel_rfl) (fun _ _ _ h => h) (by rfl) (by assumption) ?hysc2 ?restsc2
    case hysc2 => (intro w hSw; (try dsimp only at hSw); first | (go_simp; done) | (go_simp; with_reducible rfl))
    simp only [Act.put, List.setIfInBounds_toArray, List.set_cons_zero, List.set_cons_succ]
    refine take_yes (i := 3) (v := ?vsc3) rfl (by kernel_rfl) (by kernel_rfl) (by kernel_rfl) (fun _ _ _ h => h) (by rfl) (by assumption) ?hysc3 ?restsc3
    case hysc3 => (intro w hSw; (try dsimp only at hSw); first | (go_simp; done) | (go_simp; with_reducible rfl))
    simp only [Act.put, List.setIfInBounds_toArray, List.set_cons_zero, List.set_cons_succ]
    refine take_yes (i := 4) (v := ?vsc4) rfl (by kernel_rfl) (by kernel_rfl) (by kernel_rfl) (fun _ _ _ h => h) (by rfl) (by assumption) ?hysc4 ?restsc4
    case hysc4 => (intro w hSw; (try dsimp only at hSw); first | (go_simp; done) | (go_simp; with_reducible rfl))
    simp only [Act.put, List.setIfInBounds_toArray, List.set_cons_zero, List.set_cons_succ]
    refine take_yes (i := 5) (v := ?vsc5) rfl (by kernel_rfl) (by kernel_rfl) (by kernel_rfl) (fun _ _ _ h => h) (by rfl) (by assumption) ?hysc5 ?restsc5
    case hysc5 => (intro w hSw; (try dsimp only at hSw); first | (go_simp; done) | (go_simp; with_reducible rfl))
    simp only [Act.put, List.setIfInBounds_toArray, List.set_cons_zero, List.set_cons_succ]
    refine take_yes (i := 6) (v := ?vsc6) rfl (by kernel_rfl) (by kernel_rfl) (by kernel_rfl) (fun _ _ _ h => h) (by rfl) (by assumption) ?hysc6 ?restsc6
    case hysc6 => (intro w hSw; (try dsimp only at hSw); first | (go_simp; done) | (go_simp; with_reducible rfl))
    simp only [Act.put, List.setIfInBounds_toArray, List.set_cons_zero, List.set_cons_succ]
    refine take_yes (i := 7) (v := ?vsc7) rfl (by kernel_rfl) (by kernel_rfl) (by kernel_rfl) (fun _ _ _ h => h) (by rfl) (by assumption) ?hysc7 ?restsc7
    case hysc7 => (intro w hSw; (try dsimp only at hSw); first | (go_simp; done) | (go_simp; with_reducible rfl))
    simp only [Act.put, List.setIfInBounds_toArray, List.set_cons_zero, List.set_cons_succ]
    refine take_yes (i := 8) (v := ?vsc8) rfl (by kernel_rfl) (by kernel_rfl) (by kernel_rfl) (fun _ _ _ h => h) (by rfl) (by assumption) ?hysc8 ?restsc8
    case hysc8 => (intro w hSw; (try dsimp only at hSw); first | (go_simp; done) | (go_simp; with_reducible rfl))
    simp only [Act.put, List.setIfInBounds_toArray, List.set_cons_zero, List.set_cons_succ]
    refine take_yes (i := 9) (v := ?vsc9) rfl (by kernel_rfl) (by kernel_rfl) (by kernel_rfl) (fun _ _ _ h => h) (by rfl) (by assumption) ?hysc9 ?restsc9
    case hysc9 => (intro w hSw; (try dsimp only at hSw); first | (go_simp; done) | (go_simp; with_reducible rfl))
    simp only [Act.put, List.setIfInBounds_toArray, List.set_cons_zero, List.set_cons_succ]
    refine take_yes (i := 10) (v := ?vsc10) rfl (by kernel_rfl) (by kernel_rfl) (by kernel_rfl) (fun _ _ _ h => h) (by rfl) (by assumption) ?hysc10 ?restsc10
    case hysc10 => (intro w hSw; (try dsimp only at hSw); first | (go_simp; done) | (go_simp; with_reducible rfl))
    simp only [Act.put, List.setIfInBounds_toArray, List.set_cons_zero, List.set_cons_succ]
    refine take_yes (i := 11) (v := ?vsc11) rfl (by kernel_rfl) (by kernel_rfl) (by kernel_rfl) (fun _ _ _ h => h) (by rfl) (by assumption) ?hysc11 ?restsc11
    case hysc11 => (intro w hSw; (try dsimp only at hSw); first | (go_simp; done) | (go_simp; with_reducible rfl))
    simp only [Act.put, List.setIfInBounds_toArray, List.set_cons_zero, List.set_cons_succ]
    refine wpAnyH_done (by kernel_rfl) ?_ _
    go_wp2
    go_ret
    exact ⟨rfl, BB⟩
  rcases Decidable.em (y < 8192) with k3 | k3
  rotate_left
  · skip
    obtain rfl : r = false := by rw [HR.out]; simp; omega
    have k' : decide (y < 8192) = false := decide_eq_false k3
    obtain ⟨W, hW, bW, x_a, x_b, sW⟩ := bs_22 w (.int .i64 a1) (.int .i64 a2) (.int .i64 b1) (.int .i64 b2) 23 23
    have zbW := bW.size
    have BB := bW
    go_enter Try.func23, Try.ntmps23
    go_wp2
    rw [← hW]
    clear hW
    have dd1 : Below W.heap.size W W.drew := (Below.refl _ _).drew
    have zdd1 := dd1.size
    replace BB := also BB dd1
    replace x_a := x_a.on dd1
    replace x_b := x_b.on dd1
    refine wp_region_held_drew (S := (fun w' => w'.cell? ⟨w.heap.size, 0, none⟩ = some (.int .i64 a1) ∧ w'.cell? ⟨w.heap.size, 1, none⟩ = some (.int .i64 a2) ∧ w'.cell? ⟨w.heap.size + 1, 0, none⟩ = some (.int .i64 b1) ∧ w'.cell? ⟨w.heap.size + 1, 1, none⟩ = some (.int .i64 b2) ∧ Below w.heap.size w w')) (by kernel_rfl) ?_ (fun hHeld => ?_)
    · exact ⟨x_a.c0, x_a.c1, x_b.c0, x_b.c1, BB⟩
    refine take_yes (i := 0) (v := ?vsd0) rfl (by kernel_rfl) (by kernel_rfl) (by kernel_rfl) (fun _ _ _ h => h) (by rfl) (by assumption) ?hysd0 ?restsd0
    case hysd0 => (intro w hSw; (try dsimp only at hSw); first | (go_simp; done) | (go_simp; with_reducible rfl))
    simp only [Act.put, List.setIfInBounds_toArray, List.set_cons_zero, List.set_cons_succ]
    refine take_yes (i := 1) (v := ?vsd1) rfl (by kernel_rfl) (by kernel_rfl) (by kernel_rfl) (fun _ _ _ h => h) (by rfl) (by assumption) ?hysd1 ?restsd1
    case hysd1 => (intro w hSw; (try dsimp only at hSw); first | (go_simp; done) | (go_simp; with_reducible rfl))
    simp only [Act.put, List.setIfInBounds_toArray, List.set_cons_zero, List.set_cons_succ]
    refine take_yes (i := 2) (v := ?vsd2) rfl (by kernel_rfl) (by kernel_rfl) (by kernel_rfl) (fun _ _ _ h => h) (by rfl) (by assumption) ?hysd2 ?restsd2
    case hysd2 => (intro w hSw; (try dsimp only at hSw); first | (go_simp; done) | (go_simp; with_reducible rfl))
    simp only [Act.put, List.setIfInBounds_toArray, List.set_cons_zero, List.set_cons_succ]
    refine take_yes (i := 3) (v := ?vsd3) rfl (by kernel_rfl) (by kernel_rfl) (by kernel_rfl) (fun _ _ _ h => h) (by rfl) (by assumption) ?hysd3 ?restsd3
    case hysd3 => (intro w hSw; (try dsimp only at hSw); first | (go_simp; done) | (go_simp; with_reducible rfl))
    simp only [Act.put, List.setIfInBounds_toArray, List.set_cons_zero, List.set_cons_succ]
    refine take_yes (i := 4) (v := ?vsd4) rfl (by kernel_rfl) (by kernel_rfl) (by kernel_rfl) (fun _ _ _ h => h) (by rfl) (by assumption) ?hysd4 ?restsd4
    case hysd4 => (intro w hSw; (try dsimp only at hSw); first | (go_simp; done) | (go_simp; with_reducible rfl))
    simp only [Act.put, List.setIfInBounds_toArray, List.set_cons_zero, List.set_cons_succ]
    refine take_yes (i := 5) (v := ?vsd5) rfl (by kernel_rfl) (by kernel_rfl) (by kernel_rfl) (fun _ _ _ h => h) (by rfl) (by assumption) ?hysd5 ?restsd5
    case hysd5 => (intro w hSw; (try dsimp only at hSw); first | (go_simp; done) | (go_simp; with_reducible rfl))
    simp only [Act.put, List.setIfInBounds_toArray, List.set_cons_zero, List.set_cons_succ]
    refine take_yes (i := 6) (v := ?vsd6) rfl (by kernel_rfl) (by kernel_rfl) (by kernel_rfl) (fun _ _ _ h => h) (by rfl) (by assumption) ?hysd6 ?restsd6
    case hysd6 => (intro w hSw; (try dsimp only at hSw); first | (go_simp; done) | (go_simp; with_reducible rfl))
    simp only [Act.put, List.setIfInBounds_toArray, List.set_cons_zero, List.set_cons_succ]
    refine take_yes (i := 7) (v := ?vsd7) rfl (by kernel_rfl) (by kernel_rfl) (by kernel_rfl) (fun _ _ _ h => h) (by rfl) (by assumption) ?hysd7 ?restsd7
    case hysd7 => (intro w hSw; (try dsimp only at hSw); first | (go_simp; done) | (go_simp; with_reducible rfl))
    simp only [Act.put, List.setIfInBounds_toArray, List.set_cons_zero, List.set_cons_succ]
    refine take_yes (i := 8) (v := ?vsd8) rfl (by kernel_rfl) (by kernel_rfl) (by kernel_rfl) (fun _ _ _ h => h) (by rfl) (by assumption) ?hysd8 ?restsd8
    case hysd8 => (intro w hSw; (try dsimp only at hSw); first | (go_simp; done) | (go_simp; with_reducible rfl))
    simp only [Act.put, List.setIfInBounds_toArray, List.set_cons_zero, List.set_cons_succ]
    refine take_yes (i := 9) (v := ?vsd9) rfl (by kernel_rfl) (by kernel_rfl) (by kernel_rfl) (fun _ _ _ h => h) (by rfl) (by assumption) ?hysd9 ?restsd9
    case hysd9 => (intro w hSw; (try dsimp only at hSw); first | (go_simp; done) | (go_simp; with_reducible rfl))
    simp only [Act.put, List.setIfInBounds_toArray, List.set_cons_zero, List.set_cons_succ]
    refine take_yes (i := 10) (v := ?vsd10) rfl (by kernel_rfl) (by kernel_rfl) (by kernel_rfl) (fun _ _ _ h => h) (by rfl) (by assumption) ?hysd10 ?restsd10
    case hysd10 => (intro w hSw; (try dsimp only at hSw); first | (go_simp; done) | (go_simp; with_reducible rfl))
    simp only [Act.put, List.setIfInBounds_toArray, List.set_cons_zero, List.set_cons_succ]
    refine take_yes (i := 11) (v := ?vsd11) rfl (by kernel_rfl) (by kernel_rfl) (by kernel_rfl) (fun _ _ _ h => h) (by rfl) (by assumption) ?hysd11 ?restsd11
    case hysd11 => (intro w hSw; (try dsimp only at hSw); first | (go_simp; done) | (go_simp; with_reducible rfl))
    simp only [Act.put, List.setIfInBounds_toArray, List.set_cons_zero, List.set_cons_succ]
    refine wpAnyH_done (by kernel_rfl) ?_ _
    go_wp2
    go_ret
    exact ⟨rfl, BB⟩
  obtain rfl : r = true := by rw [HR.out]; simp; omega
  obtain ⟨W, hW, bW, x_a, x_b, sW⟩ := bs_22 w (.int .i64 a1) (.int .i64 a2) (.int .i64 b1) (.int .i64 b2) 23 23
  have zbW := bW.size
  have BB := bW
  go_enter Try.func23, Try.ntmps23
  go_wp2
  rw [← hW]
  clear hW
  have dd1 : Below W.heap.size W W.drew := (Below.refl _ _).drew
  have zdd1 := dd1.size
  replace BB := also BB dd1
  replace x_a := x_a.on dd1
  replace x_b := x_b.on dd1
  refine wp_region_held_drew (S := (fun w' => w'.cell? ⟨w.heap.size, 0, none⟩ = some (.int .i64 a1) ∧ w'.cell? ⟨w.heap.size, 1, none⟩ = some (.int .i64 a2) ∧ w'.cell? ⟨w.heap.size + 1, 0, none⟩ = some (.int .i64 b1) ∧ w'.cell? ⟨w.heap.size + 1, 1, none⟩ = some (.int .i64 b2) ∧ Below w.heap.size w w')) (by kernel_rfl) ?_ (fun hHeld => ?_)
  · exact ⟨x_a.c0, x_a.c1, x_b.c0, x_b.c1, BB⟩
  refine take_yes (i := 0) (v := ?vse0) rfl (by kernel_rfl) (by kernel_rfl) (by kernel_rfl) (fun _ _ _ h => h) (by rfl) (by assumption) ?hyse0 ?restse0
  case hyse0 => (intro w hSw; (try dsimp only at hSw); first | (go_simp; done) | (go_simp; with_reducible rfl))
  simp only [Act.put, List.setIfInBounds_toArray, List.set_cons_zero, List.set_cons_succ]
  refine take_yes (i := 1) (v := ?vse1) rfl (by kernel_rfl) (by kernel_rfl) (by kernel_rfl) (fun _ _ _ h => h) (by rfl) (by assumption) ?hyse1 ?restse1
  case hyse1 => (intro w hSw; (try dsimp only at hSw); first | (go_simp; done) | (go_simp; with_reducible rfl))
  simp only [Act.put, List.setIfInBounds_toArray, List.set_cons_zero, List.set_cons_succ]
  refine take_yes (i := 2) (v := ?vse2) rfl (by kernel_rfl) (by kernel_rfl) (by kernel_rfl) (fun _ _ _ h => h) (by rfl) (by assumption) ?hyse2 ?restse2
  case hyse2 => (intro w hSw; (try dsimp only at hSw); first | (go_simp; done) | (go_simp; with_reducible rfl))
  simp only [Act.put, List.setIfInBounds_toArray, List.set_cons_zero, List.set_cons_succ]
  refine take_yes (i := 3) (v := ?vse3) rfl (by kernel_rfl) (by kernel_rfl) (by kernel_rfl) (fun _ _ _ h => h) (by rfl) (by assumption) ?hyse3 ?restse3
  case hyse3 => (intro w hSw; (try dsimp only at hSw); first | (go_simp; done) | (go_simp; with_reducible rfl))
  simp only [Act.put, List.setIfInBounds_toArray, List.set_cons_zero, List.set_cons_succ]
  refine take_yes (i := 4) (v := ?vse4) rfl (by kernel_rfl) (by kernel_rfl) (by kernel_rfl) (fun _ _ _ h => h) (by rfl) (by assumption) ?hyse4 ?restse4
  case hyse4 => (intro w hSw; (try dsimp only at hSw); first | (go_simp; done) | (go_simp; with_reducible rfl))
  simp only [Act.put, List.setIfInBounds_toArray, List.set_cons_zero, List.set_cons_succ]
  refine take_yes (i := 5) (v := ?vse5) rfl (by kernel_rfl) (by kernel_rfl) (by kernel_rfl) (fun _ _ _ h => h) (by rfl) (by assumption) ?hyse5 ?restse5
  case hyse5 => (intro w hSw; (try dsimp only at hSw); first | (go_simp; done) | (go_simp; with_reducible rfl))
  simp only [Act.put, List.setIfInBounds_toArray, List.set_cons_zero, List.set_cons_succ]
  refine take_yes (i := 6) (v := ?vse6) rfl (by kernel_rfl) (by kernel_rfl) (by kernel_rfl) (fun _ _ _ h => h) (by rfl) (by assumption) ?hyse6 ?restse6
  case hyse6 => (intro w hSw; (try dsimp only at hSw); first | (go_simp; done) | (go_simp; with_reducible rfl))
  simp only [Act.put, List.setIfInBounds_toArray, List.set_cons_zero, List.set_cons_succ]
  refine take_yes (i := 7) (v := ?vse7) rfl (by kernel_rfl) (by kernel_rfl) (by kernel_rfl) (fun _ _ _ h => h) (by rfl) (by assumption) ?hyse7 ?restse7
  case hyse7 => (intro w hSw; (try dsimp only at hSw); first | (go_simp; done) | (go_simp; with_reducible rfl))
  simp only [Act.put, List.setIfInBounds_toArray, List.set_cons_zero, List.set_cons_succ]
  refine take_yes (i := 8) (v := ?vse8) rfl (by kernel_rfl) (by kernel_rfl) (by kernel_rfl) (fun _ _ _ h => h) (by rfl) (by assumption) ?hyse8 ?restse8
  case hyse8 => (intro w hSw; (try dsimp only at hSw); first | (go_simp; done) | (go_simp; with_reducible rfl))
  simp only [Act.put, List.setIfInBounds_toArray, List.set_cons_zero, List.set_cons_succ]
  refine take_yes (i := 9) (v := ?vse9) rfl (by kernel_rfl) (by kernel_rfl) (by kernel_rfl) (fun _ _ _ h => h) (by rfl) (by assumption) ?hyse9 ?restse9
  case hyse9 => (intro w hSw; (try dsimp only at hSw); first | (go_simp; done) | (go_simp; with_reducible rfl))
  simp only [Act.put, List.setIfInBounds_toArray, List.set_cons_zero, List.set_cons_succ]
  refine take_yes (i := 10) (v := ?vse10) rfl (by kernel_rfl) (by kernel_rfl) (by kernel_rfl) (fun _ _ _ h => h) (by rfl) (by assumption) ?hyse10 ?restse10
  case hyse10 => (intro w hSw; (try dsimp only at hSw); first | (go_simp; done) | (go_simp; with_reducible rfl))
  simp only [Act.put, List.setIfInBounds_toArray, List.set_cons_zero, List.set_cons_succ]
  refine take_yes (i := 11) (v := ?vse11) rfl (by kernel_rfl) (by kernel_rfl) (by kernel_rfl) (fun _ _ _ h => h) (by rfl) (by assumption) ?hyse11 ?restse11
  case hyse11 => (intro w hSw; (try dsimp only at hSw); first | (go_simp; done) | (go_simp; with_reducible rfl))
  simp only [Act.put, List.setIfInBounds_toArray, List.set_cons_zero, List.set_cons_succ]
  refine wpAnyH_done (by kernel_rfl) ?_ _
  go_wp2
  go_ret
  exact ⟨rfl, BB⟩
set_option maxRecDepth 100000 in
set_option maxHeartbeats 4000000 in
theorem rpOrient (a1 a2 b1 b2 c1 c2 : Int) (w : World) (ha : canC a1 a2 = true) (hb : canC b1 b2 = true) (hc : canC c1 c2 = true) {g : Int} (hg : g = (areaP a1 a2 b1 b2 c1 c2).sign) :
    Calls Try.prog 12 #[.agg #[.int .i64 a1, .int .i64 a2], .agg #[.int .i64 b1, .int .i64 b2], .agg #[.int .i64 c1, .int .i64 c2]] w fun e w' => e = .returned (.int .i64 g) ∧ Below w.heap.size w w' := by
  cases n1 : nearP a1 a2 b1 b2
  · skip
    have HG : Hid _ := hg
    clear hg
    obtain ⟨W, hW, bW, x_a, x_b, x_c, sW⟩ := bs_222 w (.int .i64 a1) (.int .i64 a2) (.int .i64 b1) (.int .i64 b2) (.int .i64 c1) (.int .i64 c2) 23 23 23
    have zbW := bW.size
    have BB := bW
    go_enter Try.func12, Try.ntmps12
    go_wp2_with (go_at_call 23; fail)
    rw [← hW]
    clear hW
    refine (rpNear a1 a2 b1 b2 W ha hb n1.symm).mono ?_
    rintro e w1 ⟨rfl, bw1⟩
    have zbw1 := bw1.size
    replace BB := also BB bw1
    replace x_a := x_a.on bw1
    replace x_b := x_b.on bw1
    replace x_c := x_c.on bw1
    have ⟨x_a_0, x_a_1, x_a_2, x_a_3⟩ := x_a
    have ⟨x_b_0, x_b_1, x_b_2, x_b_3⟩ := x_b
    have ⟨x_c_0, x_c_1, x_c_2, x_c_3⟩ := x_c
    go_wp2_with (go_at_call 25; fail)
    refine (rpArea a1 a2 b1 b2 c1 c2 w1 ha hb hc rfl).mono ?_
    rintro e w3 ⟨s11, d11, l11, c11, rfl, r11, f11, bw3⟩
    clear x_a_0 x_a_1 x_a_2 x_a_3 x_b_0 x_b_1 x_b_2 x_b_3 x_c_0 x_c_1 x_c_2 x_c_3
    have zbw3 := bw3.size
    replace BB := also BB bw3
    replace x_a := x_a.on bw3
    replace x_b := x_b.on bw3
    replace x_c := x_c.on bw3
    have hfS := fieldS s11 d11 l11 c11 w3
    go_wp2
    go_ret
    exact ⟨by rw [HG.out, ← r11.sg]; rfl, BB⟩
  · skip
    cases n2 : nearP a1 a2 c1 c2
    · skip
      have HG : Hid _ := hg
      clear hg
      obtain ⟨W, hW, bW, x_a, x_b, x_c, sW⟩ := bs_222 w (.int .i64 a1) (.int .i64 a2) (.int .i64 b1) (.int .i64 b2) (.int .i64 c1) (.int .i64 c2) 23 23 23
      have zbW := bW.size
      have BB := bW
      go_enter Try.func12, Try.ntmps12
      go_wp2_with (go_at_call 23; fail)
      rw [← hW]
      clear hW
      refine (rpNear a1 a2 b1 b2 W ha hb n1.symm).mono ?_
      rintro e w1 ⟨rfl, bw1⟩
      have zbw1 := bw1.size
      replace BB := also BB bw1
      replace x_a := x_a.on bw1
      replace x_b := x_b.on bw1
      replace x_c := x_c.on bw1
      have ⟨x_a_0, x_a_1, x_a_2, x_a_3⟩ := x_a
      have ⟨x_b_0, x_b_1, x_b_2, x_b_3⟩ := x_b
      have ⟨x_c_0, x_c_1, x_c_2, x_c_3⟩ := x_c
      go_wp2_with (go_at_call 23; fail)
      refine (rpNear a1 a2 c1 c2 w1 ha hc n2.symm).mono ?_
      rintro e w2 ⟨rfl, bw2⟩
      clear x_a_0 x_a_1 x_a_2 x_a_3 x_b_0 x_b_1 x_b_2 x_b_3 x_c_0 x_c_1 x_c_2 x_c_3
      have zbw2 := bw2.size
      replace BB := also BB bw2
      replace x_a := x_a.on bw2
      replace x_b := x_b.on bw2
      replace x_c := x_c.on bw2
      have ⟨x_a_0, x_a_1, x_a_2, x_a_3⟩ := x_a
      have ⟨x_b_0, x_b_1, x_b_2, x_b_3⟩ := x_b
      have ⟨x_c_0, x_c_1, x_c_2, x_c_3⟩ := x_c
      go_wp2_with (go_at_call 25; fail)
      refine (rpArea a1 a2 b1 b2 c1 c2 w2 ha hb hc rfl).mono ?_
      rintro e w3 ⟨s11, d11, l11, c11, rfl, r11, f11, bw3⟩
      clear x_a_0 x_a_1 x_a_2 x_a_3 x_b_0 x_b_1 x_b_2 x_b_3 x_c_0 x_c_1 x_c_2 x_c_3
      have zbw3 := bw3.size
      replace BB := also BB bw3
      replace x_a := x_a.on bw3
      replace x_b := x_b.on bw3
      replace x_c := x_c.on bw3
      have hfS := fieldS s11 d11 l11 c11 w3
      go_wp2
      go_ret
      exact ⟨by rw [HG.out, ← r11.sg]; rfl, BB⟩
    · skip
      obtain ⟨qx, qu⟩ := near_abs n1
      obtain ⟨qv, qy⟩ := near_abs n2
      obtain ⟨x, hx⟩ : ∃ z : Int, z = b1 - a1 := ⟨_, rfl⟩
      rw [← hx] at qx
      have wx : wrap64 (b1 - a1) = x := by rw [← hx]; exact wrap_in (by omega) (by omega)
      obtain ⟨y, hy⟩ : ∃ z : Int, z = c2 - a2 := ⟨_, rfl⟩
      rw [← hy] at qy
      have wy : wrap64 (c2 - a2) = y := by rw [← hy]; exact wrap_in (by omega) (by omega)
      obtain ⟨u, hu⟩ : ∃ z : Int, z = b2 - a2 := ⟨_, rfl⟩
      rw [← hu] at qu
      have wu : wrap64 (b2 - a2) = u := by rw [← hu]; exact wrap_in (by omega) (by omega)
      obtain ⟨v, hv⟩ : ∃ z : Int, z = c1 - a1 := ⟨_, rfl⟩
      rw [← hv] at qv
      have wv : wrap64 (c1 - a1) = v := by rw [← hv]; exact wrap_in (by omega) (by omega)
      obtain ⟨p, hp⟩ : ∃ z : Int, z = x * y := ⟨_, rfl⟩
      have qp : p.natAbs ≤ 67092481 := by rw [hp]; exact prod_abs qx qy
      have wp : wrap64 (x * y) = p := by rw [← hp]; exact wrap_in (by omega) (by omega)
      obtain ⟨q, hq⟩ : ∃ z : Int, z = u * v := ⟨_, rfl⟩
      have qq : q.natAbs ≤ 67092481 := by rw [hq]; exact prod_abs qu qv
      have wq : wrap64 (u * v) = q := by rw [← hq]; exact wrap_in (by omega) (by omega)
      obtain ⟨z, hz⟩ : ∃ z : Int, z = p - q := ⟨_, rfl⟩
      have qz : z.natAbs ≤ 134184962 := by rw [hz]; omega
      have wz : wrap64 (p - q) = z := by rw [← hz]; exact wrap_in (by omega) (by omega)
      have HG : Hid (g = z.sign) := by unfold Hid; rw [hg, hz, hp, hq, hx, hy, hu, hv]; rfl
      clear hg hz hp hq hx hy hu hv qx qy qu qv qp qq qz
      obtain ⟨W, hW, bW, x_a, x_b, x_c, sW⟩ := bs_222 w (.int .i64 a1) (.int .i64 a2) (.int .i64 b1) (.int .i64 b2) (.int .i64 c1) (.int .i64 c2) 23 23 23
      have zbW := bW.size
      have BB := bW
      go_enter Try.func12, Try.ntmps12
      go_wp2_with (go_at_call 23; fail)
      rw [← hW]
      clear hW
      refine (rpNear a1 a2 b1 b2 W ha hb n1.symm).mono ?_
      rintro e w1 ⟨rfl, bw1⟩
      have zbw1 := bw1.size
      replace BB := also BB bw1
      replace x_a := x_a.on bw1
      replace x_b := x_b.on bw1
      replace x_c := x_c.on bw1
      have ⟨x_a_0, x_a_1, x_a_2, x_a_3⟩ := x_a
      have ⟨x_b_0, x_b_1, x_b_2, x_b_3⟩ := x_b
      have ⟨x_c_0, x_c_1, x_c_2, x_c_3⟩ := x_c
      go_wp2_with (go_at_call 23; fail)
      refine (rpNear a1 a2 c1 c2 w1 ha hc n2.symm).mono ?_
      rintro e w2 ⟨rfl, bw2⟩
      clear x_a_0 x_a_1 x_a_2 x_a_3 x_b_0 x_b_1 x_b_2 x_b_3 x_c_0 x_c_1 x_c_2 x_c_3
      have zbw2 := bw2.size
      replace BB := also BB bw2
      replace x_a := x_a.on bw2
      replace x_b := x_b.on bw2
      replace x_c := x_c.on bw2
      have ⟨x_a_0, x_a_1, x_a_2, x_a_3⟩ := x_a
      have ⟨x_b_0, x_b_1, x_b_2, x_b_3⟩ := x_b
      have ⟨x_c_0, x_c_1, x_c_2, x_c_3⟩ := x_c
      go_wp2_with (go_at_call 24; fail)
      refine (rpSign z w2 HG.out).mono ?_
      rintro e w3 ⟨rfl, bw3⟩
      clear x_a_0 x_a_1 x_a_2 x_a_3 x_b_0 x_b_1 x_b_2 x_b_3 x_c_0 x_c_1 x_c_2 x_c_3
      have zbw3 := bw3.size
      replace BB := also BB bw3
      replace x_a := x_a.on bw3
      replace x_b := x_b.on bw3
      replace x_c := x_c.on bw3
      go_wp2
      go_ret
      exact ⟨rfl, BB⟩
end Go.Proofs.Ytnemailhijkemaa
