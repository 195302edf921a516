/-
  Joined texts, part 9:
  What zelligeref07's flat answers.
-/
import Derived.Test.YtkmgndaholglhaaP8
namespace Go.Proofs.Ytkmgndaholglhaa
open Go.RowKit
set_option linter.unusedVariables false

set_option maxRecDepth 100000 in
set_option maxHeartbeats 4000000 in
theorem rpFlat (a1 a2 b1 b2 c1 c2 d1 d2 : Int) (w : World) (ha : canC a1 a2 = true) (hb : canC b1 b2 = true) (hc : canC c1 c2 = true) (hd : canC d1 d2 = true) (na : nearP a1 a2 d1 d2 = true) (nb : nearP b1 b2 d1 d2 = true) (nc : nearP c1 c2 d1 d2 = true) {g : Int} (hg : g = (detP a1 a2 b1 b2 c1 c2 d1 d2).sign) :
  Calls Try.prog 34 #[.agg #[.int .i64 a1, .int .i64 a2], .agg #[.int .i64 b1, .int .i64 b2], .agg #[.int .i64 c1, .int .i64 c2], .agg #[.int .i64 d1, .int .i64 d2]] w fun e w' => e = .returned (.int .i64 g) ∧ Below w.heap.size w w' := by
 obtain ⟨ma1, ma2⟩ := near_abs na
 obtain ⟨mb1, mb2⟩ := near_abs nb
 obtain ⟨mc1, mc2⟩ := near_abs nc
 obtain ⟨p1, hp1⟩ : ∃ z : Int, z = a1 - d1 := ⟨_, rfl⟩
 have qp1 : p1.natAbs ≤ 8191 := by omega
 have wp1 : wrap64 (a1 - d1) = p1 := by rw [← hp1]; exact wrap_in (by omega) (by omega)
 have vp1 : IntKind.i64.wrap (a1 - d1) = p1 := (wrap_i64 _).trans wp1
 obtain ⟨p2, hp2⟩ : ∃ z : Int, z = a2 - d2 := ⟨_, rfl⟩
 have qp2 : p2.natAbs ≤ 8191 := by omega
 have wp2 : wrap64 (a2 - d2) = p2 := by rw [← hp2]; exact wrap_in (by omega) (by omega)
 have vp2 : IntKind.i64.wrap (a2 - d2) = p2 := (wrap_i64 _).trans wp2
 obtain ⟨p3, hp3⟩ : ∃ z : Int, z = b1 - d1 := ⟨_, rfl⟩
 have qp3 : p3.natAbs ≤ 8191 := by omega
 have wp3 : wrap64 (b1 - d1) = p3 := by rw [← hp3]; exact wrap_in (by omega) (by omega)
 have vp3 : IntKind.i64.wrap (b1 - d1) = p3 := (wrap_i64 _).trans wp3
 obtain ⟨p4, hp4⟩ : ∃ z : Int, z = b2 - d2 := ⟨_, rfl⟩
 have qp4 : p4.natAbs ≤ 8191 := by omega
 have wp4 : wrap64 (b2 - d2) = p4 := by rw [← hp4]; exact wrap_in (by omega) (by omega)
 have vp4 : IntKind.i64.wrap (b2 - d2) = p4 := (wrap_i64 _).trans wp4
 obtain ⟨p5, hp5⟩ : ∃ z : Int, z = c1 - d1 := ⟨_, rfl⟩
 have qp5 : p5.natAbs ≤ 8191 := by omega
 have wp5 : wrap64 (c1 - d1) = p5 := by rw [← hp5]; exact wrap_in (by omega) (by omega)
 have vp5 : IntKind.i64.wrap (c1 - d1) = p5 := (wrap_i64 _).trans wp5
 obtain ⟨p6, hp6⟩ : ∃ z : Int, z = c2 - d2 := ⟨_, rfl⟩
 have qp6 : p6.natAbs ≤ 8191 := by omega
 have wp6 : wrap64 (c2 - d2) = p6 := by rw [← hp6]; exact wrap_in (by omega) (by omega)
 have vp6 : IntKind.i64.wrap (c2 - d2) = p6 := (wrap_i64 _).trans wp6
 obtain ⟨A1, hA1⟩ : ∃ z : Int, z = p1 * p1 := ⟨_, rfl⟩
 have qA1 : A1.natAbs ≤ 67092481 := by rw [hA1]; exact prod_abs qp1 qp1
 have wA1 : wrap64 (p1 * p1) = A1 := by rw [← hA1]; exact wrap_in (by omega) (by omega)
 obtain ⟨B1, hB1⟩ : ∃ z : Int, z = p2 * p2 := ⟨_, rfl⟩
 have qB1 : B1.natAbs ≤ 67092481 := by rw [hB1]; exact prod_abs qp2 qp2
 have wB1 : wrap64 (p2 * p2) = B1 := by rw [← hB1]; exact wrap_in (by omega) (by omega)
 obtain ⟨D1, hD1⟩ : ∃ z : Int, z = A1 + B1 := ⟨_, rfl⟩
 have qD1 : D1.natAbs ≤ 134184962 := by rw [hD1]; omega
 have wD1 : wrap64 (A1 + B1) = D1 := by rw [← hD1]; exact wrap_in (by omega) (by omega)
 obtain ⟨X1, hX1⟩ : ∃ z : Int, z = p3 * p6 := ⟨_, rfl⟩
 have qX1 : X1.natAbs ≤ 67092481 := by rw [hX1]; exact prod_abs qp3 qp6
 have wX1 : wrap64 (p3 * p6) = X1 := by rw [← hX1]; exact wrap_in (by omega) (by omega)
 obtain ⟨Y1, hY1⟩ : ∃ z : Int, z = p4 * p5 := ⟨_, rfl⟩
 have qY1 : Y1.natAbs ≤ 67092481 := by rw [hY1]; exact prod_abs qp4 qp5
 have wY1 : wrap64 (p4 * p5) = Y1 := by rw [← hY1]; exact wrap_in (by omega) (by omega)
 obtain ⟨C1, hC1⟩ : ∃ z : Int, z = X1 - Y1 := ⟨_, rfl⟩
 have qC1 : C1.natAbs ≤ 134184962 := by rw [hC1]; omega
 have wC1 : wrap64 (X1 - Y1) = C1 := by rw [← hC1]; exact wrap_in (by omega) (by omega)
 obtain ⟨M1, hM1⟩ : ∃ z : Int, z = D1 * C1 := ⟨_, rfl⟩
 have qM1 : M1.natAbs ≤ 18005604026941444 := by rw [hM1]; exact prod_abs qD1 qC1
 have wM1 : wrap64 (D1 * C1) = M1 := by rw [← hM1]; exact wrap_in (by omega) (by omega)
 obtain ⟨A2, hA2⟩ : ∃ z : Int, z = p3 * p3 := ⟨_, rfl⟩
 have qA2 : A2.natAbs ≤ 67092481 := by rw [hA2]; exact prod_abs qp3 qp3
 have wA2 : wrap64 (p3 * p3) = A2 := by rw [← hA2]; exact wrap_in (by omega) (by omega)
 obtain ⟨B2, hB2⟩ : ∃ z : Int, z = p4 * p4 := ⟨_, rfl⟩
 have qB2 : B2.natAbs ≤ 67092481 := by rw [hB2]; exact prod_abs qp4 qp4
 have wB2 : wrap64 (p4 * p4) = B2 := by rw [← hB2]; exact wrap_in (by omega) (by omega)
 obtain ⟨D2, hD2⟩ : ∃ z : Int, z = A2 + B2 := ⟨_, rfl⟩
 have qD2 : D2.natAbs ≤ 134184962 := by rw [hD2]; omega
 have wD2 : wrap64 (A2 + B2) = D2 := by rw [← hD2]; exact wrap_in (by omega) (by omega)
 obtain ⟨X2, hX2⟩ : ∃ z : Int, z = p1 * p6 := ⟨_, rfl⟩
 have qX2 : X2.natAbs ≤ 67092481 := by rw [hX2]; exact prod_abs qp1 qp6
 have wX2 : wrap64 (p1 * p6) = X2 := by rw [← hX2]; exact wrap_in (by omega) (by omega)
 obtain ⟨Y2, hY2⟩ : ∃ z : Int, z = p2 * p5 := ⟨_, rfl⟩
 have qY2 : Y2.natAbs ≤ 67092481 := by rw [hY2]; exact prod_abs qp2 qp5
 have wY2 : wrap64 (p2 * p5) = Y2 := by rw [← hY2]; exact wrap_in (by omega) (by omega)
 obtain ⟨C2, hC2⟩ : ∃ z : Int, z = X2 - Y2 := ⟨_, rfl⟩
 have qC2 : C2.natAbs ≤ 134184962 := by rw [hC2]; omega
 have wC2 : wrap64 (X2 - Y2) = C2 := by rw [← hC2]; exact wrap_in (by omega) (by omega)
 obtain ⟨M2, hM2⟩ : ∃ z : Int, z = D2 * C2 := ⟨_, rfl⟩
 have qM2 : M2.natAbs ≤ 18005604026941444 := by rw [hM2]; exact prod_abs qD2 qC2
 have wM2 : wrap64 (D2 * C2) = M2 := by rw [← hM2]; exact wrap_in (by omega) (by omega)
 obtain ⟨S1, hS1⟩ : ∃ z : Int, z = M1 - M2 := ⟨_, rfl⟩
 have qS1 : S1.natAbs ≤ 36011208053882888 := by rw [hS1]; omega
 have wS1 : wrap64 (M1 - M2) = S1 := by rw [← hS1]; exact wrap_in (by omega) (by omega)
 obtain ⟨A3, hA3⟩ : ∃ z : Int, z = p5 * p5 := ⟨_, rfl⟩
 have qA3 : A3.natAbs ≤ 67092481 := by rw [hA3]; exact prod_abs qp5 qp5
 have wA3 : wrap64 (p5 * p5) = A3 := by rw [← hA3]; exact wrap_in (by omega) (by omega)
 obtain ⟨B3, hB3⟩ : ∃ z : Int, z = p6 * p6 := ⟨_, rfl⟩
 have qB3 : B3.natAbs ≤ 67092481 := by rw [hB3]; exact prod_abs qp6 qp6
 have wB3 : wrap64 (p6 * p6) = B3 := by rw [← hB3]; exact wrap_in (by omega) (by omega)
 obtain ⟨D3, hD3⟩ : ∃ z : Int, z = A3 + B3 := ⟨_, rfl⟩
 have qD3 : D3.natAbs ≤ 134184962 := by rw [hD3]; omega
 have wD3 : wrap64 (A3 + B3) = D3 := by rw [← hD3]; exact wrap_in (by omega) (by omega)
 obtain ⟨X3, hX3⟩ : ∃ z : Int, z = p1 * p4 := ⟨_, rfl⟩
 have qX3 : X3.natAbs ≤ 67092481 := by rw [hX3]; exact prod_abs qp1 qp4
 have wX3 : wrap64 (p1 * p4) = X3 := by rw [← hX3]; exact wrap_in (by omega) (by omega)
 obtain ⟨Y3, hY3⟩ : ∃ z : Int, z = p2 * p3 := ⟨_, rfl⟩
 have qY3 : Y3.natAbs ≤ 67092481 := by rw [hY3]; exact prod_abs qp2 qp3
 have wY3 : wrap64 (p2 * p3) = Y3 := by rw [← hY3]; exact wrap_in (by omega) (by omega)
 obtain ⟨C3, hC3⟩ : ∃ z : Int, z = X3 - Y3 := ⟨_, rfl⟩
 have qC3 : C3.natAbs ≤ 134184962 := by rw [hC3]; omega
 have wC3 : wrap64 (X3 - Y3) = C3 := by rw [← hC3]; exact wrap_in (by omega) (by omega)
 obtain ⟨M3, hM3⟩ : ∃ z : Int, z = D3 * C3 := ⟨_, rfl⟩
 have qM3 : M3.natAbs ≤ 18005604026941444 := by rw [hM3]; exact prod_abs qD3 qC3
 have wM3 : wrap64 (D3 * C3) = M3 := by rw [← hM3]; exact wrap_in (by omega) (by omega)
 obtain ⟨S2, hS2⟩ : ∃ z : Int, z = S1 + M3 := ⟨_, rfl⟩
 have qS2 : S2.natAbs ≤ 54016812080824332 := by rw [hS2]; omega
 have wS2 : wrap64 (S1 + M3) = S2 := by rw [← hS2]; exact wrap_in (by omega) (by omega)
 have HG : Hid (g = S2.sign) := by unfold Hid; rw [hg]; unfold detP; rw [dist_turn a1 a2 d1 d2, dist_turn b1 b2 d1 d2, dist_turn c1 c2 d1 d2]; unfold distP; rw [hS2, hS1, hM1, hM2, hM3, hD1, hD2, hD3, hC1, hC2, hC3, hA1, hB1, hX1, hY1, hA2, hB2, hX2, hY2, hA3, hB3, hX3, hY3, hp1, hp2, hp3, hp4, hp5, hp6]
 clear hg hA1 qA1 hB1 qB1 hD1 qD1 hX1 qX1 hY1 qY1 hC1 qC1 hM1 qM1 hA2 qA2 hB2 qB2 hD2 qD2 hX2 qX2 hY2 qY2 hC2 qC2 hM2 qM2 hS1 qS1 hA3 qA3 hB3 qB3 hD3 qD3 hX3 qX3 hY3 qY3 hC3 qC3 hM3 qM3 hS2 qS2 hp1 qp1 hp2 qp2 hp3 qp3 hp4 qp4 hp5 qp5 hp6 qp6 ma1 ma2 na ha mb1 mb2 nb hb mc1 mc2 nc hc hd
 obtain ⟨W, hW, bW, x_a, x_b, x_c, x_d, sW⟩ := bs_2222 w (.int .i64 a1) (.int .i64 a2) (.int .i64 b1) (.int .i64 b2) (.int .i64 c1) (.int .i64 c2) (.int .i64 d1) (.int .i64 d2) 31 31 31 31
 have zbW := bW.size
 have BB := bW
 go_enter Try.func34, Try.ntmps34
 go_wp2
 rw [← hW]
 clear hW
 have dd1 : Below W.heap.size W W.drew := (Below.refl _ _).drew
 have zdd1 := dd1.size
 replace BB := also BB dd1
 replace x_a := x_a.on dd1
 replace x_b := x_b.on dd1
 replace x_c := x_c.on dd1
 replace x_d := x_d.on dd1
 refine wp_region_held_drew (S := (fun w' => w'.cell? ⟨w.heap.size, 0, none⟩ = some (.int .i64 a1) ∧ w'.cell? ⟨w.heap.size, 1, none⟩ = some (.int .i64 a2) ∧ w'.cell? ⟨w.heap.size + 1, 0, none⟩ = some (.int .i64 b1) ∧ w'.cell? ⟨w.heap.size + 1, 1, none⟩ = some (.int .i64 b2) ∧ w'.cell? ⟨w.heap.size + 1 + 1, 0, none⟩ = some (.int .i64 c1) ∧ w'.cell? ⟨w.heap.size + 1 + 1, 1, none⟩ = some (.int .i64 c2) ∧ w'.cell? ⟨w.heap.size + 1 + 1 + 1, 0, none⟩ = some (.int .i64 d1) ∧ w'.cell? ⟨w.heap.size + 1 + 1 + 1, 1, none⟩ = some (.int .i64 d2) ∧ Below w.heap.size w w')) (by kernel_rfl) ?_ (fun hHeld => ?_)
 ·exact ⟨x_a.c0, x_a.c1, x_b.c0, x_b.c1, x_c.c0, x_c.c1, x_d.c0, x_d.c1, BB⟩
 refine tz (i := 0) rfl ?_
 simp only [Act.put, ps1, ps2, ps3]
 refine tz (i := 1) rfl ?_
 simp only [Act.put, ps1, ps2, ps3]
 refine tz (i := 2) rfl ?_
 simp only [Act.put, ps1, ps2, ps3]
 refine tz (i := 3) rfl ?_
 simp only [Act.put, ps1, ps2, ps3]
 refine tz (i := 4) rfl ?_
 simp only [Act.put, ps1, ps2, ps3]
 refine tz (i := 5) rfl ?_
 simp only [Act.put, ps1, ps2, ps3]
 refine tz (i := 6) rfl ?_
 simp only [Act.put, ps1, ps2, ps3]
 refine tz (i := 7) rfl ?_
 simp only [Act.put, ps1, ps2, ps3]
 refine tz (i := 8) rfl ?_
 simp only [Act.put, ps1, ps2, ps3]
 refine tz (i := 9) rfl ?_
 simp only [Act.put, ps1, ps2, ps3]
 refine tz (i := 10) rfl ?_
 simp only [Act.put, ps1, ps2, ps3]
 refine tz (i := 11) rfl ?_
 simp only [Act.put, ps1, ps2, ps3]
 refine tz (i := 12) rfl ?_
 simp only [Act.put, ps1, ps2, ps3]
 refine tz (i := 13) rfl ?_
 simp only [Act.put, ps1, ps2, ps3]
 refine tz (i := 14) rfl ?_
 simp only [Act.put, ps1, ps2, ps3]
 refine tz (i := 15) rfl ?_
 simp only [Act.put, ps1, ps2, ps3]
 refine tz (i := 16) rfl ?_
 simp only [Act.put, ps1, ps2, ps3]
 refine tz (i := 17) rfl ?_
 simp only [Act.put, ps1, ps2, ps3]
 refine tz (i := 18) rfl ?_
 simp only [Act.put, ps1, ps2, ps3]
 refine tz (i := 19) rfl ?_
 simp only [Act.put, ps1, ps2, ps3]
 refine tz (i := 20) rfl ?_
 simp only [Act.put, ps1, ps2, ps3]
 refine tz (i := 21) rfl ?_
 simp only [Act.put, ps1, ps2, ps3]
 refine tz (i := 22) rfl ?_
 simp only [Act.put, ps1, ps2, ps3]
 refine tz (i := 23) rfl ?_
 simp only [Act.put, ps1, ps2, ps3]
 refine tz (i := 24) rfl ?_
 simp only [Act.put, ps1, ps2, ps3]
 refine tz (i := 25) rfl ?_
 simp only [Act.put, ps1, ps2, ps3]
 refine tz (i := 26) rfl ?_
 simp only [Act.put, ps1, ps2, ps3]
 refine tz (i := 27) rfl ?_
 simp only [Act.put, ps1, ps2, ps3]
 refine tz (i := 28) rfl ?_
 simp only [Act.put, ps1, ps2, ps3]
 refine tz (i := 29) rfl ?_
 simp only [Act.put, ps1, ps2, ps3]
 refine tz (i := 30) rfl ?_
 simp only [Act.put, ps1, ps2, ps3]
 refine tz (i := 31) rfl ?_
 simp only [Act.put, ps1, ps2, ps3]
 refine tz (i := 32) rfl ?_
 simp only [Act.put, ps1, ps2, ps3]
 refine tz (i := 33) rfl ?_
 simp only [Act.put, ps1, ps2, ps3]
 refine tz (i := 34) rfl ?_
 simp only [Act.put, ps1, ps2, ps3]
 refine tz (i := 35) rfl ?_
 simp only [Act.put, ps1, ps2, ps3]
 refine wpAnyH_done (by kernel_rfl) ?_ _
 go_wp2_with (go_at_call 32; fail)
 refine (rpSign S2 W.drew HG.out).mono ?_
 rintro e w1 ⟨rfl, bw1⟩
 have zbw1 := bw1.size
 replace BB := also BB bw1
 replace x_a := x_a.on bw1
 replace x_b := x_b.on bw1
 replace x_c := x_c.on bw1
 replace x_d := x_d.on bw1
 go_wp2
 go_ret
 exact ⟨rfl, BB⟩
end Go.Proofs.Ytkmgndaholglhaa
