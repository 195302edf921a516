/-
  Joined texts, part 9:
  What package circum's narrow, crossed and squares answer.
  The laws' own look and cut of layer 4.
  What package whole's OfQuad answers.
  What nat's gcdSmall and restOf answer.
  What nat's headAt and small answer.
  What nat's between answers.
  The mathematics of foreseen divisions (Lehmer's, by Collins' condition): what the heads of two numbers tell of the numbers. It imports nothing of the program.
  What nat's foresee answers.
-/
import Derived.Test.YtcaihoomcdbfnaaGreatP8
import Derived.Deep.AppendLies
import Derived.BigQuiet
namespace Go.Proofs.YtcaihoomcdbfnaaGreat
open Go.RowKit
set_option linter.unusedVariables false

def W128 (x : Int) : Prop := -170141183460469231731687303715884105728 ≤ x ∧ x < 170141183460469231731687303715884105728
def W256 (x : Int) : Prop := -57896044618658097711785492504343953926634992332820282019728792003956564819968 ≤ x ∧ x < 57896044618658097711785492504343953926634992332820282019728792003956564819968
theorem w128_64 {x : Int} (h : R64 x) : W128 x := by unfold R64 at h; unfold W128; omega
theorem xOf (x : Int) (R : Hid (R64 x)) {xh xl : Int} (hxh : xh = lw.hi x) (hxl : xl = lw.lo x) (w : World) :
    Calls Tryz.prog 43 #[.int .i64 x] w fun e w' => e = .returned (.agg #[.int .i64 xh, .int .u64 xl]) ∧ Below w.heap.size w w' := by
  subst hxh hxl
  exact lw.of_any x R.out.1 R.out.2 w
theorem xAdd (a b : Int) {ah al : Int} (hah : ah = lw.hi a) (hal : al = lw.lo a) {bh bl : Int} (hbh : bh = lw.hi b) (hbl : bl = lw.lo b) {ch cl : Int} (hch : ch = lw.hi (a + b)) (hcl : cl = lw.lo (a + b)) (w : World) :
    Calls Tryz.prog 24 #[.agg #[.int .i64 ah, .int .u64 al], .agg #[.int .i64 bh, .int .u64 bl]] w fun e w' => e = .returned (.agg #[.int .i64 ch, .int .u64 cl]) ∧ Below w.heap.size w w' := by
  subst hch hcl
  exact lw.add_any a b hah hal hbh hbl w
theorem xSign (a : Int) {ah al : Int} (hah : ah = lw.hi a) (hal : al = lw.lo a) (R : Hid (W128 a)) {g : Int} (hg : g = a.sign) (w : World) :
    Calls Tryz.prog 50 #[.agg #[.int .i64 ah, .int .u64 al]] w fun e w' => e = .returned (.int .i64 g) ∧ Below w.heap.size w w' := by
  rw [hg, ← lw_sign]
  exact lw.sign_any a hah hal R.out.1 R.out.2 w
theorem xMul (a b : Int) {ah al : Int} (hah : ah = lw.hi a) (hal : al = lw.lo a) {bh bl : Int} (hbh : bh = lw.hi b) (hbl : bl = lw.lo b) (Ra : Hid (W128 a)) (Rb : Hid (W128 b)) {q0 q1 q2 q3 : Int} (hq : lq.Wd (a * b) q0 q1 q2 q3) (w : World) :
    Calls Tryz.prog 34 #[.agg #[.int .i64 ah, .int .u64 al], .agg #[.int .i64 bh, .int .u64 bl]] w fun e w' => e = .returned (.agg #[.int .u64 q0, .int .u64 q1, .int .u64 q2, .int .u64 q3]) ∧ Below w.heap.size w w' := by
  obtain ⟨rfl, rfl, rfl, rfl⟩ := hq
  exact lq.qmul_any a b hah hal hbh hbl Ra.out.1 Ra.out.2 Rb.out.1 Rb.out.2 w
theorem xQadd (a b : Int) {a0 a1 a2 a3 : Int} (ha : lq.Wd a a0 a1 a2 a3) {b0 b1 b2 b3 : Int} (hb : lq.Wd b b0 b1 b2 b3) {q0 q1 q2 q3 : Int} (hq : lq.Wd (a + b) q0 q1 q2 q3) (w : World) :
    Calls Tryz.prog 56 #[.agg #[.int .u64 a0, .int .u64 a1, .int .u64 a2, .int .u64 a3], .agg #[.int .u64 b0, .int .u64 b1, .int .u64 b2, .int .u64 b3]] w fun e w' => e = .returned (.agg #[.int .u64 q0, .int .u64 q1, .int .u64 q2, .int .u64 q3]) ∧ Below w.heap.size w w' := by
  obtain ⟨rfl, rfl, rfl, rfl⟩ := hq
  exact lq.qadd_any a b ha hb w
theorem xQsub (a b : Int) {a0 a1 a2 a3 : Int} (ha : lq.Wd a a0 a1 a2 a3) {b0 b1 b2 b3 : Int} (hb : lq.Wd b b0 b1 b2 b3) {q0 q1 q2 q3 : Int} (hq : lq.Wd (a - b) q0 q1 q2 q3) (w : World) :
    Calls Tryz.prog 71 #[.agg #[.int .u64 a0, .int .u64 a1, .int .u64 a2, .int .u64 a3], .agg #[.int .u64 b0, .int .u64 b1, .int .u64 b2, .int .u64 b3]] w fun e w' => e = .returned (.agg #[.int .u64 q0, .int .u64 q1, .int .u64 q2, .int .u64 q3]) ∧ Below w.heap.size w w' := by
  obtain ⟨rfl, rfl, rfl, rfl⟩ := hq
  exact lq.qsub_any a b ha hb w
theorem xSmall (a : Int) {q0 q1 q2 q3 : Int} (hq : lq.Wd a q0 q1 q2 q3) (R : Hid (W128 a)) {ah al : Int} (hah : ah = lw.hi a) (hal : al = lw.lo a) (w : World) :
    Calls Tryz.prog 76 #[.agg #[.int .u64 q0, .int .u64 q1, .int .u64 q2, .int .u64 q3]] w fun e w' => e = .returned (.tuple #[.agg #[.int .i64 ah, .int .u64 al], .bool true]) ∧ Below w.heap.size w w' := by
  subst hah hal
  exact lq.qsmall_yes a hq R.out.1 R.out.2 w
theorem xCmp (a b : Int) {a0 a1 a2 a3 : Int} (ha : lq.Wd a a0 a1 a2 a3) {b0 b1 b2 b3 : Int} (hb : lq.Wd b b0 b1 b2 b3) (Ra : Hid (W256 a)) (Rb : Hid (W256 b)) {g : Int} (hg : g = lq.cmpI a b) (w : World) :
    Calls Tryz.prog 44 #[.agg #[.int .u64 a0, .int .u64 a1, .int .u64 a2, .int .u64 a3], .agg #[.int .u64 b0, .int .u64 b1, .int .u64 b2, .int .u64 b3]] w fun e w' => e = .returned (.int .i64 g) ∧ Below w.heap.size w w' := by
  rw [hg]
  exact lq.qcmp_any a b ha hb Ra.out.1 Ra.out.2 Rb.out.1 Rb.out.2 w
set_option maxRecDepth 100000 in
set_option maxHeartbeats 8000000 in
theorem cNarrow (a : Int) {q0 q1 q2 q3 : Int} (hq : lq.Wd a q0 q1 q2 q3) (R : Hid (W128 a)) {ah al : Int} (hah : ah = lw.hi a) (hal : al = lw.lo a) (w : World) :
    Calls Tryz.prog 42 #[.agg #[.int .u64 q0, .int .u64 q1, .int .u64 q2, .int .u64 q3]] w fun e w' => e = .returned (.agg #[.int .i64 ah, .int .u64 al]) ∧ Below w.heap.size w w' := by
  have Hq : Hid _ := hq
  have Hah : Hid _ := hah
  have Hal : Hid _ := hal
  clear hq hah hal
  obtain ⟨W, hW, bW, x_q, x_r, sW⟩ := bs_42 w (.int .u64 q0) (.int .u64 q1) (.int .u64 q2) (.int .u64 q3) (.int .i64 0) (.int .u64 0) 77 61
  have zbW := bW.size
  have BB := bW
  go_enter Tryz.func42, Tryz.ntmps42
  go_wp2_with (go_at_call 76; fail)
  rw [← hW]
  clear hW
  refine (xSmall a Hq.out R Hah.out Hal.out W).mono ?_
  rintro e w1 ⟨rfl, bw1⟩
  have zbw1 := bw1.size
  replace BB := also BB bw1
  replace x_q := x_q.on bw1
  replace x_r := x_r.on bw1
  obtain ⟨V, hV, bV, x_s, sV⟩ := bs_2 w1 (.int .i64 ah) (.int .u64 al) 61
  have zbV := bV.size
  replace BB := also BB bV
  replace x_q := x_q.on bV
  replace x_r := x_r.on bV
  have st_r_0 : (w1.alloc (.cells #[.int .i64 ah, .int .u64 al] 61)).cell? ⟨w.heap.size + 1, 0, none⟩ = some (.int .i64 0) := by rw [← hV]; exact x_r.c0
  have st_r_1 : (w1.alloc (.cells #[.int .i64 ah, .int .u64 al] 61)).cell? ⟨w.heap.size + 1, 1, none⟩ = some (.int .u64 0) := by rw [← hV]; exact x_r.c1
  have sf_r_0 : (w1.alloc (.cells #[.int .i64 ah, .int .u64 al] 61)).frozen? ⟨w.heap.size + 1, 0, none⟩ = false := by rw [← hV]; exact x_r.f0
  have sf_r_1 : (w1.alloc (.cells #[.int .i64 ah, .int .u64 al] 61)).frozen? ⟨w.heap.size + 1, 1, none⟩ = false := by rw [← hV]; exact x_r.f1
  go_wp2
  rw [← hV]
  clear hV st_r_0 st_r_1 sf_r_0 sf_r_1
  have ⟨x_r_0, x_r_1, x_r_2, x_r_3⟩ := x_r
  exact bodyPost_ret (v := .agg #[.int .i64 ah, .int .u64 al]) (by simp [results, Tryz.results42, go_sem, *]) rfl (⟨rfl, below_put2 BB (by omega) _ _⟩)
set_option maxRecDepth 100000 in
set_option maxHeartbeats 8000000 in
theorem cCrossed (a x b y : Int) {ah al : Int} (hah : ah = lw.hi a) (hal : al = lw.lo a) {bh bl : Int} (hbh : bh = lw.hi b) (hbl : bl = lw.lo b) (Ra : Hid (W128 a)) (Rx : Hid (R64 x)) (Rb : Hid (W128 b)) (Ry : Hid (R64 y)) (Rc : Hid (W128 (a * x - b * y))) {ch cl : Int} (hch : ch = lw.hi (a * x - b * y)) (hcl : cl = lw.lo (a * x - b * y)) (w : World) :
    Calls Tryz.prog 52 #[.agg #[.int .i64 ah, .int .u64 al], .int .i64 x, .agg #[.int .i64 bh, .int .u64 bl], .int .i64 y] w fun e w' => e = .returned (.agg #[.int .i64 ch, .int .u64 cl]) ∧ Below w.heap.size w w' := by
  have Hah : Hid _ := hah
  have Hal : Hid _ := hal
  have Hbh : Hid _ := hbh
  have Hbl : Hid _ := hbl
  have Hch : Hid _ := hch
  have Hcl : Hid _ := hcl
  clear hah hal hbh hbl hch hcl
  obtain ⟨xh, hxh⟩ : ∃ z, z = lw.hi (x) := ⟨_, rfl⟩
  obtain ⟨xl, hxl⟩ : ∃ z, z = lw.lo (x) := ⟨_, rfl⟩
  have Hxh : Hid _ := hxh
  have Hxl : Hid _ := hxl
  clear hxh hxl
  obtain ⟨yh, hyh⟩ : ∃ z, z = lw.hi (y) := ⟨_, rfl⟩
  obtain ⟨yl, hyl⟩ : ∃ z, z = lw.lo (y) := ⟨_, rfl⟩
  have Hyh : Hid _ := hyh
  have Hyl : Hid _ := hyl
  clear hyh hyl
  obtain ⟨m0, m1, m2, m3, hm⟩ : ∃ q0 q1 q2 q3, lq.Wd (a * x) q0 q1 q2 q3 := ⟨_, _, _, _, lq.wd_self _⟩
  have Hm : Hid _ := hm
  clear hm
  obtain ⟨n0, n1, n2, n3, hn⟩ : ∃ q0 q1 q2 q3, lq.Wd (b * y) q0 q1 q2 q3 := ⟨_, _, _, _, lq.wd_self _⟩
  have Hn : Hid _ := hn
  clear hn
  obtain ⟨z0, z1, z2, z3, hz⟩ : ∃ q0 q1 q2 q3, lq.Wd (a * x - b * y) q0 q1 q2 q3 := ⟨_, _, _, _, lq.wd_self _⟩
  have Hz : Hid _ := hz
  clear hz
  have Sx : Hid (W128 x) := w128_64 Rx
  have Sy : Hid (W128 y) := w128_64 Ry
  obtain ⟨W, hW, bW, x_a, x_b, x_r, sW⟩ := bs_222 w (.int .i64 ah) (.int .u64 al) (.int .i64 bh) (.int .u64 bl) (.int .i64 0) (.int .u64 0) 61 61 61
  have zbW := bW.size
  have BB := bW
  go_enter Tryz.func52, Tryz.ntmps52
  go_wp2
  rw [← hW]
  clear hW
  have dd1 : Below W.heap.size W W.drew := (Below.refl _ _).drew
  have zdd1 := dd1.size
  replace BB := also BB dd1
  replace x_a := x_a.on dd1
  replace x_b := x_b.on dd1
  replace x_r := x_r.on dd1
  refine wp_region_held_drew (S := (fun w' => w'.cell? ⟨w.heap.size, 0, none⟩ = some (.int .i64 ah) ∧ w'.cell? ⟨w.heap.size, 1, none⟩ = some (.int .u64 al) ∧ w'.cell? ⟨w.heap.size + 1, 0, none⟩ = some (.int .i64 bh) ∧ w'.cell? ⟨w.heap.size + 1, 1, none⟩ = some (.int .u64 bl) ∧ Below w.heap.size w w')) (by kernel_rfl) ?_ (fun hHeld => ?_)
  · exact ⟨x_a.c0, x_a.c1, x_b.c0, x_b.c1, BB⟩
  refine take_yes (i := 0) (v := ?vs0) rfl (by kernel_rfl) (by kernel_rfl) (by kernel_rfl) (fun _ _ _ h => h) (by rfl) (by assumption) ?hys0 ?rests0
  case hys0 => (intro w hSw; (try dsimp only at hSw); first | (go_simp; done) | (go_simp; with_reducible rfl))
  simp only [Act.put, List.setIfInBounds_toArray, List.set_cons_zero, List.set_cons_succ]
  refine take_yes (i := 1) (v := ?vs1) rfl (by kernel_rfl) (by kernel_rfl) (by kernel_rfl) (fun _ _ _ h => h) (by rfl) (by assumption) ?hys1 ?rests1
  case hys1 => (intro w hSw; (try dsimp only at hSw); first | (go_simp; done) | (go_simp; with_reducible rfl))
  simp only [Act.put, List.setIfInBounds_toArray, List.set_cons_zero, List.set_cons_succ]
  refine take_yes (i := 4) (v := ?vs4) rfl (by kernel_rfl) (by kernel_rfl) (by kernel_rfl) (fun _ _ _ h => h) (by rfl) (by assumption) ?hys4 ?rests4
  case hys4 => (intro w hSw; (try dsimp only at hSw); first | (go_simp; done) | (go_simp; with_reducible rfl))
  simp only [Act.put, List.setIfInBounds_toArray, List.set_cons_zero, List.set_cons_succ]
  refine take_yes (i := 5) (v := ?vs5) rfl (by kernel_rfl) (by kernel_rfl) (by kernel_rfl) (fun _ _ _ h => h) (by rfl) (by assumption) ?hys5 ?rests5
  case hys5 => (intro w hSw; (try dsimp only at hSw); first | (go_simp; done) | (go_simp; with_reducible rfl))
  simp only [Act.put, List.setIfInBounds_toArray, List.set_cons_zero, List.set_cons_succ]
  refine take_call (i := 2) rfl (by kernel_rfl) (fun Kc hK => ?_)
  go_simp
  (go_at_call 43; refine (xOf x Rx Hxh.out Hxl.out _).mono ?_; rintro e w1 ⟨rfl, bw1⟩)
  refine hK.out _ _ ?_ (fun hHeld => ?_)
  · exact ⟨cell_on bw1 hHeld.1, cell_on bw1 hHeld.2.1, cell_on bw1 hHeld.2.2.1, cell_on bw1 hHeld.2.2.2.1, also hHeld.2.2.2.2 bw1⟩
  clear hK Kc
  have zbw1 := bw1.size
  replace BB := also BB bw1
  replace x_a := x_a.on bw1
  replace x_b := x_b.on bw1
  replace x_r := x_r.on bw1
  refine take_call (i := 3) rfl (by kernel_rfl) (fun Kc hK => ?_)
  go_simp
  (go_at_call 34; refine (xMul a x Hah.out Hal.out Hxh.out Hxl.out Ra Sx Hm.out _).mono ?_; rintro e w2 ⟨rfl, bw2⟩)
  refine hK.out _ _ ?_ (fun hHeld => ?_)
  · exact ⟨cell_on bw2 hHeld.1, cell_on bw2 hHeld.2.1, cell_on bw2 hHeld.2.2.1, cell_on bw2 hHeld.2.2.2.1, also hHeld.2.2.2.2 bw2⟩
  clear hK Kc
  have zbw2 := bw2.size
  replace BB := also BB bw2
  replace x_a := x_a.on bw2
  replace x_b := x_b.on bw2
  replace x_r := x_r.on bw2
  refine take_call (i := 6) rfl (by kernel_rfl) (fun Kc hK => ?_)
  go_simp
  (go_at_call 43; refine (xOf y Ry Hyh.out Hyl.out _).mono ?_; rintro e w3 ⟨rfl, bw3⟩)
  refine hK.out _ _ ?_ (fun hHeld => ?_)
  · exact ⟨cell_on bw3 hHeld.1, cell_on bw3 hHeld.2.1, cell_on bw3 hHeld.2.2.1, cell_on bw3 hHeld.2.2.2.1, also hHeld.2.2.2.2 bw3⟩
  clear hK Kc
  have zbw3 := bw3.size
  replace BB := also BB bw3
  replace x_a := x_a.on bw3
  replace x_b := x_b.on bw3
  replace x_r := x_r.on bw3
  refine take_call (i := 7) rfl (by kernel_rfl) (fun Kc hK => ?_)
  go_simp
  (go_at_call 34; refine (xMul b y Hbh.out Hbl.out Hyh.out Hyl.out Rb Sy Hn.out _).mono ?_; rintro e w4 ⟨rfl, bw4⟩)
  refine hK.out _ _ ?_ (fun hHeld => ?_)
  · exact ⟨cell_on bw4 hHeld.1, cell_on bw4 hHeld.2.1, cell_on bw4 hHeld.2.2.1, cell_on bw4 hHeld.2.2.2.1, also hHeld.2.2.2.2 bw4⟩
  clear hK Kc
  have zbw4 := bw4.size
  replace BB := also BB bw4
  replace x_a := x_a.on bw4
  replace x_b := x_b.on bw4
  replace x_r := x_r.on bw4
  refine take_call (i := 8) rfl (by kernel_rfl) (fun Kc hK => ?_)
  go_simp
  (go_at_call 71; refine (xQsub _ _ Hm.out Hn.out Hz.out _).mono ?_; rintro e w5 ⟨rfl, bw5⟩)
  refine hK.out _ _ ?_ (fun hHeld => ?_)
  · exact ⟨cell_on bw5 hHeld.1, cell_on bw5 hHeld.2.1, cell_on bw5 hHeld.2.2.1, cell_on bw5 hHeld.2.2.2.1, also hHeld.2.2.2.2 bw5⟩
  clear hK Kc
  have zbw5 := bw5.size
  replace BB := also BB bw5
  replace x_a := x_a.on bw5
  replace x_b := x_b.on bw5
  replace x_r := x_r.on bw5
  refine take_call (i := 9) rfl (by kernel_rfl) (fun Kc hK => ?_)
  go_simp
  (go_at_call 42; refine (cNarrow _ Hz.out Rc Hch.out Hcl.out _).mono ?_; rintro e w6 ⟨rfl, bw6⟩)
  refine hK.out _ _ ?_ (fun hHeld => ?_)
  · exact ⟨cell_on bw6 hHeld.1, cell_on bw6 hHeld.2.1, cell_on bw6 hHeld.2.2.1, cell_on bw6 hHeld.2.2.2.1, also hHeld.2.2.2.2 bw6⟩
  clear hK Kc
  have zbw6 := bw6.size
  replace BB := also BB bw6
  replace x_a := x_a.on bw6
  replace x_b := x_b.on bw6
  replace x_r := x_r.on bw6
  have ⟨x_r_0, x_r_1, x_r_2, x_r_3⟩ := x_r
  refine take_call (i := 10) rfl (by kernel_rfl) (fun Kc hK => ?_)
  go_simp
  refine hK.out _ _ ?_ (fun hHeld => ?_)
  · first | exact ⟨cell_put2 hHeld.1 (by omega) _ _, cell_put2 hHeld.2.1 (by omega) _ _, cell_put2 hHeld.2.2.1 (by omega) _ _, cell_put2 hHeld.2.2.2.1 (by omega) _ _, below_put2 hHeld.2.2.2.2 (by omega) _ _⟩ | exact ⟨x_a.c0, x_a.c1, x_b.c0, x_b.c1, BB⟩
  clear hK Kc
  refine wpAnyH_done (by kernel_rfl) ?_ _
  go_wp2
  exact bodyPost_ret (v := .agg #[.int .i64 ch, .int .u64 cl]) (by simp [results, Tryz.results52, go_sem, *]) rfl (⟨rfl, below_put2 BB (by omega) _ _⟩)
set_option maxRecDepth 100000 in
set_option maxHeartbeats 8000000 in
theorem cSquares (a b : Int) {ah al : Int} (hah : ah = lw.hi a) (hal : al = lw.lo a) {bh bl : Int} (hbh : bh = lw.hi b) (hbl : bl = lw.lo b) (Ra : Hid (W128 a)) (Rb : Hid (W128 b)) {q0 q1 q2 q3 : Int} (hq : lq.Wd (a * a + b * b) q0 q1 q2 q3) (w : World) :
    Calls Tryz.prog 33 #[.agg #[.int .i64 ah, .int .u64 al], .agg #[.int .i64 bh, .int .u64 bl]] w fun e w' => e = .returned (.agg #[.int .u64 q0, .int .u64 q1, .int .u64 q2, .int .u64 q3]) ∧ Below w.heap.size w w' := by
  have Hah : Hid _ := hah
  have Hal : Hid _ := hal
  have Hbh : Hid _ := hbh
  have Hbl : Hid _ := hbl
  have Hq : Hid _ := hq
  clear hah hal hbh hbl hq
  obtain ⟨m0, m1, m2, m3, hm⟩ : ∃ q0 q1 q2 q3, lq.Wd (a * a) q0 q1 q2 q3 := ⟨_, _, _, _, lq.wd_self _⟩
  have Hm : Hid _ := hm
  clear hm
  obtain ⟨n0, n1, n2, n3, hn⟩ : ∃ q0 q1 q2 q3, lq.Wd (b * b) q0 q1 q2 q3 := ⟨_, _, _, _, lq.wd_self _⟩
  have Hn : Hid _ := hn
  clear hn
  obtain ⟨W, hW, bW, x_a, x_b, x_r, sW⟩ := bs_224 w (.int .i64 ah) (.int .u64 al) (.int .i64 bh) (.int .u64 bl) (.int .u64 0) (.int .u64 0) (.int .u64 0) (.int .u64 0) 61 61 77
  have zbW := bW.size
  have BB := bW
  go_enter Tryz.func33, Tryz.ntmps33
  go_wp2
  rw [← hW]
  clear hW
  have dd1 : Below W.heap.size W W.drew := (Below.refl _ _).drew
  have zdd1 := dd1.size
  replace BB := also BB dd1
  replace x_a := x_a.on dd1
  replace x_b := x_b.on dd1
  replace x_r := x_r.on dd1
  refine wp_region_held_drew (S := (fun w' => w'.cell? ⟨w.heap.size, 0, none⟩ = some (.int .i64 ah) ∧ w'.cell? ⟨w.heap.size, 1, none⟩ = some (.int .u64 al) ∧ w'.cell? ⟨w.heap.size + 1, 0, none⟩ = some (.int .i64 bh) ∧ w'.cell? ⟨w.heap.size + 1, 1, none⟩ = some (.int .u64 bl) ∧ Below w.heap.size w w')) (by kernel_rfl) ?_ (fun hHeld => ?_)
  · exact ⟨x_a.c0, x_a.c1, x_b.c0, x_b.c1, BB⟩
  refine take_yes (i := 0) (v := ?vs0) rfl (by kernel_rfl) (by kernel_rfl) (by kernel_rfl) (fun _ _ _ h => h) (by rfl) (by assumption) ?hys0 ?rests0
  case hys0 => (intro w hSw; (try dsimp only at hSw); first | (go_simp; done) | (go_simp; with_reducible rfl))
  simp only [Act.put, List.setIfInBounds_toArray, List.set_cons_zero, List.set_cons_succ]
  refine take_yes (i := 1) (v := ?vs1) rfl (by kernel_rfl) (by kernel_rfl) (by kernel_rfl) (fun _ _ _ h => h) (by rfl) (by assumption) ?hys1 ?rests1
  case hys1 => (intro w hSw; (try dsimp only at hSw); first | (go_simp; done) | (go_simp; with_reducible rfl))
  simp only [Act.put, List.setIfInBounds_toArray, List.set_cons_zero, List.set_cons_succ]
  refine take_yes (i := 3) (v := ?vs3) rfl (by kernel_rfl) (by kernel_rfl) (by kernel_rfl) (fun _ _ _ h => h) (by rfl) (by assumption) ?hys3 ?rests3
  case hys3 => (intro w hSw; (try dsimp only at hSw); first | (go_simp; done) | (go_simp; with_reducible rfl))
  simp only [Act.put, List.setIfInBounds_toArray, List.set_cons_zero, List.set_cons_succ]
  refine take_yes (i := 4) (v := ?vs4) rfl (by kernel_rfl) (by kernel_rfl) (by kernel_rfl) (fun _ _ _ h => h) (by rfl) (by assumption) ?hys4 ?rests4
  case hys4 => (intro w hSw; (try dsimp only at hSw); first | (go_simp; done) | (go_simp; with_reducible rfl))
  simp only [Act.put, List.setIfInBounds_toArray, List.set_cons_zero, List.set_cons_succ]
  refine take_call (i := 2) rfl (by kernel_rfl) (fun Kc hK => ?_)
  go_simp
  (go_at_call 34; refine (xMul a a Hah.out Hal.out Hah.out Hal.out Ra Ra Hm.out _).mono ?_; rintro e w1 ⟨rfl, bw1⟩)
  refine hK.out _ _ ?_ (fun hHeld => ?_)
  · exact ⟨cell_on bw1 hHeld.1, cell_on bw1 hHeld.2.1, cell_on bw1 hHeld.2.2.1, cell_on bw1 hHeld.2.2.2.1, also hHeld.2.2.2.2 bw1⟩
  clear hK Kc
  have zbw1 := bw1.size
  replace BB := also BB bw1
  replace x_a := x_a.on bw1
  replace x_b := x_b.on bw1
  replace x_r := x_r.on bw1
  refine take_call (i := 5) rfl (by kernel_rfl) (fun Kc hK => ?_)
  go_simp
  (go_at_call 34; refine (xMul b b Hbh.out Hbl.out Hbh.out Hbl.out Rb Rb Hn.out _).mono ?_; rintro e w2 ⟨rfl, bw2⟩)
  refine hK.out _ _ ?_ (fun hHeld => ?_)
  · exact ⟨cell_on bw2 hHeld.1, cell_on bw2 hHeld.2.1, cell_on bw2 hHeld.2.2.1, cell_on bw2 hHeld.2.2.2.1, also hHeld.2.2.2.2 bw2⟩
  clear hK Kc
  have zbw2 := bw2.size
  replace BB := also BB bw2
  replace x_a := x_a.on bw2
  replace x_b := x_b.on bw2
  replace x_r := x_r.on bw2
  refine take_call (i := 6) rfl (by kernel_rfl) (fun Kc hK => ?_)
  go_simp
  (go_at_call 56; refine (xQadd _ _ Hm.out Hn.out Hq.out _).mono ?_; rintro e w3 ⟨rfl, bw3⟩)
  refine hK.out _ _ ?_ (fun hHeld => ?_)
  · exact ⟨cell_on bw3 hHeld.1, cell_on bw3 hHeld.2.1, cell_on bw3 hHeld.2.2.1, cell_on bw3 hHeld.2.2.2.1, also hHeld.2.2.2.2 bw3⟩
  clear hK Kc
  have zbw3 := bw3.size
  replace BB := also BB bw3
  replace x_a := x_a.on bw3
  replace x_b := x_b.on bw3
  replace x_r := x_r.on bw3
  have ⟨x_r_0, x_r_1, x_r_2, x_r_3, x_r_4, x_r_5, x_r_6, x_r_7⟩ := x_r
  refine take_call (i := 7) rfl (by kernel_rfl) (fun Kc hK => ?_)
  go_simp
  refine hK.out _ _ ?_ (fun hHeld => ?_)
  · first | exact ⟨cell_put4 hHeld.1 (by omega) _ _ _ _, cell_put4 hHeld.2.1 (by omega) _ _ _ _, cell_put4 hHeld.2.2.1 (by omega) _ _ _ _, cell_put4 hHeld.2.2.2.1 (by omega) _ _ _ _, below_put4 hHeld.2.2.2.2 (by omega) _ _ _ _⟩ | exact ⟨x_a.c0, x_a.c1, x_b.c0, x_b.c1, BB⟩
  clear hK Kc
  refine wpAnyH_done (by kernel_rfl) ?_ _
  go_wp2
  exact bodyPost_ret (v := .agg #[.int .u64 q0, .int .u64 q1, .int .u64 q2, .int .u64 q3]) (by simp [results, Tryz.results33, go_sem, *]) rfl (⟨rfl, below_put4 BB (by omega) _ _ _ _⟩)
end Go.Proofs.YtcaihoomcdbfnaaGreat

namespace Go.Proofs.YtcaihoomcdbfnaaGreat
open Go.RowKit
set_option linter.unusedVariables false

theorem Bx.grown {w w' : World} {b g : Nat} {x y : Value} (h : Bx w b x y) (hg : w.grownBy w' (some g)) (hne : b ≠ g) : Bx w' b x y := by
  have hlt : b < w.heap.size := by
    refine Nat.lt_of_not_le fun hle => ?_
    have := h.c0
    unfold World.cell? at this
    rw [Array.getElem?_eq_none hle] at this
    simp at this
  exact ⟨(hg.cell_far ⟨b, 0, none⟩ hlt (by simpa using hne)).trans h.c0, (hg.cell_far ⟨b, 1, none⟩ hlt (by simpa using hne)).trans h.c1, (hg.frozen_far ⟨b, 0, none⟩ hlt (by simpa using hne)).trans h.f0, (hg.frozen_far ⟨b, 1, none⟩ hlt (by simpa using hne)).trans h.f1⟩
end Go.Proofs.YtcaihoomcdbfnaaGreat

namespace Go.Proofs.YtcaihoomcdbfnaaGreat
open Go.RowKit
set_option linter.unusedVariables false

/-- Two words for each word of 64 bits. -/
theorem words2 (u : Int) (k : Nat) : wd.dg u (2 * k) = lq.q.dg u k % 4294967296 ∧ wd.dg u (2 * k + 1) = lq.q.dg u k / 4294967296 := by
  unfold wd.dg lq.q.dg
  have e : (4294967296 : Int) ^ (2 * k) = 18446744073709551616 ^ k := by rw [Int.pow_mul]; rfl
  have e2 : (4294967296 : Int) ^ (2 * k + 1) = 18446744073709551616 ^ k * 4294967296 := by rw [Int.pow_succ, e]
  have hp : (0 : Int) < 18446744073709551616 ^ k := Int.pow_pos (by decide)
  rw [e, e2]
  have : u / (18446744073709551616 ^ k * 4294967296) = u / 18446744073709551616 ^ k / 4294967296 := by rw [Int.ediv_ediv, if_neg (by omega)]; omega
  rw [this]
  omega
theorem wd_two (t : Nat) (u : Int) : wd.dcells (2 * (t + 1)) u = wd.dcells (2 * t) u ++ [.int .u32 (lq.q.dg u t % 4294967296), .int .u32 (lq.q.dg u t / 4294967296)] := by
  rw [show 2 * (t + 1) = 2 * t + 1 + 1 by omega, wd.dcells_succ, wd.dcells_succ, (words2 u t).1, (words2 u t).2, List.append_assoc]
  rfl
def OqRel (w : World) (base U : Nat) (v i : Value) (wr : World) : Prop := ∃ (k cap : Nat) (a : Option Addr), k ≤ 4 ∧ i = .int .i64 (k : Int) ∧ v = .slice a (2 * k) cap ∧ Own wr base 115 a (2 * k) cap (wd.dcells (2 * k) (U : Int)) ∧ Below w.heap.size w wr
theorem sl_two (w : World) (y : Int) : Sl (w.alloc (.cells #[.int .u32 (y % 4294967296), .int .u32 (y / 4294967296)] 115)) (some ⟨w.heap.size, 0, none⟩) 2 2 [.int .u32 (y % 4294967296), .int .u32 (y / 4294967296)] := Own.sl (T := 115) (base := w.heap.size) (World.ownsRow_lit w _ 2 (Nat.le_refl _) (by decide) rfl)
theorem Bx.grownO {w w' : World} {b : Nat} {x y : Value} {o : Option Nat} (h : Bx w b x y) (hg : w.grownBy w' o) (hne : ∀ g, o = some g → b ≠ g) : Bx w' b x y := by
  cases o with
  | none => exact h.on (Below.to hg)
  | some g => exact h.grown hg (hne g rfl)
theorem idx0 (a b c d : Int) (w : World) : (Instr.index 77 (.agg #[.int .u64 a, .int .u64 b, .int .u64 c, .int .u64 d]) (.int .i64 0)).run Tryz.prog w = .ok (.int .u64 a) w := by show _ = _; kernel_rfl
theorem idx1 (a b c d : Int) (w : World) : (Instr.index 77 (.agg #[.int .u64 a, .int .u64 b, .int .u64 c, .int .u64 d]) (.int .i64 1)).run Tryz.prog w = .ok (.int .u64 b) w := by show _ = _; kernel_rfl
theorem idx2 (a b c d : Int) (w : World) : (Instr.index 77 (.agg #[.int .u64 a, .int .u64 b, .int .u64 c, .int .u64 d]) (.int .i64 2)).run Tryz.prog w = .ok (.int .u64 c) w := by show _ = _; kernel_rfl
theorem idx3 (a b c d : Int) (w : World) : (Instr.index 77 (.agg #[.int .u64 a, .int .u64 b, .int .u64 c, .int .u64 d]) (.int .i64 3)).run Tryz.prog w = .ok (.int .u64 d) w := by show _ = _; kernel_rfl
theorem qrange (u : Int) (k : Nat) : 0 ≤ lq.q.dg u k ∧ lq.q.dg u k < 18446744073709551616 := lq.q.dg_range u k
set_option maxRecDepth 100000 in
set_option maxHeartbeats 800000 in
theorem wOfQuad (x : Int) (h1 : -57896044618658097711785492504343953926634992332820282019728792003956564819968 ≤ x) (h2 : x < 57896044618658097711785492504343953926634992332820282019728792003956564819968) (w : World) :
    Calls Tryz.prog 69 #[.agg #[.int .u64 (lq.q.dg x 0), .int .u64 (lq.q.dg x 1), .int .u64 (lq.q.dg x 2), .int .u64 (lq.q.dg x 3)]] w (GotW w x) := by
  obtain ⟨i0, hi0, hz0, hz1, hz2⟩ := info_parts infoWord
  have HSg := lq.qsign_any x (lq.wd_self x) h1 h2
  have HNg := lq.qneg_any x (lq.wd_self x)
  obtain ⟨U, hU⟩ : ∃ U, U = x.natAbs := ⟨_, rfl⟩
  have hU8 : U < 4294967296 ^ 8 := by rw [show (4294967296 : Nat) ^ 8 = 115792089237316195423570985008687907853269984665640564039457584007913129639936 from rfl]; omega
  have B0 : Below w.heap.size w ((w.alloc (.cells #[.int .u64 (lq.q.dg x 0), .int .u64 (lq.q.dg x 1), .int .u64 (lq.q.dg x 2), .int .u64 (lq.q.dg x 3)] 77)).alloc (.cells #[.bool false, .slice none 0 0] 27)) := ((Below.refl _ _).alloc (Nat.le_refl _) _).alloc (by simp) _
  have xz := bx_new (w.alloc (.cells #[.int .u64 (lq.q.dg x 0), .int .u64 (lq.q.dg x 1), .int .u64 (lq.q.dg x 2), .int .u64 (lq.q.dg x 3)] 77)) (.bool false) (.slice none 0 0) 27
  rw [World.size_alloc] at xz
  have rw0 := (Row.new w [.int .u64 (lq.q.dg x 0), .int .u64 (lq.q.dg x 1), .int .u64 (lq.q.dg x 2), .int .u64 (lq.q.dg x 3)] 77).alloc (.cells #[.bool false, .slice none 0 0] 27) (by simp)
  obtain ⟨g, hg⟩ : ∃ g, g = lq.cmpI x 0 := ⟨_, rfl⟩
  rw [← hg] at HSg
  have HS : Hid _ := HSg
  have HN : Hid _ := HNg
  clear HSg HNg
  by_cases hx : x < 0
  · have hg0 : g < 0 := by rw [hg]; unfold lq.cmpI; rw [if_pos hx]; decide
    have HX : Hid (x = sgz true U) := by unfold Hid sgz; simp; omega
    have hUx : -x = (U : Int) := by omega
    have HN2 : Hid (∀ w, Calls Tryz.prog 96 #[.agg #[.int .u64 (lq.q.dg x 0), .int .u64 (lq.q.dg x 1), .int .u64 (lq.q.dg x 2), .int .u64 (lq.q.dg x 3)]] w fun e w' => e = .returned (.agg #[.int .u64 (lq.q.dg (U : Int) 0), .int .u64 (lq.q.dg (U : Int) 1), .int .u64 (lq.q.dg (U : Int) 2), .int .u64 (lq.q.dg (U : Int) 3)]) ∧ Below w.heap.size w w') := fun w => by have := HN.out w; rwa [hUx] at this
    clear hg hU hUx HN
    go_enter Tryz.func69, Tryz.ntmps69
    go_wp2_with (go_at_call 95; fail)
    refine (HS.out _).mono ?_
    rintro e w1 ⟨rfl, b1⟩
    have r1 := rw0.below b1 (by simp; omega)
    have d0 := r1.cell 0 _ rfl; have d1 := r1.cell 1 _ rfl; have d2 := r1.cell 2 _ rfl; have d3 := r1.cell 3 _ rfl
    go_wp2_with (go_at_call 96; fail)
    refine (HN2.out _).mono ?_
    rintro e w2 ⟨rfl, b2⟩
    have hs1 : w.heap.size < w1.heap.size := Nat.lt_of_lt_of_le (by simp; omega) b1.size
    have r2 := r1.below b2 hs1
    have d0 := r2.cell 0 _ rfl; have d1 := r2.cell 1 _ rfl; have d2 := r2.cell 2 _ rfl; have d3 := r2.cell 3 _ rfl
    have g0 := r2.free 0 (by simp); have g1 := r2.free 1 (by simp); have g2 := r2.free 2 (by simp); have g3 := r2.free 3 (by simp)
    have rowW : Row ((((w2.setCell ⟨w.heap.size, 0, none⟩ (.int .u64 (lq.q.dg (U : Int) 0))).setCell ⟨w.heap.size, 1, none⟩ (.int .u64 (lq.q.dg (U : Int) 1))).setCell ⟨w.heap.size, 2, none⟩ (.int .u64 (lq.q.dg (U : Int) 2))).setCell ⟨w.heap.size, 3, none⟩ (.int .u64 (lq.q.dg (U : Int) 3))) w.heap.size [.int .u64 (lq.q.dg (U : Int) 0), .int .u64 (lq.q.dg (U : Int) 1), .int .u64 (lq.q.dg (U : Int) 2), .int .u64 (lq.q.dg (U : Int) 3)] :=
      (((r2.set 0 _ (by simp)).set 1 _ (by simp)).set 2 _ (by simp)).set 3 _ (by simp)
    have xzW := ((((((xz.on b1).on b2).put (k := w.heap.size) (i := 0) (v := .int .u64 (lq.q.dg (U : Int) 0)) (by omega)).put (k := w.heap.size) (i := 1) (v := .int .u64 (lq.q.dg (U : Int) 1)) (by omega)).put (k := w.heap.size) (i := 2) (v := .int .u64 (lq.q.dg (U : Int) 2)) (by omega)).put (k := w.heap.size) (i := 3) (v := .int .u64 (lq.q.dg (U : Int) 3)) (by omega))
    have BW := ((((also (also B0 b1) b2).setCell (p := ⟨w.heap.size, 0, none⟩) (Nat.le_refl _) (.int .u64 (lq.q.dg (U : Int) 0))).setCell (p := ⟨w.heap.size, 1, none⟩) (Nat.le_refl _) (.int .u64 (lq.q.dg (U : Int) 1))).setCell (p := ⟨w.heap.size, 2, none⟩) (Nat.le_refl _) (.int .u64 (lq.q.dg (U : Int) 2))).setCell (p := ⟨w.heap.size, 3, none⟩) (Nat.le_refl _) (.int .u64 (lq.q.dg (U : Int) 3))
    have hWs : w.heap.size + 1 + 1 ≤ ((((w2.setCell ⟨w.heap.size, 0, none⟩ (.int .u64 (lq.q.dg (U : Int) 0))).setCell ⟨w.heap.size, 1, none⟩ (.int .u64 (lq.q.dg (U : Int) 1))).setCell ⟨w.heap.size, 2, none⟩ (.int .u64 (lq.q.dg (U : Int) 2))).setCell ⟨w.heap.size, 3, none⟩ (.int .u64 (lq.q.dg (U : Int) 3))).heap.size := bx_lt xzW
    obtain ⟨WW, hWW⟩ : ∃ WW, WW = ((((w2.setCell ⟨w.heap.size, 0, none⟩ (.int .u64 (lq.q.dg (U : Int) 0))).setCell ⟨w.heap.size, 1, none⟩ (.int .u64 (lq.q.dg (U : Int) 1))).setCell ⟨w.heap.size, 2, none⟩ (.int .u64 (lq.q.dg (U : Int) 2))).setCell ⟨w.heap.size, 3, none⟩ (.int .u64 (lq.q.dg (U : Int) 3))) := ⟨_, rfl⟩
    rw [← hWW] at rowW xzW BW hWs
    have HWW : Hid _ := hWW
    clear hWW
    go_wp2_with (at_make; rw [← HWW.out]; clear HWW; refine wpList_make_own _ rfl _ _ 25 rfl (w.heap.size + 1 + 1) 115 i0 (.int .u32 0) 1 Tryz.underlying25 hi0 hz0 hz1 _ _ _ 8 rfl rfl rfl (by rw [hz2]; decide) (by decide) hWs ?_; intro w3 hown3 hgrow3; have b3 := Below.to hgrow3; have row3 := rowW.below b3 (Nat.lt_of_lt_of_le (by omega) hWs); have dB := row3.cell 0 _ rfl; have dC := row3.cell 1 _ rfl; have dD := row3.cell 2 _ rfl; have dE := row3.cell 3 _ rfl)
    have B3 := also BW b3
    have xz3 := xzW.on b3
    have HST : Hid (OqRel w (w.heap.size + 1 + 1) U (.slice (some ⟨WW.heap.size, 0, none⟩) 0 8) (.int .i64 0) w3 ∧ Bx w3 (w.heap.size + 1) (.bool false) (.slice none 0 0)) := ⟨⟨0, 8, _, by omega, rfl, rfl, hown3, B3⟩, xz3⟩
    clear hown3 hgrow3 xz3 B3 b3 rowW BW xzW row3 d0 d1 d2 d3 g0 g1 g2 g3 r2 r1 b1 b2 hs1
    go_loopw [4, 15] (fun v i wr => OqRel w (w.heap.size + 1 + 1) U v i wr ∧ Bx wr (w.heap.size + 1) (.bool false) (.slice none 0 0)) (fun _ i _ => 4 - (intOf i).toNat)
    case atStart => exact HST.out
    case round =>
      obtain ⟨⟨k, cap, v, hk, rfl, rfl, hown, hbel⟩, xz⟩ := hrel
      clear HST
      have hk4 : k = 0 ∨ k = 1 ∨ k = 2 ∨ k = 3 ∨ k = 4 := by omega
      have hsz0 := hbel.size
      have hxz := bx_lt xz
      rcases hk4 with rfl | rfl | rfl | rfl | rfl
      · obtain ⟨q0, q1⟩ := qrange (U : Int) 0
        have HW : Hid _ := wd_two 0 (U : Int)
        have e32 : (lq.q.dg (U : Int) 0) / 4294967296 % 4294967296 = (lq.q.dg (U : Int) 0) / 4294967296 := by omega
        have EI := idx0 (lq.q.dg (U : Int) 0) (lq.q.dg (U : Int) 1) (lq.q.dg (U : Int) 2) (lq.q.dg (U : Int) 3)
        have hsl := sl_two wr (lq.q.dg (U : Int) 0)
        have hown' := Own.below hown (show Below wr.heap.size wr (wr.alloc (.cells #[.int .u32 ((lq.q.dg (U : Int) 0) % 4294967296), .int .u32 ((lq.q.dg (U : Int) 0) / 4294967296)] 115)) from (Below.refl _ _).alloc (Nat.le_refl _) _)
        go_wp2_with (at_builtin; refine append_any _ rfl (.tmp 18) (.tmp 24) 25 rfl (w.heap.size + 1 + 1) 115 i0 (.int .u32 0) 4 Tryz.underlying25 hi0 hz0 hz1 hz2 rfl v (2 * 0) cap _ rfl hown' _ 2 2 _ rfl hsl (by intro u hu; simp at hu; rcases hu with rfl | rfl <;> rfl) (by decide) (by decide) (by simp; omega) ?_; intro a2 cap2 w2 hown2 hgrow2)
        have hbel2 : Below w.heap.size w w2 := (hbel.alloc hsz0 _).grown hgrow2 (by simp; omega) (fun k' hk' => by have := (World.ownsRow.lt hown' k' hk').1; omega)
        have xz2 : Bx w2 (w.heap.size + 1) (.bool false) (.slice none 0 0) := Bx.grownO (xz.on ((Below.refl _ _).alloc (Nat.le_refl _) _)) hgrow2 (fun k' hk' => by have := (World.ownsRow.lt hown' k' hk').1; omega)
        go_roundw
        case rel => exact ⟨⟨0 + 1, cap2, a2, by omega, by simp, rfl, by rw [HW.out]; exact hown2, hbel2⟩, xz2⟩
        case measure => simp [intOf]
      · obtain ⟨q0, q1⟩ := qrange (U : Int) 1
        have HW : Hid _ := wd_two 1 (U : Int)
        have e32 : (lq.q.dg (U : Int) 1) / 4294967296 % 4294967296 = (lq.q.dg (U : Int) 1) / 4294967296 := by omega
        have EI := idx1 (lq.q.dg (U : Int) 0) (lq.q.dg (U : Int) 1) (lq.q.dg (U : Int) 2) (lq.q.dg (U : Int) 3)
        have hsl := sl_two wr (lq.q.dg (U : Int) 1)
        have hown' := Own.below hown (show Below wr.heap.size wr (wr.alloc (.cells #[.int .u32 ((lq.q.dg (U : Int) 1) % 4294967296), .int .u32 ((lq.q.dg (U : Int) 1) / 4294967296)] 115)) from (Below.refl _ _).alloc (Nat.le_refl _) _)
        go_wp2_with (at_builtin; refine append_any _ rfl (.tmp 18) (.tmp 24) 25 rfl (w.heap.size + 1 + 1) 115 i0 (.int .u32 0) 4 Tryz.underlying25 hi0 hz0 hz1 hz2 rfl v (2 * 1) cap _ rfl hown' _ 2 2 _ rfl hsl (by intro u hu; simp at hu; rcases hu with rfl | rfl <;> rfl) (by decide) (by decide) (by simp; omega) ?_; intro a2 cap2 w2 hown2 hgrow2)
        have hbel2 : Below w.heap.size w w2 := (hbel.alloc hsz0 _).grown hgrow2 (by simp; omega) (fun k' hk' => by have := (World.ownsRow.lt hown' k' hk').1; omega)
        have xz2 : Bx w2 (w.heap.size + 1) (.bool false) (.slice none 0 0) := Bx.grownO (xz.on ((Below.refl _ _).alloc (Nat.le_refl _) _)) hgrow2 (fun k' hk' => by have := (World.ownsRow.lt hown' k' hk').1; omega)
        go_roundw
        case rel => exact ⟨⟨1 + 1, cap2, a2, by omega, by simp, rfl, by rw [HW.out]; exact hown2, hbel2⟩, xz2⟩
        case measure => simp [intOf]
      · obtain ⟨q0, q1⟩ := qrange (U : Int) 2
        have HW : Hid _ := wd_two 2 (U : Int)
        have e32 : (lq.q.dg (U : Int) 2) / 4294967296 % 4294967296 = (lq.q.dg (U : Int) 2) / 4294967296 := by omega
        have EI := idx2 (lq.q.dg (U : Int) 0) (lq.q.dg (U : Int) 1) (lq.q.dg (U : Int) 2) (lq.q.dg (U : Int) 3)
        have hsl := sl_two wr (lq.q.dg (U : Int) 2)
        have hown' := Own.below hown (show Below wr.heap.size wr (wr.alloc (.cells #[.int .u32 ((lq.q.dg (U : Int) 2) % 4294967296), .int .u32 ((lq.q.dg (U : Int) 2) / 4294967296)] 115)) from (Below.refl _ _).alloc (Nat.le_refl _) _)
        go_wp2_with (at_builtin; refine append_any _ rfl (.tmp 18) (.tmp 24) 25 rfl (w.heap.size + 1 + 1) 115 i0 (.int .u32 0) 4 Tryz.underlying25 hi0 hz0 hz1 hz2 rfl v (2 * 2) cap _ rfl hown' _ 2 2 _ rfl hsl (by intro u hu; simp at hu; rcases hu with rfl | rfl <;> rfl) (by decide) (by decide) (by simp; omega) ?_; intro a2 cap2 w2 hown2 hgrow2)
        have hbel2 : Below w.heap.size w w2 := (hbel.alloc hsz0 _).grown hgrow2 (by simp; omega) (fun k' hk' => by have := (World.ownsRow.lt hown' k' hk').1; omega)
        have xz2 : Bx w2 (w.heap.size + 1) (.bool false) (.slice none 0 0) := Bx.grownO (xz.on ((Below.refl _ _).alloc (Nat.le_refl _) _)) hgrow2 (fun k' hk' => by have := (World.ownsRow.lt hown' k' hk').1; omega)
        go_roundw
        case rel => exact ⟨⟨2 + 1, cap2, a2, by omega, by simp, rfl, by rw [HW.out]; exact hown2, hbel2⟩, xz2⟩
        case measure => simp [intOf]
      · obtain ⟨q0, q1⟩ := qrange (U : Int) 3
        have HW : Hid _ := wd_two 3 (U : Int)
        have e32 : (lq.q.dg (U : Int) 3) / 4294967296 % 4294967296 = (lq.q.dg (U : Int) 3) / 4294967296 := by omega
        have EI := idx3 (lq.q.dg (U : Int) 0) (lq.q.dg (U : Int) 1) (lq.q.dg (U : Int) 2) (lq.q.dg (U : Int) 3)
        have hsl := sl_two wr (lq.q.dg (U : Int) 3)
        have hown' := Own.below hown (show Below wr.heap.size wr (wr.alloc (.cells #[.int .u32 ((lq.q.dg (U : Int) 3) % 4294967296), .int .u32 ((lq.q.dg (U : Int) 3) / 4294967296)] 115)) from (Below.refl _ _).alloc (Nat.le_refl _) _)
        go_wp2_with (at_builtin; refine append_any _ rfl (.tmp 18) (.tmp 24) 25 rfl (w.heap.size + 1 + 1) 115 i0 (.int .u32 0) 4 Tryz.underlying25 hi0 hz0 hz1 hz2 rfl v (2 * 3) cap _ rfl hown' _ 2 2 _ rfl hsl (by intro u hu; simp at hu; rcases hu with rfl | rfl <;> rfl) (by decide) (by decide) (by simp; omega) ?_; intro a2 cap2 w2 hown2 hgrow2)
        have hbel2 : Below w.heap.size w w2 := (hbel.alloc hsz0 _).grown hgrow2 (by simp; omega) (fun k' hk' => by have := (World.ownsRow.lt hown' k' hk').1; omega)
        have xz2 : Bx w2 (w.heap.size + 1) (.bool false) (.slice none 0 0) := Bx.grownO (xz.on ((Below.refl _ _).alloc (Nat.le_refl _) _)) hgrow2 (fun k' hk' => by have := (World.ownsRow.lt hown' k' hk').1; omega)
        go_roundw
        case rel => exact ⟨⟨3 + 1, cap2, a2, by omega, by simp, rfl, by rw [HW.out]; exact hown2, hbel2⟩, xz2⟩
        case measure => simp [intOf]
      · have hni : NI wr v 8 cap U := ⟨Own.sl hown, hU8, by decide⟩
        go_wp2_with (go_at_call 97; fail)
        refine (fTrim v 8 cap U wr hni).mono ?_
        rintro e w5 ⟨a5, l5, c5, rfl, h5, f5, b5⟩
        go_wp2_with (go_at_call 88; fail)
        refine (wSigned true a5 l5 c5 U w5 h5 x HX.out).mono ?_
        rintro e w6 ⟨n6, rfl, h6, b6⟩
        obtain ⟨k0, k1, k2, k3⟩ := (xz.on b5).on b6
        go_wp2
        exact bodyPost_ret (v := .agg #[.bool n6, .slice a5 l5 c5]) (by simp [results, Tryz.results69, go_sem, *]) rfl (endW (W := wr) _ (by omega) hxz (also (also hbel b5) b6) h6 f5 _ _)
  · have hxU : x = (U : Int) := by omega
    subst hxU
    have hg0 : ¬ g < 0 := by rw [hg]; unfold lq.cmpI; rw [if_neg hx]; split <;> decide
    have HX : Hid ((U : Int) = sgz false U) := by unfold Hid sgz; simp
    have hgd : decide (g < 0) = false := by simpa using hg0
    clear hg hU HN h1 h2 hx
    go_enter Tryz.func69, Tryz.ntmps69
    go_wp2_with (go_at_call 95; fail)
    refine (HS.out _).mono ?_
    rintro e w1 ⟨rfl, b1⟩
    have hs1 : w.heap.size < w1.heap.size := Nat.lt_of_lt_of_le (by simp; omega) b1.size
    have rowW := rw0.below b1 (by simp; omega)
    have d0 := rowW.cell 0 _ rfl; have d1 := rowW.cell 1 _ rfl; have d2 := rowW.cell 2 _ rfl; have d3 := rowW.cell 3 _ rfl
    have xzW := xz.on b1
    have BW := also B0 b1
    have hWs : w.heap.size + 1 + 1 ≤ w1.heap.size := bx_lt xzW
    go_wp2_with (at_make; refine wpList_make_own _ rfl _ _ 25 rfl (w.heap.size + 1 + 1) 115 i0 (.int .u32 0) 1 Tryz.underlying25 hi0 hz0 hz1 _ _ _ 8 rfl rfl rfl (by rw [hz2]; decide) (by decide) hWs ?_; intro w3 hown3 hgrow3; have b3 := Below.to hgrow3; have row3 := rowW.below b3 (Nat.lt_of_lt_of_le (by omega) hWs); have dB := row3.cell 0 _ rfl; have dC := row3.cell 1 _ rfl; have dD := row3.cell 2 _ rfl; have dE := row3.cell 3 _ rfl)
    have B3 := also BW b3
    have xz3 := xzW.on b3
    have HST : Hid (OqRel w (w.heap.size + 1 + 1) U (.slice (some ⟨w1.heap.size, 0, none⟩) 0 8) (.int .i64 0) w3 ∧ Bx w3 (w.heap.size + 1) (.bool false) (.slice none 0 0)) := ⟨⟨0, 8, _, by omega, rfl, rfl, hown3, B3⟩, xz3⟩
    clear hown3 hgrow3 xz3 B3 b3 rowW BW xzW row3 d0 d1 d2 d3 b1 hs1
    go_loopw [4, 15] (fun v i wr => OqRel w (w.heap.size + 1 + 1) U v i wr ∧ Bx wr (w.heap.size + 1) (.bool false) (.slice none 0 0)) (fun _ i _ => 4 - (intOf i).toNat)
    case atStart => exact HST.out
    case round =>
      obtain ⟨⟨k, cap, v, hk, rfl, rfl, hown, hbel⟩, xz⟩ := hrel
      clear HST
      have hk4 : k = 0 ∨ k = 1 ∨ k = 2 ∨ k = 3 ∨ k = 4 := by omega
      have hsz0 := hbel.size
      have hxz := bx_lt xz
      rcases hk4 with rfl | rfl | rfl | rfl | rfl
      · obtain ⟨q0, q1⟩ := qrange (U : Int) 0
        have HW : Hid _ := wd_two 0 (U : Int)
        have e32 : (lq.q.dg (U : Int) 0) / 4294967296 % 4294967296 = (lq.q.dg (U : Int) 0) / 4294967296 := by omega
        have EI := idx0 (lq.q.dg (U : Int) 0) (lq.q.dg (U : Int) 1) (lq.q.dg (U : Int) 2) (lq.q.dg (U : Int) 3)
        have hsl := sl_two wr (lq.q.dg (U : Int) 0)
        have hown' := Own.below hown (show Below wr.heap.size wr (wr.alloc (.cells #[.int .u32 ((lq.q.dg (U : Int) 0) % 4294967296), .int .u32 ((lq.q.dg (U : Int) 0) / 4294967296)] 115)) from (Below.refl _ _).alloc (Nat.le_refl _) _)
        go_wp2_with (at_builtin; refine append_any _ rfl (.tmp 18) (.tmp 24) 25 rfl (w.heap.size + 1 + 1) 115 i0 (.int .u32 0) 4 Tryz.underlying25 hi0 hz0 hz1 hz2 rfl v (2 * 0) cap _ rfl hown' _ 2 2 _ rfl hsl (by intro u hu; simp at hu; rcases hu with rfl | rfl <;> rfl) (by decide) (by decide) (by simp; omega) ?_; intro a2 cap2 w2 hown2 hgrow2)
        have hbel2 : Below w.heap.size w w2 := (hbel.alloc hsz0 _).grown hgrow2 (by simp; omega) (fun k' hk' => by have := (World.ownsRow.lt hown' k' hk').1; omega)
        have xz2 : Bx w2 (w.heap.size + 1) (.bool false) (.slice none 0 0) := Bx.grownO (xz.on ((Below.refl _ _).alloc (Nat.le_refl _) _)) hgrow2 (fun k' hk' => by have := (World.ownsRow.lt hown' k' hk').1; omega)
        go_roundw
        case rel => exact ⟨⟨0 + 1, cap2, a2, by omega, by simp, rfl, by rw [HW.out]; exact hown2, hbel2⟩, xz2⟩
        case measure => simp [intOf]
      · obtain ⟨q0, q1⟩ := qrange (U : Int) 1
        have HW : Hid _ := wd_two 1 (U : Int)
        have e32 : (lq.q.dg (U : Int) 1) / 4294967296 % 4294967296 = (lq.q.dg (U : Int) 1) / 4294967296 := by omega
        have EI := idx1 (lq.q.dg (U : Int) 0) (lq.q.dg (U : Int) 1) (lq.q.dg (U : Int) 2) (lq.q.dg (U : Int) 3)
        have hsl := sl_two wr (lq.q.dg (U : Int) 1)
        have hown' := Own.below hown (show Below wr.heap.size wr (wr.alloc (.cells #[.int .u32 ((lq.q.dg (U : Int) 1) % 4294967296), .int .u32 ((lq.q.dg (U : Int) 1) / 4294967296)] 115)) from (Below.refl _ _).alloc (Nat.le_refl _) _)
        go_wp2_with (at_builtin; refine append_any _ rfl (.tmp 18) (.tmp 24) 25 rfl (w.heap.size + 1 + 1) 115 i0 (.int .u32 0) 4 Tryz.underlying25 hi0 hz0 hz1 hz2 rfl v (2 * 1) cap _ rfl hown' _ 2 2 _ rfl hsl (by intro u hu; simp at hu; rcases hu with rfl | rfl <;> rfl) (by decide) (by decide) (by simp; omega) ?_; intro a2 cap2 w2 hown2 hgrow2)
        have hbel2 : Below w.heap.size w w2 := (hbel.alloc hsz0 _).grown hgrow2 (by simp; omega) (fun k' hk' => by have := (World.ownsRow.lt hown' k' hk').1; omega)
        have xz2 : Bx w2 (w.heap.size + 1) (.bool false) (.slice none 0 0) := Bx.grownO (xz.on ((Below.refl _ _).alloc (Nat.le_refl _) _)) hgrow2 (fun k' hk' => by have := (World.ownsRow.lt hown' k' hk').1; omega)
        go_roundw
        case rel => exact ⟨⟨1 + 1, cap2, a2, by omega, by simp, rfl, by rw [HW.out]; exact hown2, hbel2⟩, xz2⟩
        case measure => simp [intOf]
      · obtain ⟨q0, q1⟩ := qrange (U : Int) 2
        have HW : Hid _ := wd_two 2 (U : Int)
        have e32 : (lq.q.dg (U : Int) 2) / 4294967296 % 4294967296 = (lq.q.dg (U : Int) 2) / 4294967296 := by omega
        have EI := idx2 (lq.q.dg (U : Int) 0) (lq.q.dg (U : Int) 1) (lq.q.dg (U : Int) 2) (lq.q.dg (U : Int) 3)
        have hsl := sl_two wr (lq.q.dg (U : Int) 2)
        have hown' := Own.below hown (show Below wr.heap.size wr (wr.alloc (.cells #[.int .u32 ((lq.q.dg (U : Int) 2) % 4294967296), .int .u32 ((lq.q.dg (U : Int) 2) / 4294967296)] 115)) from (Below.refl _ _).alloc (Nat.le_refl _) _)
        go_wp2_with (at_builtin; refine append_any _ rfl (.tmp 18) (.tmp 24) 25 rfl (w.heap.size + 1 + 1) 115 i0 (.int .u32 0) 4 Tryz.underlying25 hi0 hz0 hz1 hz2 rfl v (2 * 2) cap _ rfl hown' _ 2 2 _ rfl hsl (by intro u hu; simp at hu; rcases hu with rfl | rfl <;> rfl) (by decide) (by decide) (by simp; omega) ?_; intro a2 cap2 w2 hown2 hgrow2)
        have hbel2 : Below w.heap.size w w2 := (hbel.alloc hsz0 _).grown hgrow2 (by simp; omega) (fun k' hk' => by have := (World.ownsRow.lt hown' k' hk').1; omega)
        have xz2 : Bx w2 (w.heap.size + 1) (.bool false) (.slice none 0 0) := Bx.grownO (xz.on ((Below.refl _ _).alloc (Nat.le_refl _) _)) hgrow2 (fun k' hk' => by have := (World.ownsRow.lt hown' k' hk').1; omega)
        go_roundw
        case rel => exact ⟨⟨2 + 1, cap2, a2, by omega, by simp, rfl, by rw [HW.out]; exact hown2, hbel2⟩, xz2⟩
        case measure => simp [intOf]
      · obtain ⟨q0, q1⟩ := qrange (U : Int) 3
        have HW : Hid _ := wd_two 3 (U : Int)
        have e32 : (lq.q.dg (U : Int) 3) / 4294967296 % 4294967296 = (lq.q.dg (U : Int) 3) / 4294967296 := by omega
        have EI := idx3 (lq.q.dg (U : Int) 0) (lq.q.dg (U : Int) 1) (lq.q.dg (U : Int) 2) (lq.q.dg (U : Int) 3)
        have hsl := sl_two wr (lq.q.dg (U : Int) 3)
        have hown' := Own.below hown (show Below wr.heap.size wr (wr.alloc (.cells #[.int .u32 ((lq.q.dg (U : Int) 3) % 4294967296), .int .u32 ((lq.q.dg (U : Int) 3) / 4294967296)] 115)) from (Below.refl _ _).alloc (Nat.le_refl _) _)
        go_wp2_with (at_builtin; refine append_any _ rfl (.tmp 18) (.tmp 24) 25 rfl (w.heap.size + 1 + 1) 115 i0 (.int .u32 0) 4 Tryz.underlying25 hi0 hz0 hz1 hz2 rfl v (2 * 3) cap _ rfl hown' _ 2 2 _ rfl hsl (by intro u hu; simp at hu; rcases hu with rfl | rfl <;> rfl) (by decide) (by decide) (by simp; omega) ?_; intro a2 cap2 w2 hown2 hgrow2)
        have hbel2 : Below w.heap.size w w2 := (hbel.alloc hsz0 _).grown hgrow2 (by simp; omega) (fun k' hk' => by have := (World.ownsRow.lt hown' k' hk').1; omega)
        have xz2 : Bx w2 (w.heap.size + 1) (.bool false) (.slice none 0 0) := Bx.grownO (xz.on ((Below.refl _ _).alloc (Nat.le_refl _) _)) hgrow2 (fun k' hk' => by have := (World.ownsRow.lt hown' k' hk').1; omega)
        go_roundw
        case rel => exact ⟨⟨3 + 1, cap2, a2, by omega, by simp, rfl, by rw [HW.out]; exact hown2, hbel2⟩, xz2⟩
        case measure => simp [intOf]
      · have hni : NI wr v 8 cap U := ⟨Own.sl hown, hU8, by decide⟩
        go_wp2_with (go_at_call 97; fail)
        refine (fTrim v 8 cap U wr hni).mono ?_
        rintro e w5 ⟨a5, l5, c5, rfl, h5, f5, b5⟩
        go_wp2_with (go_at_call 88; fail)
        refine (wSigned false a5 l5 c5 U w5 h5 (U : Int) HX.out).mono ?_
        rintro e w6 ⟨n6, rfl, h6, b6⟩
        obtain ⟨k0, k1, k2, k3⟩ := (xz.on b5).on b6
        go_wp2
        exact bodyPost_ret (v := .agg #[.bool n6, .slice a5 l5 c5]) (by simp [results, Tryz.results69, go_sem, *]) rfl (endW (W := wr) _ (by omega) hxz (also (also hbel b5) b6) h6 f5 _ _)
end Go.Proofs.YtcaihoomcdbfnaaGreat

namespace Go.Proofs.YtcaihoomcdbfnaaGreat
open Go.RowKit
set_option linter.unusedVariables false

/-- What holds at the head of each round: two words of the same greatest divisor. -/
def SmallRel (g : Nat) (a b : Value) : Prop := ∃ x y : Nat, a = .int .u64 (x : Int) ∧ b = .int .u64 (y : Int) ∧ Hid (Nat.gcd x y = g) ∧ x < 18446744073709551616 ∧ y < 18446744073709551616
set_option maxRecDepth 100000 in
set_option maxHeartbeats 1000000 in
theorem gcdSmall_any (x y : Nat) (hx : x < 18446744073709551616) (hy : y < 18446744073709551616) (w : World) :
    Calls Tryz.prog 115 #[.int .u64 (x : Int), .int .u64 (y : Int)] w fun e w' => e = .returned (.int .u64 (Nat.gcd x y : Int)) ∧ Below w.heap.size w w' := by
  obtain ⟨g, hg⟩ : ∃ g, g = Nat.gcd x y := ⟨_, rfl⟩
  have HG : Hid _ := hg.symm
  rw [← hg]
  clear hg
  go_enter Tryz.func115, Tryz.ntmps115
  go_wp2
  go_loopw [0, 1] (fun a b wr => SmallRel g a b ∧ Below w.heap.size w wr) (fun _ b _ => (intOf b).toNat)
  case atStart => exact ⟨⟨x, y, rfl, rfl, HG.out, hx, hy⟩, Below.refl _ _⟩
  case round =>
    obtain ⟨⟨p, q, rfl, rfl, H, hp, hq⟩, hbel⟩ := hrel
    rcases Nat.eq_zero_or_pos q with h0 | h0
    · subst h0
      have hpg : p = g := by have := H.out; simpa using this
      subst hpg
      go_wp2
      go_ret
      exact ⟨rfl, by first | exact hbel | exact hbel.drew⟩
    · have f1 : ¬ (q : Int) = 0 := by omega
      obtain ⟨r, hr⟩ : ∃ r, r = p % q := ⟨_, rfl⟩
      have E : (p : Int) % (q : Int) = (r : Int) := by rw [hr, Int.natCast_emod]
      have hrq : r < q := by rw [hr]; exact Nat.mod_lt _ h0
      have HN : Hid (Nat.gcd q r = g) := by
        unfold Hid
        rw [hr, ← H.out, Nat.gcd_comm q (p % q), ← Nat.gcd_rec, Nat.gcd_comm]
      clear hr
      go_wp2
      go_quiet (fail)
      go_wp2
      try rw [E]
      go_roundw
      case rel => exact ⟨⟨q, r, rfl, by first | rfl | rw [E], HN.out, hq, by omega⟩, ⟨hbel.os, hbel.tape, hbel.output, hbel.size, hbel.block⟩⟩
      case measure => simp [intOf]; omega

set_option maxRecDepth 100000 in
set_option maxHeartbeats 1000000 in
theorem restOf_any (a b : Option Addr) (la lb ca cb u v : Nat) (w : World) (ha : Sl w a la ca (wd.dcells la (u : Int))) (hu : u < 4294967296 ^ la) (hla : la ≤ 100000000) (hb : Sl w b lb cb (wd.dcells lb (v : Int))) (hv : v < 4294967296 ^ lb) (h0 : 0 < v) :
    Calls Tryz.prog 117 #[.slice a la ca, .slice b lb cb] w fun e w' => ∃ ar cr, e = .returned (.slice ar (wd.nlen (u % v)) cr) ∧ Own w' w.heap.size 115 ar (wd.nlen (u % v)) cr (wd.dcells (wd.nlen (u % v)) ((u % v : Nat) : Int)) ∧ Below w.heap.size w w' := by
  obtain ⟨R, hR⟩ : ∃ R, R = u % v := ⟨_, rfl⟩
  obtain ⟨Q, hQ⟩ : ∃ Q, Q = u / v := ⟨_, rfl⟩
  have H := divMod_any a b la lb ca cb u v w ha hu hla hb hv h0
  rw [← hR, ← hQ] at H
  have HH : Hid _ := H
  rw [← hR]
  clear hR hQ H
  go_enter Tryz.func117, Tryz.ntmps117
  go_wp2_with (go_at_call 107; fail)
  refine (show Calls _ _ _ _ (Both w Q R) from HH.out).mono ?_
  rintro e w6 ⟨aq, cq, ar, cr, rfl, hownQ, hownR, hbel⟩
  have HO : Hid _ := hownR
  clear hownQ hownR
  go_wp2
  go_ret
  exact ⟨ar, cr, rfl, HO.out, hbel⟩
end Go.Proofs.YtcaihoomcdbfnaaGreat

namespace Go.Proofs.YtcaihoomcdbfnaaGreat
open Go.RowKit
set_option linter.unusedVariables false

theorem head_math (X d2 d1 d0 s : Nat) (h2 : d2 = X / 18446744073709551616 % 4294967296) (h1 : d1 = X / 4294967296 % 4294967296) (h0 : d0 = X % 4294967296) (hs : s < 32) :
    (d1 * 4294967296 + d0) / 2 ^ s + d2 * 2 ^ (64 - s) % 18446744073709551616 = X / 2 ^ s % 18446744073709551616 ∧ (d1 * 4294967296 + d0) / 2 ^ s < 2 ^ (64 - s) ∧ d2 * 2 ^ (64 - s) % 18446744073709551616 % 2 ^ (64 - s) = 0 := by
  have hp : 0 < 2 ^ s := Nat.pow_pos (by decide)
  have hq : 0 < 2 ^ (64 - s) := Nat.pow_pos (by decide)
  have e64 : 2 ^ (64 - s) * 2 ^ s = 18446744073709551616 := by rw [← Nat.pow_add, show 64 - s + s = 64 by omega]
  have e32 : 2 ^ (32 - s) * 2 ^ s = 4294967296 := by rw [← Nat.pow_add, show 32 - s + s = 32 by omega]
  have elow : d1 * 4294967296 + d0 = X % 18446744073709551616 := by omega
  have hlow : (d1 * 4294967296 + d0) / 2 ^ s < 2 ^ (64 - s) := by
    rw [elow]
    refine Nat.div_lt_of_lt_mul ?_
    rw [Nat.mul_comm, e64]
    exact Nat.mod_lt _ (by decide)
  have hm : d2 * 2 ^ (64 - s) % 18446744073709551616 % 2 ^ (64 - s) = 0 := by
    rw [← e64, Nat.mod_mul_right_mod, Nat.mul_mod_left]
  refine ⟨?_, hlow, hm⟩
  have hX : X = X / 79228162514264337593543950336 * 79228162514264337593543950336 + d2 * 18446744073709551616 + (d1 * 4294967296 + d0) := by omega
  obtain ⟨low, hl⟩ : ∃ low, low = d1 * 4294967296 + d0 := ⟨_, rfl⟩
  rw [← hl] at hX hlow ⊢
  clear hl elow h0 h1
  obtain ⟨t, ht⟩ : ∃ t, t = X / 79228162514264337593543950336 := ⟨_, rfl⟩
  rw [← ht] at hX
  have e96 : t * 79228162514264337593543950336 = t * 2 ^ (32 - s) * 18446744073709551616 * 2 ^ s := by
    rw [Nat.mul_assoc, Nat.mul_assoc, Nat.mul_comm 18446744073709551616 (2 ^ s), ← Nat.mul_assoc (2 ^ (32 - s)), e32]
  have ed : d2 * 18446744073709551616 = d2 * 2 ^ (64 - s) * 2 ^ s := by rw [Nat.mul_assoc, e64]
  have hdiv : X / 2 ^ s = t * 2 ^ (32 - s) * 18446744073709551616 + d2 * 2 ^ (64 - s) + low / 2 ^ s := by
    rw [hX, e96, ed, ← Nat.add_mul, Nat.add_comm, Nat.add_mul_div_right _ _ hp]
    omega
  rw [hdiv]
  obtain ⟨M, hMe⟩ : ∃ M, M = d2 * 2 ^ (64 - s) := ⟨_, rfl⟩
  obtain ⟨T, hTe⟩ : ∃ T, T = t * 2 ^ (32 - s) := ⟨_, rfl⟩
  rw [← hMe] at hm ⊢
  rw [← hTe]
  clear hdiv ed e96 hX hMe hTe h2
  have hM : M % 18446744073709551616 + low / 2 ^ s < 18446744073709551616 := by
    obtain ⟨c, hc⟩ := Nat.dvd_of_mod_eq_zero hm
    have h3 : M % 18446744073709551616 < 18446744073709551616 := Nat.mod_lt _ (by decide)
    rw [hc] at h3 ⊢
    rw [← e64] at h3 ⊢
    have h4 : c < 2 ^ s := Nat.lt_of_mul_lt_mul_left h3
    have h5 : 2 ^ (64 - s) * (c + 1) ≤ 2 ^ (64 - s) * 2 ^ s := Nat.mul_le_mul_left _ h4
    rw [Nat.mul_add, Nat.mul_one] at h5
    omega
  obtain ⟨L, hL⟩ : ∃ L, L = low / 2 ^ s := ⟨_, rfl⟩
  rw [← hL] at hM ⊢
  clear hL hlow hm e64 e32
  omega
theorem dg_nat (u i : Nat) : wd.dg (u : Int) i = ((u / 4294967296 ^ i % 4294967296 : Nat) : Int) := by
  unfold wd.dg
  rw [Int.natCast_emod, Int.natCast_ediv, wd.pow_cast]
  rfl
theorem pow_from (f : Nat) : 2 ^ f = 4294967296 ^ (f / 32) * 2 ^ (f % 32) := by
  rw [show (4294967296 : Nat) = 2 ^ 32 from rfl, ← Nat.pow_mul, ← Nat.pow_add]
  congr 1
  omega
set_option maxRecDepth 100000 in
set_option maxHeartbeats 1000000 in
theorem headAt_any (a : Option Addr) (l cap u f : Nat) (w : World) (ha : Sl w a l cap (wd.dcells l (u : Int))) (hu : u < 4294967296 ^ l) (hf : f ≤ 100000000000) :
    Calls Tryz.prog 124 #[.slice a l cap, .int .i64 (f : Int)] w fun e w' => e = .returned (.int .u64 ((u / 2 ^ f % 18446744073709551616 : Nat) : Int)) ∧ Below w.heap.size w w' := by
  obtain ⟨i, hi⟩ : ∃ i, i = f / 32 := ⟨_, rfl⟩
  obtain ⟨s, hs⟩ : ∃ s, s = f % 32 := ⟨_, rfl⟩
  obtain ⟨X, hX⟩ : ∃ X, X = u / 4294967296 ^ i := ⟨_, rfl⟩
  have hs32 : s < 32 := by omega
  have n0 := dg_nat u i
  have n1 := dg_nat u (i + 1)
  have n2 := dg_nat u (i + 2)
  rw [Nat.pow_succ, ← Nat.div_div_eq_div_mul, ← hX] at n1
  rw [show i + 2 = i + 1 + 1 from rfl, Nat.pow_succ, Nat.pow_succ, ← Nat.div_div_eq_div_mul, ← Nat.div_div_eq_div_mul, ← hX, Nat.div_div_eq_div_mul] at n2
  rw [← hX] at n0
  obtain ⟨d0, hd0⟩ : ∃ d, d = X % 4294967296 := ⟨_, rfl⟩
  obtain ⟨d1, hd1⟩ : ∃ d, d = X / 4294967296 % 4294967296 := ⟨_, rfl⟩
  obtain ⟨d2, hd2⟩ : ∃ d, d = X / 18446744073709551616 % 4294967296 := ⟨_, rfl⟩
  rw [← hd0] at n0
  rw [← hd1] at n1
  rw [show 4294967296 * 4294967296 = 18446744073709551616 from rfl, ← hd2] at n2
  obtain ⟨m1, m2, m3⟩ := head_math X d2 d1 d0 s hd2 hd1 hd0 hs32
  have hres : u / 2 ^ f = X / 2 ^ s := by rw [pow_from, ← hi, ← hs, hX, Nat.div_div_eq_div_mul]
  rw [hres, ← m1]
  have b0 : d0 < 4294967296 := by omega
  have b1 : d1 < 4294967296 := by omega
  have b2 : d2 < 4294967296 := by omega
  obtain ⟨LOW, hLOW⟩ : ∃ L, L = d1 * 4294967296 + d0 := ⟨_, rfl⟩
  rw [← hLOW] at m2 ⊢
  obtain ⟨Lw, hLw⟩ : ∃ L, L = LOW / 2 ^ s := ⟨_, rfl⟩
  obtain ⟨Hg, hHg⟩ : ∃ H, H = d2 * 2 ^ (64 - s) % 18446744073709551616 := ⟨_, rfl⟩
  rw [← hLw] at m2 ⊢
  rw [← hHg] at m3 ⊢
  obtain ⟨t, ht⟩ : ∃ t, t = 64 - s := ⟨_, rfl⟩
  rw [← ht] at hHg m2 m3
  have bH : Hg < 18446744073709551616 := by rw [hHg]; exact Nat.mod_lt _ (by decide)
  have bL : Lw < 18446744073709551616 := Nat.lt_of_lt_of_le m2 (Nat.le_trans (Nat.pow_le_pow_right (by decide) (show t ≤ 64 by omega)) (by decide))
  have E1 : (LOW : Int) / 2 ^ s = (Lw : Int) := by rw [hLw, Int.natCast_ediv, Int.natCast_pow]; rfl
  have E2 : IntKind.u64.wrap ((d2 : Int) * 2 ^ t) = (Hg : Int) := by rw [hHg, IntKind.wrap_u64, Int.natCast_emod, Int.natCast_mul, Int.natCast_pow]; rfl
  have E3 : bits BinOp.or IntKind.u64 (Lw : Int) (Hg : Int) = ((Lw + Hg : Nat) : Int) := by
    rw [u64_or_nat _ _ (by omega) (by omega), Nat.or_comm, nat_join t Hg Lw m3 m2]
    omega
  have E4 : bits BinOp.or IntKind.u64 ((d1 : Int) * 4294967296) (d0 : Int) = (LOW : Int) := by rw [join_bits _ _ (by omega) (by omega) (by omega) (by omega)]; omega
  have E5 : (64 : Int) - (s : Int) = (t : Int) := by omega
  have E6 : (f : Int) / 32 = (i : Int) := by omega
  have E7 : (f : Int) % 32 = (s : Int) := by omega
  have bi : i ≤ 100000000000 := by omega
  have ht64 : t ≤ 64 := by omega
  have HW1 : Hid _ := n1
  have HW0 : Hid _ := n0
  have HW2 : Hid (∀ n, Calls Tryz.prog 133 #[.slice a l cap, .int .i64 ((i : Int) + 2)] (w.drewN n) fun e w'' => e = .returned (.int .u32 (d2 : Int)) ∧ ∃ m, w'' = w.drewN m) := fun n => by
    have h := wordAt_any a l cap u (i + 2) (iv := (i : Int) + 2) (w.drewN n) (ha.below ⟨rfl, rfl, rfl, Nat.le_refl _, fun _ _ => rfl⟩) hu (by omega)
    rw [n2] at h
    refine h.mono ?_
    rintro e w' ⟨rfl, hw⟩
    exact ⟨rfl, n, hw.symm⟩
  clear hi hs hX n0 n1 n2 hd0 hd1 hd2 m1 m2 m3 hres hLOW hLw hHg ht
  go_enter Tryz.func124, Tryz.ntmps124
  go_wp2_with (go_at_call 133; fail)
  refine (wordAt_any a l cap u (i + 1) (iv := (i : Int) + 1) w ha hu (by omega)).mono ?_
  rw [HW1.out]
  rintro e w' ⟨rfl, hw⟩
  subst hw
  go_wp2_with (go_at_call 133; fail)
  refine (wordAt_any a l cap u i (iv := (i : Int)) w ha hu rfl).mono ?_
  rw [HW0.out]
  rintro e w' ⟨rfl, hw⟩
  subst hw
  go_wp2
  go_quiet (first | (go_at_call 133; exact HW2.out _))
  go_wp2
  go_ret
  exact ⟨by first | rfl | simp, ⟨rfl, rfl, rfl, Nat.le_refl _, fun _ _ => rfl⟩⟩

set_option maxRecDepth 100000 in
set_option maxHeartbeats 1000000 in
theorem small_any (a : Option Addr) (l cap u : Nat) (w : World) (ha : Sl w a l cap (wd.dcells l (u : Int))) (hu : u < 4294967296 ^ l) (h64 : u < 18446744073709551616) :
    Calls Tryz.prog 116 #[.slice a l cap] w fun e w' => e = .returned (.int .u64 (u : Int)) ∧ Below w.heap.size w w' := by
  have H := headAt_any a l cap u 0 w ha hu (by omega)
  rw [Nat.pow_zero, Nat.div_one, Nat.mod_eq_of_lt h64] at H
  have HH : Hid _ := H
  clear H
  go_enter Tryz.func116, Tryz.ntmps116
  go_wp2_with (go_at_call 124; fail)
  refine (show Calls _ _ _ _ (fun e w' => e = .returned (.int .u64 (u : Int)) ∧ Below w.heap.size w w') from HH.out).mono ?_
  rintro e w' ⟨rfl, hb⟩
  go_wp2
  go_ret
  exact ⟨rfl, hb⟩
end Go.Proofs.YtcaihoomcdbfnaaGreat

namespace Go.Proofs.YtcaihoomcdbfnaaGreat
open Go.RowKit
set_option linter.unusedVariables false

/-- What holds at the head of each round, where the first product is the greater. -/
def OverRel (w : World) (P u Q v : Int) (l b : Nat) (ua ub r i : Value) (wr : World) : Prop := ∃ k : Nat, k ≤ l ∧ i = .int .i64 (k : Int) ∧ ua = .int .u64 (sc P u k) ∧ ub = .int .u64 (sc Q v k) ∧ r = .int .u64 (wd.bw (P * u) (Q * v) k) ∧
  Own wr w.heap.size 115 (some ⟨b, 0, none⟩) l l (wd.mix l k (P * u - Q * v) 0) ∧ Below w.heap.size w wr
theorem over_next (w wr : World) (P u Q v za zb d : Int) (l b k : Nat) (hk : k < l) (hb : w.heap.size ≤ b) (hza : za = sc P u k + P * wd.dg u k) (hzb : zb = sc Q v k + Q * wd.dg v k) (hd : d = (za % 4294967296 - zb % 4294967296 - wd.bw (P * u) (Q * v) k) % 18446744073709551616)
    (hown : Own wr w.heap.size 115 (some ⟨b, 0, none⟩) l l (wd.mix l k (P * u - Q * v) 0)) (hbel : Below w.heap.size w wr) :
    OverRel w P u Q v l b (.int .u64 (za / 4294967296)) (.int .u64 (zb / 4294967296)) (.int .u64 (d / 9223372036854775808)) (.int .i64 ((k : Int) + 1)) (wr.setCell ⟨b, k, none⟩ (.int .u32 (d % 4294967296))) := by
  subst hza hzb
  rw [sc_digit, sc_digit] at hd
  obtain ⟨r0, r1⟩ := wd.bw_range (P * u) (Q * v) k
  obtain ⟨x0, x1⟩ := wd.dg_range (P * u) k
  obtain ⟨y0, y1⟩ := wd.dg_range (Q * v) k
  have e1 : d % 4294967296 = wd.dg (P * u - Q * v) k := by rw [← wd.sub_digit, hd]; omega
  have e2 : d / 9223372036854775808 = wd.bw (P * u) (Q * v) (k + 1) := by
    rw [← wd.bw_succ, hd]
    unfold wd.bor
    split <;> omega
  refine ⟨k + 1, by omega, by simp, by rw [sc_succ], by rw [sc_succ], by rw [e2], ?_, hbel.setCell hb _⟩
  rw [e1, ← wd.mix_set]
  exact Own.set hown _ hk

set_option maxRecDepth 100000 in
set_option maxHeartbeats 1000000 in
theorem between_over (a b : Option Addr) (la lb ca cb u v P Q : Nat) (w : World) (ha : Sl w a la ca (wd.dcells la (u : Int))) (hu : u < 4294967296 ^ la) (hla : la ≤ 1000000000) (hb : Sl w b lb cb (wd.dcells lb (v : Int))) (hv : v < 4294967296 ^ lb) (hP : P < 4294967296) (hQ : Q < 4294967296) (hle : Q * v ≤ P * u) (hlt : P * u - Q * v < 4294967296 ^ la) :
    Calls Tryz.prog 125 #[.slice a la ca, .slice b lb cb, .int .u64 (P : Int), .int .u64 (Q : Int), .bool true] w fun e w' => ∃ a' cap', e = .returned (.slice a' (wd.nlen (P * u - Q * v)) cap') ∧ Own w' w.heap.size 115 a' (wd.nlen (P * u - Q * v)) cap' (wd.dcells (wd.nlen (P * u - Q * v)) ((P * u - Q * v : Nat) : Int)) ∧ Below w.heap.size w w' := by
  obtain ⟨i0, hi0, hz0, hz1, hz2⟩ := info_parts infoWord
  have hz0' : wd.dcells la 0 = List.replicate la (.int .u32 0) := wd.dcells_zero _
  have hmax : la ≤ maxLen := by unfold maxLen; omega
  have HE : Hid ((P : Int) * u - (Q : Int) * v = ((P * u - Q * v : Nat) : Int)) := by unfold Hid; rw [Int.ofNat_sub hle, Int.natCast_mul, Int.natCast_mul]
  have HL : Hid _ := hlt
  clear hlt hle
  obtain ⟨Z, hZ⟩ : ∃ Z, Z = P * u - Q * v := ⟨_, rfl⟩
  rw [← hZ] at HE HL ⊢
  clear hZ
  have hcap := ha.big
  have hroom := ha.room
  unfold maxLen at hcap
  go_enter Tryz.func125, Tryz.ntmps125
  go_wp2_with (at_make; refine make_any _ rfl (.tmp 21) (.tmp 21) 25 rfl w.heap.size 115 i0 (.int .u32 0) Tryz.underlying25 hi0 hz0 hz1 rfl .i64 .i64 _ _ la rfl rfl (by simp) (by simp) (by rw [hz2]; omega) (by omega) (Nat.le_refl _) ?_; intro w1 hown hbel)
  rw [← hz0', ← wd.mix_zero la ((P : Int) * u - (Q : Int) * v)] at hown
  go_loopw [12, 13, 14, 25] (fun ua ub r i wr => OverRel w P u Q v la w.heap.size ua ub r i wr) (fun _ _ _ i _ => la - (intOf i).toNat)
  case atStart => exact ⟨0, by omega, rfl, by rw [sc_zero], by rw [sc_zero], by rw [wd.bw_zero], hown, hbel⟩
  case round =>
    clear hown hbel
    obtain ⟨k, hk, rfl, rfl, rfl, rfl, hown, hbel⟩ := hrel
    by_cases hlt : k < la
    · obtain ⟨ba, oa, rfl, hba, hseg⟩ := ha.at (by omega)
      have c1 : wr.cell? ⟨ba, oa + k, none⟩ = some (.int .u32 (wd.dg u k)) := (hbel.cell (p := ⟨ba, oa + k, none⟩) hba).trans (hseg.cell k _ (wd.dcells_at _ _ _ hlt))
      have c3 : wr.cell? ⟨w.heap.size, k, none⟩ = some (.int .u32 (wd.dg 0 k)) := Own.cell hown k _ (wd.mix_at _ _ _ _ _ (by omega) (Nat.le_refl _))
      have c4 : wr.frozen? ⟨w.heap.size, k, none⟩ = false := Own.free hown k (by omega)
      obtain ⟨d0, d1⟩ := wd.dg_range u k
      obtain ⟨e0, e1⟩ := wd.dg_range v k
      obtain ⟨f0, f1⟩ := sc_range P u k (by omega) (by omega)
      obtain ⟨g0, g1⟩ := sc_range Q v k (by omega) (by omega)
      obtain ⟨x0, x1⟩ := xdg P u k (by omega) (by omega)
      obtain ⟨y0, y1⟩ := xdg Q v k (by omega) (by omega)
      obtain ⟨r0, r1⟩ := wd.bw_range ((P : Int) * u) ((Q : Int) * v) k
      have HN : Hid _ := fun za zb d h1 h2 h3 => over_next w wr P u Q v za zb d la w.heap.size k hlt (Nat.le_refl _) h1 h2 h3 hown hbel
      obtain ⟨za, hza⟩ : ∃ z, z = sc (P : Int) u k + P * wd.dg u k := ⟨_, rfl⟩
      obtain ⟨zb, hzb⟩ : ∃ z, z = sc (Q : Int) v k + Q * wd.dg v k := ⟨_, rfl⟩
      have Ea : sc (P : Int) u k + P * wd.dg u k = za := hza.symm
      have Eb : sc (Q : Int) v k + Q * wd.dg v k = zb := hzb.symm
      have za0 : 0 ≤ za := by omega
      have za1 : za < 18446744073709551616 := by omega
      have zb0 : 0 ≤ zb := by omega
      have zb1 : zb < 18446744073709551616 := by omega
      have HN : Hid _ := fun d => HN.out za zb d hza hzb
      have hs2 := hb.below hbel
      clear hown hza hzb hseg
      go_wp2_with (go_at_call 133; refine (wordAt_any _ _ _ v k _ hs2 hv rfl).mono ?_; rintro e w' ⟨rfl, hw⟩; subst hw)
      go_roundw
      case rel => exact HN.out _ (by rw [IntKind.wrap_u64, IntKind.wrap_u64]; omega)
      case measure => simp [intOf]; omega
    · obtain rfl : k = la := by omega
      rw [wd.mix_full, HE.out] at hown
      go_wp2_with (go_at_call 89; refine (strip_any _ _ _ Z _ hown.sl HL.out).mono ?_; rintro e w' ⟨a3, c3', rfl, hw, hcut3⟩; subst hw)
      go_ret
      exact ⟨a3, c3', rfl, hcut3.own hown, hbel⟩
set_option maxRecDepth 100000 in
set_option maxHeartbeats 1000000 in
theorem between_under (a b : Option Addr) (la lb ca cb u v P Q : Nat) (w : World) (ha : Sl w a la ca (wd.dcells la (u : Int))) (hu : u < 4294967296 ^ la) (hla : la ≤ 1000000000) (hb : Sl w b lb cb (wd.dcells lb (v : Int))) (hv : v < 4294967296 ^ lb) (hP : P < 4294967296) (hQ : Q < 4294967296) (hle : P * u ≤ Q * v) (hlt : Q * v - P * u < 4294967296 ^ la) :
    Calls Tryz.prog 125 #[.slice a la ca, .slice b lb cb, .int .u64 (P : Int), .int .u64 (Q : Int), .bool false] w fun e w' => ∃ a' cap', e = .returned (.slice a' (wd.nlen (Q * v - P * u)) cap') ∧ Own w' w.heap.size 115 a' (wd.nlen (Q * v - P * u)) cap' (wd.dcells (wd.nlen (Q * v - P * u)) ((Q * v - P * u : Nat) : Int)) ∧ Below w.heap.size w w' := by
  obtain ⟨i0, hi0, hz0, hz1, hz2⟩ := info_parts infoWord
  have hz0' : wd.dcells la 0 = List.replicate la (.int .u32 0) := wd.dcells_zero _
  have hmax : la ≤ maxLen := by unfold maxLen; omega
  have HE : Hid ((Q : Int) * v - (P : Int) * u = ((Q * v - P * u : Nat) : Int)) := by unfold Hid; rw [Int.ofNat_sub hle, Int.natCast_mul, Int.natCast_mul]
  have HL : Hid _ := hlt
  clear hlt hle
  obtain ⟨Z, hZ⟩ : ∃ Z, Z = Q * v - P * u := ⟨_, rfl⟩
  rw [← hZ] at HE HL ⊢
  clear hZ
  have hcap := ha.big
  have hroom := ha.room
  unfold maxLen at hcap
  go_enter Tryz.func125, Tryz.ntmps125
  go_wp2_with (at_make; refine make_any _ rfl (.tmp 21) (.tmp 21) 25 rfl w.heap.size 115 i0 (.int .u32 0) Tryz.underlying25 hi0 hz0 hz1 rfl .i64 .i64 _ _ la rfl rfl (by simp) (by simp) (by rw [hz2]; omega) (by omega) (Nat.le_refl _) ?_; intro w1 hown hbel)
  rw [← hz0', ← wd.mix_zero la ((Q : Int) * v - (P : Int) * u)] at hown
  go_loopw [12, 13, 14, 25] (fun ua ub r i wr => OverRel w Q v P u la w.heap.size ub ua r i wr) (fun _ _ _ i _ => la - (intOf i).toNat)
  case atStart => exact ⟨0, by omega, rfl, by rw [sc_zero], by rw [sc_zero], by rw [wd.bw_zero], hown, hbel⟩
  case round =>
    clear hown hbel
    obtain ⟨k, hk, rfl, rfl, rfl, rfl, hown, hbel⟩ := hrel
    by_cases hlt : k < la
    · obtain ⟨ba, oa, rfl, hba, hseg⟩ := ha.at (by omega)
      have c1 : wr.cell? ⟨ba, oa + k, none⟩ = some (.int .u32 (wd.dg u k)) := (hbel.cell (p := ⟨ba, oa + k, none⟩) hba).trans (hseg.cell k _ (wd.dcells_at _ _ _ hlt))
      have c3 : wr.cell? ⟨w.heap.size, k, none⟩ = some (.int .u32 (wd.dg 0 k)) := Own.cell hown k _ (wd.mix_at _ _ _ _ _ (by omega) (Nat.le_refl _))
      have c4 : wr.frozen? ⟨w.heap.size, k, none⟩ = false := Own.free hown k (by omega)
      obtain ⟨d0, d1⟩ := wd.dg_range u k
      obtain ⟨e0, e1⟩ := wd.dg_range v k
      obtain ⟨f0, f1⟩ := sc_range P u k (by omega) (by omega)
      obtain ⟨g0, g1⟩ := sc_range Q v k (by omega) (by omega)
      obtain ⟨x0, x1⟩ := xdg P u k (by omega) (by omega)
      obtain ⟨y0, y1⟩ := xdg Q v k (by omega) (by omega)
      obtain ⟨r0, r1⟩ := wd.bw_range ((Q : Int) * v) ((P : Int) * u) k
      have HN : Hid _ := fun za zb d h1 h2 h3 => over_next w wr Q v P u zb za d la w.heap.size k hlt (Nat.le_refl _) h2 h1 h3 hown hbel
      obtain ⟨za, hza⟩ : ∃ z, z = sc (P : Int) u k + P * wd.dg u k := ⟨_, rfl⟩
      obtain ⟨zb, hzb⟩ : ∃ z, z = sc (Q : Int) v k + Q * wd.dg v k := ⟨_, rfl⟩
      have Ea : sc (P : Int) u k + P * wd.dg u k = za := hza.symm
      have Eb : sc (Q : Int) v k + Q * wd.dg v k = zb := hzb.symm
      have za0 : 0 ≤ za := by omega
      have za1 : za < 18446744073709551616 := by omega
      have zb0 : 0 ≤ zb := by omega
      have zb1 : zb < 18446744073709551616 := by omega
      have HN : Hid _ := fun d => HN.out za zb d hza hzb
      have hs2 := hb.below hbel
      clear hown hza hzb hseg
      go_wp2_with (go_at_call 133; refine (wordAt_any _ _ _ v k _ hs2 hv rfl).mono ?_; rintro e w' ⟨rfl, hw⟩; subst hw)
      go_roundw
      case rel => exact HN.out _ (by rw [IntKind.wrap_u64, IntKind.wrap_u64]; omega)
      case measure => simp [intOf]; omega
    · obtain rfl : k = la := by omega
      rw [wd.mix_full, HE.out] at hown
      go_wp2_with (go_at_call 89; refine (strip_any _ _ _ Z _ hown.sl HL.out).mono ?_; rintro e w' ⟨a3, c3', rfl, hw, hcut3⟩; subst hw)
      go_ret
      exact ⟨a3, c3', rfl, hcut3.own hown, hbel⟩
end Go.Proofs.YtcaihoomcdbfnaaGreat

namespace Go.Proofs.YtcaihoomcdbfnaaGreat
set_option linter.unusedVariables false

def sgv (ev : Bool) : Int := if ev then -1 else 1
theorem sgv_not (ev : Bool) : sgv (!ev) = - sgv ev := by cases ev <;> rfl
theorem sgv_sq (ev : Bool) : sgv ev * sgv ev = 1 := by cases ev <;> rfl
/-- What holds at the head of each round, of two numbers A = x F + α and B = y F + β: a and b are what is left of x and y; p and q the factors. -/
structure Fore (A B x y : Int) (a b p0 p1 pn q0 q1 qn : Int) (ev : Bool) : Prop where
  ha : a = sgv ev * (p1 * x - q1 * y)
  hb : b = - sgv ev * (pn * x - qn * y)
  det : p1 * qn - pn * q1 = sgv ev
  b0 : 0 ≤ b
  ab : b ≤ a
  hp0 : 0 ≤ p0
  hp1 : 0 ≤ p1
  hpn : 0 ≤ pn
  hq0 : 0 ≤ q0
  hq1 : 0 ≤ q1
  q1n : q1 ≤ qn
  hqn : 1 ≤ qn
  pqn : pn ≤ qn
  first : (q1 = 0 ∧ p1 = 1 ∧ pn = 0 ∧ qn = 1 ∧ ev = false ∧ q0 = 0) ∨ (1 ≤ q1 ∧ p1 ≤ q1)
  q1l : q1 < 4294967296
  q0l : q0 < 4294967296
  p0l : p0 < 4294967296
  p1l : p1 < 4294967296
  out : q0 ≠ 0 → 0 ≤ sgv ev * (p1 * A - q1 * B) ∧ sgv ev * (p1 * A - q1 * B) < - sgv ev * (p0 * A - q0 * B) ∧ - sgv ev * (p0 * A - q0 * B) ≤ B ∧ p0 * q1 - p1 * q0 = - sgv ev
  cur : q1 ≠ 0 → sgv ev * (p1 * A - q1 * B) ≤ B
theorem fore_start (A B x y : Int) (hy : 0 ≤ y) (hxy : y ≤ x) : Fore A B x y x y 0 1 0 0 0 1 false := by
  refine ⟨?_, ?_, ?_, hy, hxy, ?_, ?_, ?_, ?_, ?_, ?_, ?_, ?_, Or.inl ⟨rfl, rfl, rfl, rfl, rfl, rfl⟩, ?_, ?_, ?_, ?_, ?_, ?_⟩ <;> simp [sgv]
theorem fore_x {A B x y a b p0 p1 pn q0 q1 qn : Int} {ev : Bool} (h : Fore A B x y a b p0 p1 pn q0 q1 qn ev) : qn * a + q1 * b = x := by
  have h1 := h.ha
  have h2 := h.hb
  have h3 := h.det
  have h4 := sgv_sq ev
  clear h
  grind
theorem fore_y {A B x y a b p0 p1 pn q0 q1 qn : Int} {ev : Bool} (h : Fore A B x y a b p0 p1 pn q0 q1 qn ev) : pn * a + p1 * b = y := by
  have h1 := h.ha
  have h2 := h.hb
  have h3 := h.det
  have h4 := sgv_sq ev
  clear h
  grind
/-- Where the test is met there is room for the sum that it asks for, and for the next factors; and the factors that are next are short. -/
theorem fore_room {A B x y a b p0 p1 pn q0 q1 qn : Int} {ev : Bool} (h : Fore A B x y a b p0 p1 pn q0 q1 qn ev) (hx : x < 18446744073709551616) (hyx : y ≤ x) (hb : qn ≤ b) :
    q1 + qn < 18446744073709551616 ∧ q1 + a / b * qn < 18446744073709551616 ∧ p1 + a / b * pn < 18446744073709551616 ∧ qn < 4294967296 ∧ a < 18446744073709551616 ∧ a / b * qn < 18446744073709551616 ∧ a / b * pn < 18446744073709551616 ∧ 1 ≤ a / b := by
  have hX := fore_x h
  have hY := fore_y h
  have h1 := h.hqn
  have h2 := h.hq1
  have h3 := h.ab
  have h4 := h.hpn
  have h5 := h.hp1
  have hb0 : 0 < b := by omega
  have t1 : 1 ≤ a / b := Int.le_ediv_of_mul_le hb0 (by omega)
  have tb : a / b * b ≤ a := Int.ediv_mul_le a (by omega)
  generalize a / b = t at t1 tb
  have e1 : qn * qn ≤ qn * a := Int.mul_le_mul_of_nonneg_left (by omega) (by omega)
  have e2 : 0 ≤ q1 * b := Int.mul_nonneg h2 (by omega)
  have e3 : qn * (t * b) ≤ qn * a := Int.mul_le_mul_of_nonneg_left tb (by omega)
  have e4 : pn * (t * b) ≤ pn * a := Int.mul_le_mul_of_nonneg_left tb (by omega)
  have e5 : (q1 + t * qn) * 1 ≤ (q1 + t * qn) * b := Int.mul_le_mul_of_nonneg_left (by omega) (by have := Int.mul_nonneg (show 0 ≤ t by omega) (show 0 ≤ qn by omega); omega)
  have e6 : (p1 + t * pn) * 1 ≤ (p1 + t * pn) * b := Int.mul_le_mul_of_nonneg_left (by omega) (by have := Int.mul_nonneg (show 0 ≤ t by omega) h4; omega)
  have e7 : (q1 + t * qn) * b = q1 * b + qn * (t * b) := by grind
  have e8 : (p1 + t * pn) * b = p1 * b + pn * (t * b) := by grind
  have e9 : 1 * qn ≤ t * qn := Int.mul_le_mul_of_nonneg_right t1 (by omega)
  have e10 : 1 * a ≤ qn * a := Int.mul_le_mul_of_nonneg_right h1 (by omega)
  have e11 : qn < 4294967296 := by
    rcases Int.lt_or_le qn 4294967296 with g | g
    · exact g
    · have := Int.mul_le_mul g g (by decide) (by omega)
      omega
  have e12 := Int.mul_nonneg (show 0 ≤ t by omega) (show 0 ≤ qn by omega)
  have e13 := Int.mul_nonneg (show 0 ≤ t by omega) h4
  refine ⟨by omega, by omega, by omega, e11, by omega, by omega, by omega, t1⟩
theorem fore_next {A B x y a b p0 p1 pn q0 q1 qn F al be : Int} {ev : Bool} (h : Fore A B x y a b p0 p1 pn q0 q1 qn ev) (hx : x < 18446744073709551616) (hyx : y ≤ x) (hA : A = x * F + al) (hB : B = y * F + be) (ha0 : 0 ≤ al) (ha1 : al < F) (hb0 : 0 ≤ be) (hb1 : be < F)
    (t1 : qn ≤ b) (t2 : q1 + qn ≤ a - b) : Fore A B x y b (a % b) p1 pn (p1 + a / b * pn) q1 qn (q1 + a / b * qn) (!ev) := by
  obtain ⟨_, _, _, r1, _, _, _, r2⟩ := fore_room h hx hyx t1
  have hq := h.hqn
  have hbp : 0 < b := by omega
  have hm : a % b = a - a / b * b := by have := Int.mul_ediv_add_emod a b; rw [Int.mul_comm] at this; omega
  have hm0 := Int.emod_nonneg a (Int.ne_of_gt hbp)
  have hm1 := Int.emod_lt_of_pos a hbp
  generalize a / b = t at hm r2
  generalize a % b = m at hm hm0 hm1
  have g1 := h.ha
  have g2 := h.hb
  have g3 := h.det
  have g4 := h.hp1
  have g5 := h.hpn
  have g6 := h.hq1
  have g7 := h.pqn
  have g8 := sgv_sq ev
  have n1 := Int.mul_nonneg (show 0 ≤ t by omega) g5
  have n2 := Int.mul_nonneg (show 0 ≤ t by omega) (show 0 ≤ qn by omega)
  have n3 : 1 * qn ≤ t * qn := Int.mul_le_mul_of_nonneg_right r2 (by omega)
  have n4 : t * pn ≤ t * qn := Int.mul_le_mul_of_nonneg_left g7 (by omega)
  -- what is left of the numbers themselves
  have key : 0 ≤ - sgv ev * (pn * A - qn * B) ∧ (q1 ≠ 0 → - sgv ev * (pn * A - qn * B) < sgv ev * (p1 * A - q1 * B)) ∧ (q1 = 0 → - sgv ev * (pn * A - qn * B) = B) := by
    have k1 : qn * F ≤ b * F := Int.mul_le_mul_of_nonneg_right t1 (by omega)
    have k2 : (q1 + qn) * F ≤ (a - b) * F := Int.mul_le_mul_of_nonneg_right t2 (by omega)
    have k3 : pn * al ≤ qn * F := Int.le_trans (Int.mul_le_mul_of_nonneg_right g7 ha0) (Int.mul_le_mul_of_nonneg_left (by omega) (by omega))
    have k4 : qn * be ≤ qn * F := Int.mul_le_mul_of_nonneg_left (by omega) (by omega)
    have k5 : 0 ≤ pn * al := Int.mul_nonneg g5 ha0
    have k6 : 0 ≤ qn * be := Int.mul_nonneg (by omega) hb0
    have k7 : 0 ≤ p1 * al := Int.mul_nonneg g4 ha0
    have k8 : 0 ≤ q1 * be := Int.mul_nonneg g6 hb0
    have eR : - sgv ev * (pn * A - qn * B) = b * F - sgv ev * (pn * al - qn * be) := by rw [g2, hA, hB]; clear g1 g2 g3 hA hB; grind
    have eS : sgv ev * (p1 * A - q1 * B) = a * F + sgv ev * (p1 * al - q1 * be) := by rw [g1, hA, hB]; clear g1 g2 g3 hA hB; grind
    refine ⟨?_, ?_, ?_⟩
    · rw [eR]
      cases ev
      · simp only [sgv]; simp; omega
      · simp only [sgv]; simp; omega
    · intro hq1
      rcases h.first with ⟨z, _⟩ | ⟨o1, o2⟩
      · exact absurd z hq1
      · have k9 : (q1 + qn) * (be + 1) ≤ (q1 + qn) * F := Int.mul_le_mul_of_nonneg_left (by omega) (by omega)
        have k10 : (q1 + qn) * (al + 1) ≤ (q1 + qn) * F := Int.mul_le_mul_of_nonneg_left (by omega) (by omega)
        have k11 : (p1 + pn) * al ≤ (q1 + qn) * al := Int.mul_le_mul_of_nonneg_right (by omega) ha0
        rw [eR, eS]
        rw [Int.sub_mul] at k2
        rw [Int.mul_add, Int.mul_one, Int.add_mul q1 qn be, Int.add_mul] at k9
        rw [Int.mul_add, Int.mul_one, Int.add_mul q1 qn al, Int.add_mul] at k10
        rw [Int.add_mul, Int.add_mul] at k11
        rw [Int.add_mul] at k2
        cases ev
        · simp only [sgv]; simp; omega
        · simp only [sgv]; simp; omega
    · intro hq1
      rcases h.first with ⟨_, z1, z2, z3, z4, _⟩ | ⟨o1, o2⟩
      · subst z4; rw [z2, z3]; simp [sgv]
      · omega
  refine ⟨?_, ?_, ?_, hm0, by omega, g4, g5, by omega, g6, by omega, by omega, by omega, ?_, Or.inr ⟨by omega, g7⟩, r1, h.q1l, h.p1l, by omega, ?_, ?_⟩
  · rw [sgv_not]; exact g2
  · rw [sgv_not, hm]; clear h key hA hB; grind
  · rw [sgv_not]; clear h key hA hB; grind
  · rcases h.first with ⟨z0, z1, z2, z3, _⟩ | ⟨o1, o2⟩
    · subst z0 z1 z2 z3; omega
    · omega
  · intro hq1
    rw [sgv_not]
    obtain ⟨key1, key2, _⟩ := key
    have c := h.cur hq1
    have d := key2 hq1
    refine ⟨by simpa using key1, by simpa using d, by simpa using c, by simpa using g3⟩
  · intro _
    rw [sgv_not]
    obtain ⟨_, key2, key3⟩ := key
    by_cases hq1 : q1 = 0
    · have := key3 hq1; omega
    · have := key2 hq1
      have := h.cur hq1
      omega
/-- What is told at the end. -/
theorem fore_gcd (A B X Y p0 p1 q0 q1 : Nat) (ev : Bool) (hX : (X : Int) = - sgv ev * (p0 * A - q0 * B)) (hY : (Y : Int) = sgv ev * (p1 * A - q1 * B)) (det : (p0 : Int) * q1 - p1 * q0 = - sgv ev) : Nat.gcd X Y = Nat.gcd A B := by
  have s := sgv_sq ev
  have eA : (A : Int) = q1 * X + q0 * Y := by rw [hX, hY]; grind
  have eB : (B : Int) = p1 * X + p0 * Y := by rw [hX, hY]; grind
  have dv : ∀ d u v : Nat, ∀ z c1 c2 : Int, d ∣ u → d ∣ v → z = c1 * u + c2 * v → (d : Int) ∣ z := by
    intro d u v z c1 c2 h1 h2 h3
    rw [h3]
    exact Int.dvd_add (Int.dvd_trans (Int.natCast_dvd_natCast.2 h1) (Int.dvd_mul_left _ _)) (Int.dvd_trans (Int.natCast_dvd_natCast.2 h2) (Int.dvd_mul_left _ _))
  refine Nat.dvd_antisymm (Nat.dvd_gcd ?_ ?_) (Nat.dvd_gcd ?_ ?_)
  · exact Int.natCast_dvd_natCast.1 (dv _ X Y _ _ _ (Nat.gcd_dvd_left _ _) (Nat.gcd_dvd_right _ _) eA)
  · exact Int.natCast_dvd_natCast.1 (dv _ X Y _ _ _ (Nat.gcd_dvd_left _ _) (Nat.gcd_dvd_right _ _) eB)
  · exact Int.natCast_dvd_natCast.1 (dv _ A B _ (- sgv ev * p0) (sgv ev * q0) (Nat.gcd_dvd_left _ _) (Nat.gcd_dvd_right _ _) (by rw [hX]; grind))
  · exact Int.natCast_dvd_natCast.1 (dv _ A B _ (sgv ev * p1) (- sgv ev * q1) (Nat.gcd_dvd_left _ _) (Nat.gcd_dvd_right _ _) (by rw [hY]; grind))
end Go.Proofs.YtcaihoomcdbfnaaGreat

namespace Go.Proofs.YtcaihoomcdbfnaaGreat
open Go.RowKit
set_option linter.unusedVariables false

/-- What is told: short factors, and, where there is a factor for B, what they leave of A and B. -/
structure ForeOut (A B p0 p1 q0 q1 : Nat) (ev : Bool) : Prop where
  hp0 : p0 < 4294967296
  hp1 : p1 < 4294967296
  hq0 : q0 < 4294967296
  hq1 : q1 < 4294967296
  out : q0 ≠ 0 → 0 ≤ sgv ev * (p1 * A - q1 * B) ∧ sgv ev * (p1 * A - q1 * B) < - sgv ev * (p0 * A - q0 * B) ∧ - sgv ev * (p0 * A - q0 * B) ≤ B ∧ (p0 : Int) * q1 - p1 * q0 = - sgv ev
theorem Fore.told {A B p0 p1 q0 q1 : Nat} {x y a b pn qn : Int} {ev : Bool} (h : Fore A B x y a b p0 p1 pn q0 q1 qn ev) : ForeOut A B p0 p1 q0 q1 ev :=
  ⟨by have := h.p0l; omega, by have := h.p1l; omega, by have := h.q0l; omega, by have := h.q1l; omega, fun hq => h.out (by omega)⟩
def ForePost (w : World) (A B : Nat) (e : Ending) (w' : World) : Prop := ∃ (p0 p1 q0 q1 : Nat) (ev : Bool), e = .returned (.agg #[.int .u64 (p0 : Int), .int .u64 (p1 : Int), .int .u64 (q0 : Int), .int .u64 (q1 : Int), .bool ev]) ∧ ForeOut A B p0 p1 q0 q1 ev ∧ Below w.heap.size w w'
def foreCells (p0 p1 q0 q1 : Nat) (ev : Bool) : List Value := [.int .u64 (p0 : Int), .int .u64 (p1 : Int), .int .u64 (q0 : Int), .int .u64 (q1 : Int), .bool ev]
/-- What holds at the head of each round. -/
def ForeRel (w : World) (A B x y : Nat) (av bv nA nB : Value) (wr : World) : Prop := ∃ (a b p0 p1 pn q0 q1 qn : Nat) (ev : Bool), av = .int .u64 (a : Int) ∧ bv = .int .u64 (b : Int) ∧ nA = .int .u64 (pn : Int) ∧ nB = .int .u64 (qn : Int) ∧ Hid (Fore A B x y a b p0 p1 pn q0 q1 qn ev) ∧ a < 18446744073709551616 ∧ b ≤ a ∧
  Row wr (w.heap.size + 1) (foreCells p0 p1 q0 q1 ev) ∧ Row wr w.heap.size (foreCells 0 0 0 0 false) ∧ Below w.heap.size w wr
theorem fore_cells {wr : World} {b p0 p1 q0 q1 pn qn : Nat} {ev : Bool} (n : Nat) (h : Row wr b (foreCells p0 p1 q0 q1 ev)) :
    Row ((((((wr.drewN n).setCell ⟨b, 0, none⟩ (.int .u64 (p1 : Int))).setCell ⟨b, 1, none⟩ (.int .u64 (pn : Int))).setCell ⟨b, 2, none⟩ (.int .u64 (q1 : Int))).setCell ⟨b, 3, none⟩ (.int .u64 (qn : Int))).setCell ⟨b, 4, none⟩ (.bool (!ev))) b (foreCells p1 pn q1 qn (!ev)) :=
  (((((h.drewN n).set 0 _ (by simp [foreCells])).set 1 _ (by simp [foreCells])).set 2 _ (by simp [foreCells])).set 3 _ (by simp [foreCells])).set 4 _ (by simp [foreCells])
theorem below_drewN {B : Nat} {w wr : World} (h : Below B w wr) (n : Nat) : Below B w (wr.drewN n) := ⟨h.os, h.tape, h.output, h.size, h.block⟩
set_option maxRecDepth 100000 in
set_option maxHeartbeats 2000000 in
theorem foresee_any (A B x y F al be : Nat) (w : World) (hyx : y ≤ x) (hx : x < 18446744073709551616) (hA : A = x * F + al) (hB : B = y * F + be) (hal : al < F) (hbe : be < F) :
    Calls Tryz.prog 123 #[.int .u64 (x : Int), .int .u64 (y : Int)] w (ForePost w A B) := by
  have HA : Hid ((A : Int) = (x : Int) * F + al) := by unfold Hid; rw [hA]; simp
  have HB : Hid ((B : Int) = (y : Int) * F + be) := by unfold Hid; rw [hB]; simp
  have HS : Hid (Fore A B x y x y ((0 : Nat) : Int) ((1 : Nat) : Int) ((0 : Nat) : Int) ((0 : Nat) : Int) ((0 : Nat) : Int) ((1 : Nat) : Int) false) := fore_start A B x y (by omega) (by omega)
  clear hA hB
  go_enter Tryz.func123, Tryz.ntmps123
  go_wp2
  go_loopw [0, 1, 6, 7] (fun av bv nA nB wr => ForeRel w A B x y av bv nA nB wr) (fun _ bv _ _ _ => (intOf bv).toNat)
  case atStart =>
    refine ⟨x, y, 0, 1, 0, 0, 0, 1, false, rfl, rfl, rfl, rfl, HS.out, hx, hyx, ?_, ?_, ?_⟩
    · have := Row.new (w.alloc (.cells #[.int .u64 0, .int .u64 0, .int .u64 0, .int .u64 0, .bool false] 160)) (foreCells 0 1 0 0 false) 160
      simpa [foreCells] using this
    · have := (Row.new w (foreCells 0 0 0 0 false) 160).alloc (.cells (foreCells 0 1 0 0 false).toArray 160) (by simp)
      simpa [foreCells] using this
    · exact ((Below.refl _ _).alloc (Nat.le_refl _) _).alloc (by simp) _
  case round =>
    obtain ⟨a, b, p0, p1, pn, q0, q1, qn, ev, rfl, rfl, rfl, rfl, H, ha, hba, hrow, hrow0, hbel⟩ := hrel
    have c0 : wr.cell? ⟨w.heap.size + 1, 0, none⟩ = some (.int .u64 (p0 : Int)) := hrow.cell 0 _ rfl
    have c1 : wr.cell? ⟨w.heap.size + 1, 1, none⟩ = some (.int .u64 (p1 : Int)) := hrow.cell 1 _ rfl
    have c2 : wr.cell? ⟨w.heap.size + 1, 2, none⟩ = some (.int .u64 (q0 : Int)) := hrow.cell 2 _ rfl
    have c3 : wr.cell? ⟨w.heap.size + 1, 3, none⟩ = some (.int .u64 (q1 : Int)) := hrow.cell 3 _ rfl
    have c4 : wr.cell? ⟨w.heap.size + 1, 4, none⟩ = some (.bool ev) := hrow.cell 4 _ rfl
    have f0 : wr.frozen? ⟨w.heap.size + 1, 0, none⟩ = false := hrow.free 0 (by simp [foreCells])
    have f1 : wr.frozen? ⟨w.heap.size + 1, 1, none⟩ = false := hrow.free 1 (by simp [foreCells])
    have f2 : wr.frozen? ⟨w.heap.size + 1, 2, none⟩ = false := hrow.free 2 (by simp [foreCells])
    have f3 : wr.frozen? ⟨w.heap.size + 1, 3, none⟩ = false := hrow.free 3 (by simp [foreCells])
    have f4 : wr.frozen? ⟨w.heap.size + 1, 4, none⟩ = false := hrow.free 4 (by simp [foreCells])
    have z0 : wr.cell? ⟨w.heap.size, 0, none⟩ = some (.int .u64 0) := hrow0.cell 0 _ rfl
    have z1 : wr.cell? ⟨w.heap.size, 1, none⟩ = some (.int .u64 0) := hrow0.cell 1 _ rfl
    have z2 : wr.cell? ⟨w.heap.size, 2, none⟩ = some (.int .u64 0) := hrow0.cell 2 _ rfl
    have z3 : wr.cell? ⟨w.heap.size, 3, none⟩ = some (.int .u64 0) := hrow0.cell 3 _ rfl
    have z4 : wr.cell? ⟨w.heap.size, 4, none⟩ = some (.bool false) := hrow0.cell 4 _ rfl
    have y0 : wr.frozen? ⟨w.heap.size, 0, none⟩ = false := hrow0.free 0 (by simp [foreCells])
    have y1 : wr.frozen? ⟨w.heap.size, 1, none⟩ = false := hrow0.free 1 (by simp [foreCells])
    have y2 : wr.frozen? ⟨w.heap.size, 2, none⟩ = false := hrow0.free 2 (by simp [foreCells])
    have y3 : wr.frozen? ⟨w.heap.size, 3, none⟩ = false := hrow0.free 3 (by simp [foreCells])
    have y4 : wr.frozen? ⟨w.heap.size, 4, none⟩ = false := hrow0.free 4 (by simp [foreCells])
    by_cases t1 : qn ≤ b
    · obtain ⟨r1, r2, r3, r4, r5, r6, r7, r8⟩ := fore_room H.out (by omega) (by omega) (by omega)
      have hqn := H.out.hqn
      have hb0 : ¬ (b : Int) = 0 := by omega
      have t1' : decide ((b : Int) ≥ qn) = true := by simpa using t1
      by_cases t2 : q1 + qn ≤ a - b
      · have HN : Hid _ := fore_next H.out (by omega) (by omega) HA.out HB.out (by omega) (by omega) (by omega) (by omega) (by omega) (by omega)
        obtain ⟨T, hT⟩ : ∃ T, T = a / b := ⟨_, rfl⟩
        obtain ⟨m, hm⟩ : ∃ m, m = a % b := ⟨_, rfl⟩
        have E1 : (a : Int) / (b : Int) = (T : Int) := by rw [hT, Int.natCast_ediv]
        have E2 : (a : Int) % (b : Int) = (m : Int) := by rw [hm, Int.natCast_emod]
        have hmb : m < b := by rw [hm]; exact Nat.mod_lt _ (by omega)
        rw [E1] at r2 r3 r6 r7 r8
        rw [E1, E2] at HN
        have hTa : T < 18446744073709551616 := Nat.lt_of_le_of_lt (hT ▸ Nat.div_le_self a b) ha
        clear hT hm
        have s1 : (0 : Int) ≤ (T : Int) * (pn : Int) := by rw [← Int.natCast_mul]; omega
        have s2 : (0 : Int) ≤ (T : Int) * (qn : Int) := by rw [← Int.natCast_mul]; omega
        obtain ⟨X, hX⟩ : ∃ X, X = T * pn := ⟨_, rfl⟩
        obtain ⟨Y, hY⟩ : ∃ Y, Y = T * qn := ⟨_, rfl⟩
        have EX : (T : Int) * (pn : Int) = (X : Int) := by rw [hX, Int.natCast_mul]
        have EY : (T : Int) * (qn : Int) = (Y : Int) := by rw [hY, Int.natCast_mul]
        rw [EX] at r3 r7 HN
        rw [EY] at r2 r6 HN
        clear hX hY
        have t2' : (q1 : Int) + qn ≤ a - b := by omega
        go_wp2
        go_quiet (fail)
        go_wp2
        go_roundw
        case rel =>
          refine ⟨b, m, p1, pn, p1 + X, q1, qn, q1 + Y, !ev, rfl, by first | rfl | rw [E2], by simp, by simp, ?_, by omega, by omega, ?_, ?_, ?_⟩
          · have := HN.out
            unfold Hid
            simpa using this
          · exact fore_cells _ hrow
          · exact (((((hrow0.drewN _).other _ (by omega)).other _ (by omega)).other _ (by omega)).other _ (by omega)).other _ (by omega)
          · exact (((((below_drewN hbel _).setCell (by show _ ≤ w.heap.size + 1; omega) _).setCell (by show _ ≤ w.heap.size + 1; omega) _).setCell (by show _ ≤ w.heap.size + 1; omega) _).setCell (by show _ ≤ w.heap.size + 1; omega) _).setCell (by show _ ≤ w.heap.size + 1; omega) _
        case measure => simp [intOf]; omega
      · have t2' : ¬ ((q1 : Int) + qn ≤ a - b) := by omega
        go_wp2
        refine bodyPost_ret (v := .agg #[.int .u64 (p0 : Int), .int .u64 (p1 : Int), .int .u64 (q0 : Int), .int .u64 (q1 : Int), .bool ev]) (by simp [results, Tryz.results123, go_sem, *]) rfl ⟨p0, p1, q0, q1, ev, rfl, H.out.told, ?_⟩
        exact ((((hbel.setCell (by show _ ≤ w.heap.size; omega) _).setCell (by show _ ≤ w.heap.size; omega) _).setCell (by show _ ≤ w.heap.size; omega) _).setCell (by show _ ≤ w.heap.size; omega) _).setCell (by show _ ≤ w.heap.size; omega) _
    · have t1' : ¬ ((qn : Int) ≤ b) := by omega
      go_wp2
      refine bodyPost_ret (v := .agg #[.int .u64 (p0 : Int), .int .u64 (p1 : Int), .int .u64 (q0 : Int), .int .u64 (q1 : Int), .bool ev]) (by simp [results, Tryz.results123, go_sem, *]) rfl ⟨p0, p1, q0, q1, ev, rfl, H.out.told, ?_⟩
      exact ((((hbel.setCell (by show _ ≤ w.heap.size; omega) _).setCell (by show _ ≤ w.heap.size; omega) _).setCell (by show _ ≤ w.heap.size; omega) _).setCell (by show _ ≤ w.heap.size; omega) _).setCell (by show _ ≤ w.heap.size; omega) _
end Go.Proofs.YtcaihoomcdbfnaaGreat
