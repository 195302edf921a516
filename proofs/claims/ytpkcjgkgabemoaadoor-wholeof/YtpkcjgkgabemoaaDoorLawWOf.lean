/-
  WholeOf: any number of 64, and of 256 bits.
-/
import Derived.Test.YtpkcjgkgabemoaaDoorP4
import Derived.Test.YtpkcjgkgabemoaaDoorP5
import Derived.Test.YtpkcjgkgabemoaaDoorP6
import Derived.Test.YtpkcjgkgabemoaaDoorP7
namespace Go.Proofs.YtpkcjgkgabemoaaDoor
open Go.RowKit
set_option linter.unusedVariables false

namespace wof
open Go.ChangeShapes Go.WideShapes Go.ChangeAt
open lq (open_quad shut_quad bd_i64)
theorem few_hf {z : Int} {K : Nat} (h : z.natAbs < 65536 ^ K) (hK : K ≤ 1000000) : hf.nlen z.natAbs ≤ 1000000 := Nat.le_trans (hf.nlen_le h) hK
theorem keepQ {b : Nat} {v0 v1 v2 v3 : Value} {w0 w w' : World} (h : w.cell? ⟨b, 0, none⟩ = some v0 ∧ w.cell? ⟨b, 1, none⟩ = some v1 ∧ w.cell? ⟨b, 2, none⟩ = some v2 ∧ w.cell? ⟨b, 3, none⟩ = some v3 ∧ Below w0.heap.size w0 w) (hb : Below w.heap.size w w') :
    w'.cell? ⟨b, 0, none⟩ = some v0 ∧ w'.cell? ⟨b, 1, none⟩ = some v1 ∧ w'.cell? ⟨b, 2, none⟩ = some v2 ∧ w'.cell? ⟨b, 3, none⟩ = some v3 ∧ Below w0.heap.size w0 w' :=
  ⟨cell_on hb h.1, cell_on hb h.2.1, cell_on hb h.2.2.1, cell_on hb h.2.2.2.1, also h.2.2.2.2 hb⟩
set_option maxRecDepth 100000 in
set_option maxHeartbeats 1000000 in
theorem walk0 (n x : Int) (w : World) (n1 : -9223372036854775808 ≤ n) (n2 : n ≤ 9223372036854775807) (h1 : -57896044618658097711785492504343953926634992332820282019728792003956564819968 ≤ x) (h2 : x < 57896044618658097711785492504343953926634992332820282019728792003956564819968) :
    Calls Tryd.prog 6 #[.int .i64 n, .agg #[.int .u64 (lq.q.dg x 0), .int .u64 (lq.q.dg x 1), .int .u64 (lq.q.dg x 2), .int .u64 (lq.q.dg x 3)]] w fun e w' => e = .returned (.bool true) ∧ Below w.heap.size w w' := by
  have HV : Hid (n = smV n) := by unfold Hid smV smOk; rw [if_pos (by simp; omega)]
  have HK : Hid (true = smOk n) := by unfold Hid smOk; symm; simp; omega
  have FN : Hid (hf.nlen n.natAbs ≤ 1000000) := few_hf (K := 16) (by rw [show (65536 : Nat) ^ 16 = 115792089237316195423570985008687907853269984665640564039457584007913129639936 from rfl]; omega) (by decide)
  have FX : Hid (hf.nlen x.natAbs ≤ 1000000) := few_hf (K := 16) (by rw [show (65536 : Nat) ^ 16 = 115792089237316195423570985008687907853269984665640564039457584007913129639936 from rfl]; omega) (by decide)
  have F2 : Hid (n.natAbs < 4294967296 ^ 8) := by unfold Hid; rw [show (4294967296 : Nat) ^ 8 = 115792089237316195423570985008687907853269984665640564039457584007913129639936 from rfl]; omega
  have O1 : Hid (∀ w, Calls Tryd.prog 30 #[.int .i64 n] w (GotW w n)) := fun w => wOf n w n1 n2
  have O2 : Hid (∀ w, Calls Tryd.prog 31 #[.int .i64 n] w (GotR w (fun _ => True) n)) := fun w => rwLong n w n1 n2
  have O3 : Hid (∀ w, Calls Tryd.prog 32 #[.agg #[.int .u64 (lq.q.dg x 0), .int .u64 (lq.q.dg x 1), .int .u64 (lq.q.dg x 2), .int .u64 (lq.q.dg x 3)]] w (GotW w x)) := fun w => wOfQuad x h1 h2 w
  have O4 : Hid (∀ w, Calls Tryd.prog 33 #[.agg #[.int .u64 (lq.q.dg x 0), .int .u64 (lq.q.dg x 1), .int .u64 (lq.q.dg x 2), .int .u64 (lq.q.dg x 3)]] w (GotR w (fun _ => True) x)) := fun w => rwQuad x h1 h2 w
  clear n1 n2 h1 h2
  have B0 : Below w.heap.size w (w.alloc (.cells #[.int .u64 (lq.q.dg x 0), .int .u64 (lq.q.dg x 1), .int .u64 (lq.q.dg x 2), .int .u64 (lq.q.dg x 3)] 52)) := (Below.refl _ _).alloc (Nat.le_refl _) _
  have r0 := Row.new w [.int .u64 (lq.q.dg x 0), .int .u64 (lq.q.dg x 1), .int .u64 (lq.q.dg x 2), .int .u64 (lq.q.dg x 3)] 52
  go_enter Tryd.func6, Tryd.ntmps6
  go_wp2_with (go_at_call 30; fail)
  refine (O1.out _).mono ?_
  rintro e w1 ⟨m1, a1, l1, c1, rfl, z1, f1, b1⟩
  go_wp2_with (go_at_call 26; fail)
  refine (wSmall m1 a1 l1 c1 n _ (z1.wi 8 (by decide) F2.out) HV.out HK.out).mono ?_
  rintro e w2 ⟨rfl, b2⟩
  have hs1 : w.heap.size < w1.heap.size := Nat.lt_of_lt_of_le (by simp) b1.size
  have r2 := (r0.below b1 (by simp)).below b2 hs1
  have d0 := r2.cell 0 _ rfl; have d1 := r2.cell 1 _ rfl; have d2 := r2.cell 2 _ rfl; have d3 := r2.cell 3 _ rfl
  have B2 := also (also B0 b1) b2
  clear r0 r2 B0 b1 b2 hs1 z1 f1
  go_wp2
  refine wp_region_held_drew (S := (fun w' => w'.cell? ⟨w.heap.size, 0, none⟩ = some (.int .u64 (lq.q.dg x 0)) ∧ w'.cell? ⟨w.heap.size, 1, none⟩ = some (.int .u64 (lq.q.dg x 1)) ∧ w'.cell? ⟨w.heap.size, 2, none⟩ = some (.int .u64 (lq.q.dg x 2)) ∧ w'.cell? ⟨w.heap.size, 3, none⟩ = some (.int .u64 (lq.q.dg x 3)) ∧ Below w2.heap.size w2 w')) (by kernel_rfl) ?_ (fun hHeld => ?_)
  · first | exact keepQ hHeld bb | exact ⟨d0, d1, d2, d3, (Below.refl _ _).drew⟩
  refine take_yes (i := 0) (v := ?vz0) rfl (by kernel_rfl) (by kernel_rfl) (by kernel_rfl) (fun _ _ _ h => h) (by rfl) (by assumption) ?hyz0 ?restz0
  case hyz0 => (intro w hSw; (try dsimp only at hSw); first | (go_simp; done) | (go_simp; with_reducible rfl))
  simp only [Act.put, List.setIfInBounds_toArray, List.set_cons_zero, List.set_cons_succ]
  refine take_yes (i := 2) (v := ?vz2) rfl (by kernel_rfl) (by kernel_rfl) (by kernel_rfl) (fun _ _ _ h => h) (by rfl) (by assumption) ?hyz2 ?restz2
  case hyz2 => (intro w hSw; (try dsimp only at hSw); first | (go_simp; done) | (go_simp; with_reducible rfl))
  simp only [Act.put, List.setIfInBounds_toArray, List.set_cons_zero, List.set_cons_succ]
  refine take_call (i := 1) rfl (by kernel_rfl) (fun K hK => ?_)
  go_simp
  (go_at_call 30; refine (O1.out _).mono ?_; rintro e w10 ⟨n10, a10, l10, c10, rfl, h10, f10, b10⟩; have bb := b10)
  refine hK.out _ _ ?_ (fun hHeld => ?_)
  · first | exact keepQ hHeld bb | exact ⟨d0, d1, d2, d3, (Below.refl _ _).drew⟩
  clear hK K
  refine take_call (i := 3) rfl (by kernel_rfl) (fun K hK => ?_)
  go_simp
  (go_at_call 31; refine (O2.out _).mono ?_; rintro e w11 ⟨s11, d11, k11, j11, rfl, r11, g11, b11⟩; have bb := b11)
  refine hK.out _ _ ?_ (fun hHeld => ?_)
  · first | exact keepQ hHeld bb | exact ⟨d0, d1, d2, d3, (Below.refl _ _).drew⟩
  clear hK K
  refine take_call (i := 4) rfl (by kernel_rfl) (fun K hK => ?_)
  go_simp
  (go_at_call 11; refine (rwSame n10 s11 a10 d11 l10 c10 k11 j11 n _ (h10.below b11) r11 FN.out).mono ?_; rintro e w12 ⟨rfl, bb⟩)
  refine hK.out _ _ ?_ (fun hHeld => ?_)
  · first | exact keepQ hHeld bb | exact ⟨d0, d1, d2, d3, (Below.refl _ _).drew⟩
  clear hK K
  refine take_yes (i := 5) (v := ?vz5) rfl (by kernel_rfl) (by kernel_rfl) (by kernel_rfl) (fun _ _ _ h => h) (by rfl) (by assumption) ?hyz5 ?restz5
  case hyz5 => (intro w hSw; (try dsimp only at hSw); first | (go_simp; done) | (go_simp; with_reducible rfl))
  simp only [Act.put, List.setIfInBounds_toArray, List.set_cons_zero, List.set_cons_succ]
  refine take_yes (i := 6) (v := ?vz6) rfl (by kernel_rfl) (by kernel_rfl) (by kernel_rfl) (fun _ _ _ h => h) (by rfl) (by assumption) ?hyz6 ?restz6
  case hyz6 => (intro w hSw; (try dsimp only at hSw); first | (go_simp; done) | (go_simp; with_reducible rfl))
  simp only [Act.put, List.setIfInBounds_toArray, List.set_cons_zero, List.set_cons_succ]
  refine take_yes (i := 8) (v := ?vz8) rfl (by kernel_rfl) (by kernel_rfl) (by kernel_rfl) (fun _ _ _ h => h) (by rfl) (by assumption) ?hyz8 ?restz8
  case hyz8 => (intro w hSw; (try dsimp only at hSw); first | (go_simp; done) | (go_simp; with_reducible rfl))
  simp only [Act.put, List.setIfInBounds_toArray, List.set_cons_zero, List.set_cons_succ]
  refine take_call (i := 7) rfl (by kernel_rfl) (fun K hK => ?_)
  go_simp
  (go_at_call 32; refine (O3.out _).mono ?_; rintro e w20 ⟨n20, a20, l20, c20, rfl, h20, f20, b20⟩; have bb := b20)
  refine hK.out _ _ ?_ (fun hHeld => ?_)
  · first | exact keepQ hHeld bb | exact ⟨d0, d1, d2, d3, (Below.refl _ _).drew⟩
  clear hK K
  refine take_call (i := 9) rfl (by kernel_rfl) (fun K hK => ?_)
  go_simp
  (go_at_call 33; refine (O4.out _).mono ?_; rintro e w21 ⟨s21, d21, k21, j21, rfl, r21, g21, b21⟩; have bb := b21)
  refine hK.out _ _ ?_ (fun hHeld => ?_)
  · first | exact keepQ hHeld bb | exact ⟨d0, d1, d2, d3, (Below.refl _ _).drew⟩
  clear hK K
  refine take_call (i := 10) rfl (by kernel_rfl) (fun K hK => ?_)
  go_simp
  (go_at_call 11; refine (rwSame n20 s21 a20 d21 l20 c20 k21 j21 x _ (h20.below b21) r21 FX.out).mono ?_; rintro e w22 ⟨rfl, bb⟩)
  refine hK.out _ _ ?_ (fun hHeld => ?_)
  · first | exact keepQ hHeld bb | exact ⟨d0, d1, d2, d3, (Below.refl _ _).drew⟩
  clear hK K
  refine take_yes (i := 11) (v := ?vz11) rfl (by kernel_rfl) (by kernel_rfl) (by kernel_rfl) (fun _ _ _ h => h) (by rfl) (by assumption) ?hyz11 ?restz11
  case hyz11 => (intro w hSw; (try dsimp only at hSw); first | (go_simp; done) | (go_simp; with_reducible rfl))
  simp only [Act.put, List.setIfInBounds_toArray, List.set_cons_zero, List.set_cons_succ]
  refine take_yes (i := 12) (v := ?vz12) rfl (by kernel_rfl) (by kernel_rfl) (by kernel_rfl) (fun _ _ _ h => h) (by rfl) (by assumption) ?hyz12 ?restz12
  case hyz12 => (intro w hSw; (try dsimp only at hSw); first | (go_simp; done) | (go_simp; with_reducible rfl))
  simp only [Act.put, List.setIfInBounds_toArray, List.set_cons_zero, List.set_cons_succ]
  refine take_yes (i := 13) (v := ?vz13) rfl (by kernel_rfl) (by kernel_rfl) (by kernel_rfl) (fun _ _ _ h => h) (by rfl) (by assumption) ?hyz13 ?restz13
  case hyz13 => (intro w hSw; (try dsimp only at hSw); first | (go_simp; done) | (go_simp; with_reducible rfl))
  simp only [Act.put, List.setIfInBounds_toArray, List.set_cons_zero, List.set_cons_succ]
  refine take_yes (i := 14) (v := ?vz14) rfl (by kernel_rfl) (by kernel_rfl) (by kernel_rfl) (fun _ _ _ h => h) (by rfl) (by assumption) ?hyz14 ?restz14
  case hyz14 => (intro w hSw; (try dsimp only at hSw); first | (go_simp; done) | (go_simp; with_reducible rfl))
  simp only [Act.put, List.setIfInBounds_toArray, List.set_cons_zero, List.set_cons_succ]
  refine take_yes (i := 15) (v := ?vz15) rfl (by kernel_rfl) (by kernel_rfl) (by kernel_rfl) (fun _ _ _ h => h) (by rfl) (by assumption) ?hyz15 ?restz15
  case hyz15 => (intro w hSw; (try dsimp only at hSw); first | (go_simp; done) | (go_simp; with_reducible rfl))
  simp only [Act.put, List.setIfInBounds_toArray, List.set_cons_zero, List.set_cons_succ]
  refine take_yes (i := 16) (v := ?vz16) rfl (by kernel_rfl) (by kernel_rfl) (by kernel_rfl) (fun _ _ _ h => h) (by rfl) (by assumption) ?hyz16 ?restz16
  case hyz16 => (intro w hSw; (try dsimp only at hSw); first | (go_simp; done) | (go_simp; with_reducible rfl))
  simp only [Act.put, List.setIfInBounds_toArray, List.set_cons_zero, List.set_cons_succ]
  refine take_yes (i := 17) (v := ?vz17) rfl (by kernel_rfl) (by kernel_rfl) (by kernel_rfl) (fun _ _ _ h => h) (by rfl) (by assumption) ?hyz17 ?restz17
  case hyz17 => (intro w hSw; (try dsimp only at hSw); first | (go_simp; done) | (go_simp; with_reducible rfl))
  simp only [Act.put, List.setIfInBounds_toArray, List.set_cons_zero, List.set_cons_succ]
  refine take_yes (i := 18) (v := ?vz18) rfl (by kernel_rfl) (by kernel_rfl) (by kernel_rfl) (fun _ _ _ h => h) (by rfl) (by assumption) ?hyz18 ?restz18
  case hyz18 => (intro w hSw; (try dsimp only at hSw); first | (go_simp; done) | (go_simp; with_reducible rfl))
  simp only [Act.put, List.setIfInBounds_toArray, List.set_cons_zero, List.set_cons_succ]
  refine take_yes (i := 19) (v := ?vz19) rfl (by kernel_rfl) (by kernel_rfl) (by kernel_rfl) (fun _ _ _ h => h) (by rfl) (by assumption) ?hyz19 ?restz19
  case hyz19 => (intro w hSw; (try dsimp only at hSw); first | (go_simp; done) | (go_simp; with_reducible rfl))
  simp only [Act.put, List.setIfInBounds_toArray, List.set_cons_zero, List.set_cons_succ]
  refine take_yes (i := 20) (v := ?vz20) rfl (by kernel_rfl) (by kernel_rfl) (by kernel_rfl) (fun _ _ _ h => h) (by rfl) (by assumption) ?hyz20 ?restz20
  case hyz20 => (intro w hSw; (try dsimp only at hSw); first | (go_simp; done) | (go_simp; with_reducible rfl))
  simp only [Act.put, List.setIfInBounds_toArray, List.set_cons_zero, List.set_cons_succ]
  refine take_call (i := 21) rfl (by kernel_rfl) (fun K hK => ?_)
  go_simp
  (go_at_call 21; refine (lives4_any _).mono ?_; rintro e w30 ⟨rfl, bb⟩)
  refine hK.out _ _ ?_ (fun hHeld => ?_)
  · first | exact keepQ hHeld bb | exact ⟨d0, d1, d2, d3, (Below.refl _ _).drew⟩
  clear hK K
  refine take_yes (i := 22) (v := ?vz22) rfl (by kernel_rfl) (by kernel_rfl) (by kernel_rfl) (fun _ _ _ h => h) (by rfl) (by assumption) ?hyz22 ?restz22
  case hyz22 => (intro w hSw; (try dsimp only at hSw); first | (go_simp; done) | (go_simp; with_reducible rfl))
  simp only [Act.put, List.setIfInBounds_toArray, List.set_cons_zero, List.set_cons_succ]
  refine take_yes (i := 23) (v := ?vz23) rfl (by kernel_rfl) (by kernel_rfl) (by kernel_rfl) (fun _ _ _ h => h) (by rfl) (by assumption) ?hyz23 ?restz23
  case hyz23 => (intro w hSw; (try dsimp only at hSw); first | (go_simp; done) | (go_simp; with_reducible rfl))
  simp only [Act.put, List.setIfInBounds_toArray, List.set_cons_zero, List.set_cons_succ]
  refine wpAnyH_done (by kernel_rfl) ?_ _
  go_wp2
  go_ret
  exact ⟨rfl, also B2 hHeld.2.2.2.2⟩
theorem walk (n a b c d : Int) (w : World) (n1 : -9223372036854775808 ≤ n) (n2 : n ≤ 9223372036854775807) (wa : (Lit.int .u64 a).wf = true) (wb : (Lit.int .u64 b).wf = true) (wc : (Lit.int .u64 c).wf = true) (wd : (Lit.int .u64 d).wf = true) :
    Calls Tryd.prog 6 #[.int .i64 n, .agg #[.int .u64 a, .int .u64 b, .int .u64 c, .int .u64 d]] w fun e w' => e = .returned (.bool true) ∧ Below w.heap.size w w' := by
  obtain ⟨e0, e1, e2, e3, h1, h2⟩ := lq.quad_mk wa wb wc wd
  have h := walk0 n (lq.qn a b c d) w n1 n2 h1 h2
  rwa [e0, e1, e2, e3] at h
theorem own : ownKnob Tryd.prog.godebug = none := by kernel_rfl
set_option maxRecDepth 100000 in
theorem lifted (os : Os) (started : os.Started) (H : Type) (enc : TypeId × Value → H) :
    ReturnsInHanded {} Tryd.checked os 6 .any (fun w args => (Rows.wholeOfSpec.pre enc Tryd.prog Tryd.f6 [] false w args ∧ laidMetH Tryd.prog Rows.wholeOfRow.laid w) ∧ sizedMet enc Tryd.prog Tryd.f6 (OpenSpec.ofChange Rows.wholeOfSpec) false w args)
      (Rows.wholeOfSpec.post enc Tryd.prog Tryd.f6 false true false false) := by
  refine returnsInHanded_of_change_and (C := Tryd.checked) (X := fun w _ => laidMetH Tryd.prog Rows.wholeOfRow.laid w) (fun _ _ _ hh h => h.of_heap hh) own started (by kernel_rfl) Tryd.func6
    (ChangeSpec.witness_shaped (enc := enc) (C := Tryd.checked) (os := os) (X := fun w _ => laidMetH Tryd.prog Rows.wholeOfRow.laid w) false (World.laidAll Tryd.prog os Rows.wholeOfRow.laid) #[.int .i64 0, .agg #[.int .u64 0, .int .u64 0, .int .u64 0, .int .u64 0]] 8 (World.laidAll_os _ _ _)
      (World.shaped_of_ZipB (by kernel_rfl) (by kernel_rfl)) (by kernel_rfl) (by kernel_rfl) (by kernel_rfl)
      (by rw [MakeChecks.laidMetH_plain _ _ _ (by kernel_rfl)]; exact laidMet_laidAll _ (by kernel_rfl) (by kernel_rfl))) ?_
  intro W base args ds gs before hval0 hW _ _ hL _
  have hval : ∀ (j : Nat) t v, Tryd.f6.params[j]? = some t → args[j]? = some v → Value.okWide Tryd.prog W .any base t v := hval0
  have hW' := hW
  obtain ⟨p, q, hA0, hV, rfl, hfz, hnd⟩ := hW
  have hA : DataW.TrodAll enc Tryd.prog W 0 (fun _ => true) true Tryd.f6.params.toList args.toList ds p := hA0
  rw [Tryd.params6] at hA hval
  obtain ⟨v0, vs0, d0, ds0, p0, q0, hargs, rfl, rfl, h0, r0⟩ := trodAll_cons hA
  obtain ⟨v1, vs1, d1, ds1, p1, q1, rfl, rfl, rfl, h1, r1⟩ := trodAll_cons r0
  obtain ⟨rfl, rfl, rfl⟩ := trodAll_nil r1
  obtain rfl : args = #[v0, v1] := by cases args; simp_all
  obtain ⟨rfl, rfl⟩ := trodVars_none hV
  have hlt : ∀ x ∈ p0 ++ p1, x.block < W.heap.size := fun x hx => by simpa using hW'.lt x (by simpa using hx)
  obtain ⟨a0, rfl, rfl, rfl, w0⟩ := open_int Tryd.underlying2 (hval 0 2 v0 rfl rfl) h0
  obtain ⟨a1, b1, c1, e1, rfl, rfl, rfl, wa1, wb1, wc1, we1⟩ := open_quad (hval 1 52 v1 rfl rfl) h1
  clear hA0 hval0
  refine (walk a0 a1 b1 c1 e1 W (bd_i64 w0).1 (bd_i64 w0).2 wa1 wb1 wc1 we1).mono fun e W' ⟨he, bel⟩ => ?_
  subst he
  exact ⟨_, rfl, _, _, _, [], _, [], hW', trodAll_mk1 (shut_bool Tryd.underlying4 _), (trodAll_cons_mk (shut_int Tryd.underlying2 w0) (trodAll_cons_mk (shut_quad wa1 wb1 wc1 we1) trodAll_mk0)), rfl, bel.frame _, fun h => by cases h⟩

theorem said : Rows.WholeOfSaid :=
  OpenClaim.holds_of_wide 6 Tryd.f6 rfl rfl rfl rfl rfl rfl rfl ⟨rfl, rfl, rfl, rfl, rfl⟩ rfl rfl rfl rfl rfl (by kernel_rfl) Tryd.func6 (by kernel_rfl)
    (of_decide_eq_true (by kernel_rfl)) (by unfold Func.isWrapper; first | (rw [if_pos (by decide +kernel)]; kernel_rfl) | (rw [if_neg (by decide +kernel)]; exact ⟨rfl, rfl⟩))
    (fun os started H enc _ => lifted os started H enc)
/-- The program's own looks are off, and no parameter wants a stand-in: what the card asks. -/
theorem plain (f : FuncId) (fn : Func) (hf : Tryd.pinned.checked.prog.funcNamed "zellige/zelligelaw04.WholeOf" = some f) (hfn : Tryd.pinned.checked.prog.funcs[f]? = some fn) :
    false = Tryd.pinned.checked.prog.looks [] ∧ ∀ (j : Nat) t, fn.params[j]? = some t → Tryd.pinned.checked.prog.wantsStandIn t = false := by
  obtain rfl : f = 6 := Option.some.inj ((show Tryd.prog.funcNamed "zellige/zelligelaw04.WholeOf" = some 6 by kernel_rfl).symm.trans hf) |>.symm
  obtain rfl : fn = Tryd.f6 := (Option.some.inj (Tryd.func6.symm.trans hfn)).symm
  refine ⟨by kernel_rfl, fun j t ht => ?_⟩
  rw [Tryd.params6] at ht
  have hm : t ∈ [2, 52] := by simpa using Array.mem_of_getElem? ht
  have hall : ([2, 52].all fun u => !Tryd.prog.wantsStandIn u) = true := by kernel_rfl
  exact (show Tryd.prog.wantsStandIn t = false by simpa using List.all_eq_true.1 hall t hm)
/-- The statement: the card. -/
theorem proved : Rows.WholeOfCardSaid :=
  Claim7.holds_tied_plain_at .later [] _ _ _ _ said (fun _ h => by cases h) (by kernel_rfl) (fun _ h => by cases h) wholeOf_row_tie rfl ⟨rfl, rfl⟩ (by kernel_rfl) rfl plain (by kernel_rfl)
#print axioms proved
end wof
end Go.Proofs.YtpkcjgkgabemoaaDoor
