/-
  Joined texts, part 14:
  What package circum's Small answers.
-/
import Derived.Test.YtcaihoomcdbfnaaGreatP13
namespace Go.Proofs.YtcaihoomcdbfnaaGreat
open Go.RowKit
set_option linter.unusedVariables false

theorem cmp_neg (a b : Int) : decide (lq.cmpI a b < 0) = decide (a < b) := by
  unfold lq.cmpI
  split
  · rename_i h; simp [h]
  · split
    · simp; omega
    · simp; omega
def SpSa (gh gl jh jl m0 m1 m2 m3 : Int) : Nat → Value → (World → Prop) → (Nat → Prop) → Prop
  | 0 => ValIs (.agg #[.int .i64 gh, .int .u64 gl])
  | 1 => ValIs (.agg #[.int .i64 jh, .int .u64 jl])
  | 2 => ValIs (.agg #[.int .u64 m0, .int .u64 m1, .int .u64 m2, .int .u64 m3])
  | _ => ValIs undef
theorem SpSa_good (gh gl jh jl m0 m1 m2 m3 : Int) : GoodSp (SpSa gh gl jh jl m0 m1 m2 m3) := fun j x R A h => match j with
  | 0 => valIs_good h
  | 1 => valIs_good h
  | 2 => valIs_good h
  | k + 3 => valIs_good h
def SpSaZ : Nat → List Value
  | 0 => [.int .u64 0, .int .u64 0, .int .u64 0, .int .u64 0]
  | _ => []
theorem fuel_SpSa_b0 {bD eD : Nat → Bool} {f : Nat} (hf : f = 1 + (nb (bD 0) + nb (bD 1) + nb (bD 2) + nb (eD 0))) (h : bD 0 = false) : f - 1 = 1 + (nb (upd bD 0 true 0) + nb (upd bD 0 true 1) + nb (upd bD 0 true 2) + nb (eD 0)) := by
  have h1 : nb (bD 0) = 1 := by rw [h]; rfl
  have h2 : nb (upd bD 0 true 0) = 0 := rfl
  have q1 : nb (upd bD 0 true 1) = nb (bD 1) := rfl
  have q2 : nb (upd bD 0 true 2) = nb (bD 2) := rfl
  omega
theorem fuel_SpSa_b1 {bD eD : Nat → Bool} {f : Nat} (hf : f = 1 + (nb (bD 0) + nb (bD 1) + nb (bD 2) + nb (eD 0))) (h : bD 1 = false) : f - 1 = 1 + (nb (upd bD 1 true 0) + nb (upd bD 1 true 1) + nb (upd bD 1 true 2) + nb (eD 0)) := by
  have h1 : nb (bD 1) = 1 := by rw [h]; rfl
  have h2 : nb (upd bD 1 true 1) = 0 := rfl
  have q0 : nb (upd bD 1 true 0) = nb (bD 0) := rfl
  have q2 : nb (upd bD 1 true 2) = nb (bD 2) := rfl
  omega
theorem fuel_SpSa_b2 {bD eD : Nat → Bool} {f : Nat} (hf : f = 1 + (nb (bD 0) + nb (bD 1) + nb (bD 2) + nb (eD 0))) (h : bD 2 = false) : f - 1 = 1 + (nb (upd bD 2 true 0) + nb (upd bD 2 true 1) + nb (upd bD 2 true 2) + nb (eD 0)) := by
  have h1 : nb (bD 2) = 1 := by rw [h]; rfl
  have h2 : nb (upd bD 2 true 2) = 0 := rfl
  have q0 : nb (upd bD 2 true 0) = nb (bD 0) := rfl
  have q1 : nb (upd bD 2 true 1) = nb (bD 1) := rfl
  omega
theorem fuel_SpSa_e0 {bD eD : Nat → Bool} {f : Nat} (hf : f = 1 + (nb (bD 0) + nb (bD 1) + nb (bD 2) + nb (eD 0))) (h : eD 0 = false) : f - 1 = 1 + (nb (bD 0) + nb (bD 1) + nb (bD 2) + nb (upd eD 0 true 0)) := by
  have h1 : nb (eD 0) = 1 := by rw [h]; rfl
  have h2 : nb (upd eD 0 true 0) = 0 := rfl
  omega
def SpSb (kh kl nh nl y0 y1 y2 y3 : Int) : Nat → Value → (World → Prop) → (Nat → Prop) → Prop
  | 0 => ValIs (.agg #[.int .i64 nh, .int .u64 nl])
  | 1 => ValIs (.agg #[.int .u64 y0, .int .u64 y1, .int .u64 y2, .int .u64 y3])
  | 2 => ValIs (.agg #[.int .i64 kh, .int .u64 kl])
  | _ => ValIs undef
theorem SpSb_good (kh kl nh nl y0 y1 y2 y3 : Int) : GoodSp (SpSb kh kl nh nl y0 y1 y2 y3) := fun j x R A h => match j with
  | 0 => valIs_good h
  | 1 => valIs_good h
  | 2 => valIs_good h
  | k + 3 => valIs_good h
def SpSbZ : Nat → List Value
  | 0 => [.int .i64 0, .int .u64 0]
  | _ => []
theorem fuel_SpSb_b0 {bD eD : Nat → Bool} {f : Nat} (hf : f = 1 + (nb (bD 0) + nb (bD 1) + nb (bD 2) + nb (eD 0))) (h : bD 0 = false) : f - 1 = 1 + (nb (upd bD 0 true 0) + nb (upd bD 0 true 1) + nb (upd bD 0 true 2) + nb (eD 0)) := by
  have h1 : nb (bD 0) = 1 := by rw [h]; rfl
  have h2 : nb (upd bD 0 true 0) = 0 := rfl
  have q1 : nb (upd bD 0 true 1) = nb (bD 1) := rfl
  have q2 : nb (upd bD 0 true 2) = nb (bD 2) := rfl
  omega
theorem fuel_SpSb_b1 {bD eD : Nat → Bool} {f : Nat} (hf : f = 1 + (nb (bD 0) + nb (bD 1) + nb (bD 2) + nb (eD 0))) (h : bD 1 = false) : f - 1 = 1 + (nb (upd bD 1 true 0) + nb (upd bD 1 true 1) + nb (upd bD 1 true 2) + nb (eD 0)) := by
  have h1 : nb (bD 1) = 1 := by rw [h]; rfl
  have h2 : nb (upd bD 1 true 1) = 0 := rfl
  have q0 : nb (upd bD 1 true 0) = nb (bD 0) := rfl
  have q2 : nb (upd bD 1 true 2) = nb (bD 2) := rfl
  omega
theorem fuel_SpSb_b2 {bD eD : Nat → Bool} {f : Nat} (hf : f = 1 + (nb (bD 0) + nb (bD 1) + nb (bD 2) + nb (eD 0))) (h : bD 2 = false) : f - 1 = 1 + (nb (upd bD 2 true 0) + nb (upd bD 2 true 1) + nb (upd bD 2 true 2) + nb (eD 0)) := by
  have h1 : nb (bD 2) = 1 := by rw [h]; rfl
  have h2 : nb (upd bD 2 true 2) = 0 := rfl
  have q0 : nb (upd bD 2 true 0) = nb (bD 0) := rfl
  have q1 : nb (upd bD 2 true 1) = nb (bD 1) := rfl
  omega
theorem fuel_SpSb_e0 {bD eD : Nat → Bool} {f : Nat} (hf : f = 1 + (nb (bD 0) + nb (bD 1) + nb (bD 2) + nb (eD 0))) (h : eD 0 = false) : f - 1 = 1 + (nb (bD 0) + nb (bD 1) + nb (bD 2) + nb (upd eD 0 true 0)) := by
  have h1 : nb (eD 0) = 1 := by rw [h]; rfl
  have h2 : nb (upd eD 0 true 0) = 0 := rfl
  omega
set_option maxRecDepth 100000 in
set_option maxHeartbeats 8000000 in
theorem cSmall (a1 a2 b1 b2 c1 c2 sd : Int) (w : World) (Ra : Hid (R2 (a1, a2))) (Rb : Hid (R2 (b1, b2))) (Rc : Hid (R2 (c1, c2))) (Rs : Hid (R64 sd)) {r : Bool} (hr : r = smP a1 a2 b1 b2 c1 c2 sd) :
    Calls Tryz.prog 18 #[.agg #[.int .i64 a1, .int .i64 a2], .agg #[.int .i64 b1, .int .i64 b2], .agg #[.int .i64 c1, .int .i64 c2], .int .i64 sd] w fun e w' => e = .returned (.bool r) ∧ Below w.heap.size w w' := by
  by_cases q1 : sd < 1
  · skip
    obtain rfl : r = false := by rw [hr]; unfold smP; rw [decide_eq_false (show ¬(1 ≤ sd ∧ sd ≤ 17179869184) by omega)]; simp
    clear hr
    obtain ⟨W, hW, bW, x_a, x_b, x_c, sW⟩ := bs_222 w (.int .i64 a1) (.int .i64 a2) (.int .i64 b1) (.int .i64 b2) (.int .i64 c1) (.int .i64 c2) 23 23 23
    have zbW := bW.size
    have BB := bW
    go_enter Tryz.func18, Tryz.ntmps18
    go_wp2
    rw [← hW]
    clear hW
    go_ret
    exact ⟨rfl, BB⟩
  · by_cases q2 : 17179869184 < sd
    · skip
      obtain rfl : r = false := by rw [hr]; unfold smP; rw [decide_eq_false (show ¬(1 ≤ sd ∧ sd ≤ 17179869184) by omega)]; simp
      clear hr
      obtain ⟨W, hW, bW, x_a, x_b, x_c, sW⟩ := bs_222 w (.int .i64 a1) (.int .i64 a2) (.int .i64 b1) (.int .i64 b2) (.int .i64 c1) (.int .i64 c2) 23 23 23
      have zbW := bW.size
      have BB := bW
      go_enter Tryz.func18, Tryz.ntmps18
      go_wp2
      rw [← hW]
      clear hW
      go_ret
      exact ⟨rfl, BB⟩
    · cases hh : hasP a1 a2 b1 b2 c1 c2
      · skip
        obtain rfl : r = false := by rw [hr]; unfold smP; rw [hh]; rfl
        clear hr
        obtain ⟨W, hW, bW, x_a, x_b, x_c, sW⟩ := bs_222 w (.int .i64 a1) (.int .i64 a2) (.int .i64 b1) (.int .i64 b2) (.int .i64 c1) (.int .i64 c2) 23 23 23
        have zbW := bW.size
        have BB := bW
        go_enter Tryz.func18, Tryz.ntmps18
        go_wp2_with (go_at_call 22; fail)
        rw [← hW]
        clear hW
        refine (cAbout0 a1 a2 b1 b2 c1 c2 hh W).mono ?_
        rintro e w1 ⟨rfl, bw1⟩
        have zbw1 := bw1.size
        replace BB := also BB bw1
        replace x_a := x_a.on bw1
        replace x_b := x_b.on bw1
        replace x_c := x_c.on bw1
        obtain ⟨V, hV, bV, x_s, sV⟩ := bs_6 w1 (.int .i64 0) (.int .u64 0) (.int .i64 0) (.int .u64 0) (.int .i64 0) (.int .u64 0) 63
        have zbV := bV.size
        replace BB := also BB bV
        replace x_a := x_a.on bV
        replace x_b := x_b.on bV
        replace x_c := x_c.on bV
        go_wp2
        rw [← hV]
        clear hV
        go_ret
        exact ⟨rfl, BB⟩
      · skip
        obtain ⟨ha, hb, hc, h0⟩ := has_yes.1 hh
        have ko := off_small ha hb hc
        have ks := off_sum a1 a2 b1 b2 c1 c2
        have kr := rad_small ha hb hc
        have kw := area_wide ha hb hc
        obtain ⟨X, hX⟩ : ∃ z, z = offX (b1 - a1) (b2 - a2) (c1 - a1) (c2 - a2) := ⟨_, rfl⟩
        obtain ⟨Y, hY⟩ : ∃ z, z = offY (b1 - a1) (b2 - a2) (c1 - a1) (c2 - a2) := ⟨_, rfl⟩
        obtain ⟨G, hG⟩ : ∃ z, z = areaP a1 a2 b1 b2 c1 c2 := ⟨_, rfl⟩
        rw [← hX, ← hY] at ko ks
        rw [← hG] at h0 kw
        obtain ⟨rh, erh⟩ : ∃ z, z = lw.hi X := ⟨_, rfl⟩
        obtain ⟨rl, erl⟩ : ∃ z, z = lw.lo X := ⟨_, rfl⟩
        have Jrh : Hid (rh = lw.hi (offX (b1 - a1) (b2 - a2) (c1 - a1) (c2 - a2))) := by unfold Hid; rw [← hX]; exact erh
        have Hrh : Hid _ := erh
        clear erh
        have Jrl : Hid (rl = lw.lo (offX (b1 - a1) (b2 - a2) (c1 - a1) (c2 - a2))) := by unfold Hid; rw [← hX]; exact erl
        have Hrl : Hid _ := erl
        clear erl
        obtain ⟨sh, esh⟩ : ∃ z, z = lw.hi Y := ⟨_, rfl⟩
        obtain ⟨sl, esl⟩ : ∃ z, z = lw.lo Y := ⟨_, rfl⟩
        have Jsh : Hid (sh = lw.hi (offY (b1 - a1) (b2 - a2) (c1 - a1) (c2 - a2))) := by unfold Hid; rw [← hY]; exact esh
        have Hsh : Hid _ := esh
        clear esh
        have Jsl : Hid (sl = lw.lo (offY (b1 - a1) (b2 - a2) (c1 - a1) (c2 - a2))) := by unfold Hid; rw [← hY]; exact esl
        have Hsl : Hid _ := esl
        clear esl
        obtain ⟨ph, eph⟩ : ∃ z, z = lw.hi G := ⟨_, rfl⟩
        obtain ⟨pl, epl⟩ : ∃ z, z = lw.lo G := ⟨_, rfl⟩
        have Jph : Hid (ph = lw.hi (areaP a1 a2 b1 b2 c1 c2)) := by unfold Hid; rw [← hG]; exact eph
        have Hph : Hid _ := eph
        clear eph
        have Jpl : Hid (pl = lw.lo (areaP a1 a2 b1 b2 c1 c2)) := by unfold Hid; rw [← hG]; exact epl
        have Hpl : Hid _ := epl
        clear epl
        have RX : Hid (W128 X) := w128_abs (by omega)
        have RY : Hid (W128 Y) := w128_abs (by omega)
        have RG : Hid (W128 G) := ⟨by omega, by omega⟩
        have RXX : Hid (W128 (X + X)) := w128_abs (by omega)
        have RYY : Hid (W128 (Y + Y)) := w128_abs (by omega)
        obtain ⟨gh, hgh⟩ : ∃ z, z = lw.hi (X + X) := ⟨_, rfl⟩
        obtain ⟨gl, hgl⟩ : ∃ z, z = lw.lo (X + X) := ⟨_, rfl⟩
        have Hgh : Hid _ := hgh
        have Hgl : Hid _ := hgl
        clear hgh hgl
        obtain ⟨jh, hjh⟩ : ∃ z, z = lw.hi (Y + Y) := ⟨_, rfl⟩
        obtain ⟨jl, hjl⟩ : ∃ z, z = lw.lo (Y + Y) := ⟨_, rfl⟩
        have Hjh : Hid _ := hjh
        have Hjl : Hid _ := hjl
        clear hjh hjl
        obtain ⟨nh, hnh⟩ : ∃ z, z = lw.hi (sd) := ⟨_, rfl⟩
        obtain ⟨nl, hnl⟩ : ∃ z, z = lw.lo (sd) := ⟨_, rfl⟩
        have Hnh : Hid _ := hnh
        have Hnl : Hid _ := hnl
        clear hnh hnl
        have RN' : Hid (W128 sd) := w128_64 Rs
        have kg : (G * sd).natAbs ≤ 400000000000000000000000000000000000 := by
          have k1 : G.natAbs ≤ 10000000000000000000000000 := by omega
          have k2 : sd.natAbs ≤ 17179869184 := by omega
          have := prod_abs k1 k2
          omega
        have RGS : Hid (W128 (G * sd)) := w128_abs (by omega)
        have ed : (X + X) * (X + X) + (Y + Y) * (Y + Y) = 4 * rad2 a1 a2 b1 b2 c1 c2 := by rw [← ks]; grind
        have RD : Hid (W256 ((X + X) * (X + X) + (Y + Y) * (Y + Y))) := by unfold Hid; rw [ed]; exact ⟨by omega, by omega⟩
        have RE : Hid (W256 (G * sd * (G * sd))) := by
          have := prod_abs kg kg
          exact ⟨by omega, by omega⟩
        obtain ⟨g, hg⟩ : ∃ g, g = lq.cmpI ((X + X) * (X + X) + (Y + Y) * (Y + Y)) (G * sd * (G * sd)) := ⟨_, rfl⟩
        have HZ : Hid (r = decide (g < 0)) := by
          unfold Hid
          rw [hg, cmp_neg, hr, ed]
          unfold smP
          rw [hh, decide_eq_true (show 1 ≤ sd ∧ sd ≤ 17179869184 by omega), ← hG, show sd * sd * (G * G) = G * sd * (G * sd) by grind]
          rfl
        obtain ⟨kh, hkh⟩ : ∃ z, z = lw.hi (G * sd) := ⟨_, rfl⟩
        obtain ⟨kl, hkl⟩ : ∃ z, z = lw.lo (G * sd) := ⟨_, rfl⟩
        have Hkh : Hid _ := hkh
        have Hkl : Hid _ := hkl
        clear hkh hkl
        obtain ⟨m0, m1, m2, m3, hm⟩ : ∃ q0 q1 q2 q3, lq.Wd ((X + X) * (X + X) + (Y + Y) * (Y + Y)) q0 q1 q2 q3 := ⟨_, _, _, _, lq.wd_self _⟩
        have Hm : Hid _ := hm
        clear hm
        obtain ⟨y0, y1, y2, y3, hy⟩ : ∃ q0 q1 q2 q3, lq.Wd (G * sd) q0 q1 q2 q3 := ⟨_, _, _, _, lq.wd_self _⟩
        have Hy : Hid _ := hy
        clear hy
        obtain ⟨z0, z1, z2, z3, hz⟩ : ∃ q0 q1 q2 q3, lq.Wd (G * sd * (G * sd)) q0 q1 q2 q3 := ⟨_, _, _, _, lq.wd_self _⟩
        have Hz : Hid _ := hz
        clear hz
        have Hg : Hid _ := hg
        clear hr hg ed kg ko ks kr kw h0 hX hY hG ha hb hc
        obtain ⟨W, hW, bW, x_a, x_b, x_c, sW⟩ := bs_222 w (.int .i64 a1) (.int .i64 a2) (.int .i64 b1) (.int .i64 b2) (.int .i64 c1) (.int .i64 c2) 23 23 23
        have zbW := bW.size
        have BB := bW
        go_enter Tryz.func18, Tryz.ntmps18
        go_wp2_with (go_at_call 22; fail)
        rw [← hW]
        clear hW
        refine (cAbout a1 a2 b1 b2 c1 c2 hh Jrh.out Jrl.out Jsh.out Jsl.out Jph.out Jpl.out W).mono ?_
        rintro e w1 ⟨rfl, bw1⟩
        have zbw1 := bw1.size
        replace BB := also BB bw1
        replace x_a := x_a.on bw1
        replace x_b := x_b.on bw1
        replace x_c := x_c.on bw1
        obtain ⟨V, hV, bV, x_s, sV⟩ := bs_6 w1 (.int .i64 rh) (.int .u64 rl) (.int .i64 sh) (.int .u64 sl) (.int .i64 ph) (.int .u64 pl) 63
        have zbV := bV.size
        replace BB := also BB bV
        replace x_a := x_a.on bV
        replace x_b := x_b.on bV
        replace x_c := x_c.on bV
        go_wp2
        rw [← hV]
        clear hV
        obtain ⟨QQ, hQQ⟩ : ∃ QQ : Exit → Act → World → Prop, QQ = fun e act wr => e = .normal ∧ ∃ (pma0 : Nat) , act = ⟨#[.agg #[.int .i64 a1, .int .i64 a2], .agg #[.int .i64 b1, .int .i64 b2], .agg #[.int .i64 c1, .int .i64 c2], .int .i64 sd, .pointer (some ⟨w.heap.size, 0, none⟩), .pointer (some ⟨w.heap.size + 1, 0, none⟩), .pointer (some ⟨w.heap.size + 1 + 1, 0, none⟩), undef, .bool false, .pointer (some ⟨w1.heap.size, 0, none⟩), .bool true, .pointer (some ⟨pma0, 0, none⟩), undef, .int .i64 sd, .bool false, .bool false, .int .i64 sd, .bool false, .bool false, .tuple #[.agg #[.int .i64 rh, .int .u64 rl, .int .i64 sh, .int .u64 sl, .int .i64 ph, .int .u64 pl], .bool true], .agg #[.int .i64 a1, .int .i64 a2], .agg #[.int .i64 b1, .int .i64 b2], .agg #[.int .i64 c1, .int .i64 c2], .tuple #[.agg #[.int .i64 rh, .int .u64 rl, .int .i64 sh, .int .u64 sl, .int .i64 ph, .int .u64 pl], .bool true], .agg #[.int .i64 rh, .int .u64 rl, .int .i64 sh, .int .u64 sl, .int .i64 ph, .int .u64 pl], .bool true, .bool true, .bool false, .pointer (some ⟨w1.heap.size, 0, none⟩), .agg #[.int .i64 rh, .int .u64 rl], .pointer (some ⟨w1.heap.size, 0, none⟩), .agg #[.int .i64 rh, .int .u64 rl], .agg #[.int .i64 gh, .int .u64 gl], .pointer (some ⟨w1.heap.size, 2, none⟩), .agg #[.int .i64 sh, .int .u64 sl], .pointer (some ⟨w1.heap.size, 2, none⟩), .agg #[.int .i64 sh, .int .u64 sl], .agg #[.int .i64 jh, .int .u64 jl], .agg #[.int .u64 m0, .int .u64 m1, .int .u64 m2, .int .u64 m3], undef, undef, undef, undef, undef, undef, undef, undef, undef, undef, undef, undef], []⟩ ∧ Bx wr (w.heap.size) (.int .i64 a1) (.int .i64 a2) ∧ Bx wr (w.heap.size + 1) (.int .i64 b1) (.int .i64 b2) ∧ Bx wr (w.heap.size + 1 + 1) (.int .i64 c1) (.int .i64 c2) ∧ B6 wr (w1.heap.size) (.int .i64 rh) (.int .u64 rl) (.int .i64 sh) (.int .u64 sl) (.int .i64 ph) (.int .u64 pl) ∧ B4 wr pma0 (.int .u64 m0) (.int .u64 m1) (.int .u64 m2) (.int .u64 m3) ∧ Below w.heap.size w wr ∧ V.heap.size ≤ wr.heap.size ∧ (V.heap.size ≤ pma0 ∧ pma0 < wr.heap.size) := ⟨_, rfl⟩
        have HQQ : Hid _ := hQQ
        clear hQQ
        refine wp_mono (Q := QQ) ?_ ?_
        · refine wp_region_held_drew (S := (fun w' => w'.cell? ⟨w1.heap.size, 0, none⟩ = some (.int .i64 rh) ∧ w'.cell? ⟨w1.heap.size, 1, none⟩ = some (.int .u64 rl) ∧ w'.cell? ⟨w1.heap.size, 2, none⟩ = some (.int .i64 sh) ∧ w'.cell? ⟨w1.heap.size, 3, none⟩ = some (.int .u64 sl) ∧ w'.cell? ⟨w1.heap.size, 4, none⟩ = some (.int .i64 ph) ∧ w'.cell? ⟨w1.heap.size, 5, none⟩ = some (.int .u64 pl) ∧ Below w.heap.size w w')) (by kernel_rfl) ?_ (fun hHeld => ?_)
          · exact ⟨x_s.c0, x_s.c1, x_s.c2, x_s.c3, x_s.c4, x_s.c5, BB.drew⟩
          refine take_yes (i := 0) (v := ?vma0x1) rfl (by kernel_rfl) (by kernel_rfl) (by kernel_rfl) (fun _ _ _ h => by rw [HQQ.out] at h; exact Exit.noConfusion h.1) (by rfl) (by assumption) ?hyma0x1 ?restma0x1
          case hyma0x1 => (intro w hSw; (try dsimp only at hSw); first | (go_simp; done) | (go_simp; with_reducible rfl))
          simp only [Act.put, List.setIfInBounds_toArray, List.set_cons_zero, List.set_cons_succ]
          refine take_yes (i := 1) (v := ?vma1x2) rfl (by kernel_rfl) (by kernel_rfl) (by kernel_rfl) (fun _ _ _ h => by rw [HQQ.out] at h; exact Exit.noConfusion h.1) (by rfl) (by assumption) ?hyma1x2 ?restma1x2
          case hyma1x2 => (intro w hSw; (try dsimp only at hSw); first | (go_simp; done) | (go_simp; with_reducible rfl))
          simp only [Act.put, List.setIfInBounds_toArray, List.set_cons_zero, List.set_cons_succ]
          refine take_yes (i := 2) (v := ?vma2x3) rfl (by kernel_rfl) (by kernel_rfl) (by kernel_rfl) (fun _ _ _ h => by rw [HQQ.out] at h; exact Exit.noConfusion h.1) (by rfl) (by assumption) ?hyma2x3 ?restma2x3
          case hyma2x3 => (intro w hSw; (try dsimp only at hSw); first | (go_simp; done) | (go_simp; with_reducible rfl))
          simp only [Act.put, List.setIfInBounds_toArray, List.set_cons_zero, List.set_cons_succ]
          refine take_yes (i := 3) (v := ?vma3x4) rfl (by kernel_rfl) (by kernel_rfl) (by kernel_rfl) (fun _ _ _ h => by rw [HQQ.out] at h; exact Exit.noConfusion h.1) (by rfl) (by assumption) ?hyma3x4 ?restma3x4
          case hyma3x4 => (intro w hSw; (try dsimp only at hSw); first | (go_simp; done) | (go_simp; with_reducible rfl))
          simp only [Act.put, List.setIfInBounds_toArray, List.set_cons_zero, List.set_cons_succ]
          refine take_yes (i := 5) (v := ?vma5x5) rfl (by kernel_rfl) (by kernel_rfl) (by kernel_rfl) (fun _ _ _ h => by rw [HQQ.out] at h; exact Exit.noConfusion h.1) (by rfl) (by assumption) ?hyma5x5 ?restma5x5
          case hyma5x5 => (intro w hSw; (try dsimp only at hSw); first | (go_simp; done) | (go_simp; with_reducible rfl))
          simp only [Act.put, List.setIfInBounds_toArray, List.set_cons_zero, List.set_cons_succ]
          refine take_yes (i := 6) (v := ?vma6x6) rfl (by kernel_rfl) (by kernel_rfl) (by kernel_rfl) (fun _ _ _ h => by rw [HQQ.out] at h; exact Exit.noConfusion h.1) (by rfl) (by assumption) ?hyma6x6 ?restma6x6
          case hyma6x6 => (intro w hSw; (try dsimp only at hSw); first | (go_simp; done) | (go_simp; with_reducible rfl))
          simp only [Act.put, List.setIfInBounds_toArray, List.set_cons_zero, List.set_cons_succ]
          refine take_yes (i := 7) (v := ?vma7x7) rfl (by kernel_rfl) (by kernel_rfl) (by kernel_rfl) (fun _ _ _ h => by rw [HQQ.out] at h; exact Exit.noConfusion h.1) (by rfl) (by assumption) ?hyma7x7 ?restma7x7
          case hyma7x7 => (intro w hSw; (try dsimp only at hSw); first | (go_simp; done) | (go_simp; with_reducible rfl))
          simp only [Act.put, List.setIfInBounds_toArray, List.set_cons_zero, List.set_cons_succ]
          refine take_yes (i := 8) (v := ?vma8x8) rfl (by kernel_rfl) (by kernel_rfl) (by kernel_rfl) (fun _ _ _ h => by rw [HQQ.out] at h; exact Exit.noConfusion h.1) (by rfl) (by assumption) ?hyma8x8 ?restma8x8
          case hyma8x8 => (intro w hSw; (try dsimp only at hSw); first | (go_simp; done) | (go_simp; with_reducible rfl))
          simp only [Act.put, List.setIfInBounds_toArray, List.set_cons_zero, List.set_cons_succ]
          clear hHeld
          obtain ⟨INV, hINV⟩ : ∃ INV : Nat → Array Bool → Act → World → Prop, INV = fun f L act wr => ∃ (bD eD : Nat → Bool) (pD : Nat → Nat) (RD : Nat → World → Prop) (AD : Nat → Nat → Prop) (uD vD : Nat → Value), f = 1 + (nb (bD 0) + nb (bD 1) + nb (bD 2) + nb (eD 0)) ∧ L = #[true, true, true, true, bD 0, true, true, true, true, bD 1, bD 2, eD 0, false] ∧ act = ⟨#[.agg #[.int .i64 a1, .int .i64 a2], .agg #[.int .i64 b1, .int .i64 b2], .agg #[.int .i64 c1, .int .i64 c2], .int .i64 sd, .pointer (some ⟨w.heap.size, 0, none⟩), .pointer (some ⟨w.heap.size + 1, 0, none⟩), .pointer (some ⟨w.heap.size + 1 + 1, 0, none⟩), undef, .bool false, .pointer (some ⟨w1.heap.size, 0, none⟩), .bool true, vD 0, undef, .int .i64 sd, .bool false, .bool false, .int .i64 sd, .bool false, .bool false, .tuple #[.agg #[.int .i64 rh, .int .u64 rl, .int .i64 sh, .int .u64 sl, .int .i64 ph, .int .u64 pl], .bool true], .agg #[.int .i64 a1, .int .i64 a2], .agg #[.int .i64 b1, .int .i64 b2], .agg #[.int .i64 c1, .int .i64 c2], .tuple #[.agg #[.int .i64 rh, .int .u64 rl, .int .i64 sh, .int .u64 sl, .int .i64 ph, .int .u64 pl], .bool true], .agg #[.int .i64 rh, .int .u64 rl, .int .i64 sh, .int .u64 sl, .int .i64 ph, .int .u64 pl], .bool true, .bool true, .bool false, .pointer (some ⟨w1.heap.size, 0, none⟩), .agg #[.int .i64 rh, .int .u64 rl], .pointer (some ⟨w1.heap.size, 0, none⟩), .agg #[.int .i64 rh, .int .u64 rl], uD 0, .pointer (some ⟨w1.heap.size, 2, none⟩), .agg #[.int .i64 sh, .int .u64 sl], .pointer (some ⟨w1.heap.size, 2, none⟩), .agg #[.int .i64 sh, .int .u64 sl], uD 1, uD 2, undef, undef, undef, undef, undef, undef, undef, undef, undef, undef, undef, undef], []⟩ ∧ (bD 1 = true → bD 0 = true) ∧ (bD 2 = true → bD 1 = true) ∧ Mk V SpSaZ (SpSa gh gl jh jl m0 m1 m2 m3) bD eD pD RD AD uD vD wr := ⟨_, rfl⟩
          have HINV : Hid _ := hINV
          clear hINV
          refine phase INV ?stepma _ _ _ _ ?initma
          case initma => rw [HINV.out]; exact ⟨fun _ => false, fun _ => false, fun _ => 0, fun _ _ => True, fun _ _ => True, fun _ => undef, fun _ => undef, rfl, rfl, rfl, fun h => Bool.noConfusion h, fun h => Bool.noConfusion h, Mk.start _ _ _ (Below.refl _ _).drew⟩
          intro f L act wr hinv
          rw [HINV.out] at hinv
          obtain ⟨bD, eD, pD, RD, AD, uD, vD, hf, rfl, rfl, ch0, ch1, hm⟩ := hinv
          by_cases hall : bD 2 = true ∧ eD 0 = true
          · refine Or.inl ?_
            obtain ⟨hb2, he0⟩ := hall
            have hb1 := ch1 hb2
            have hb0 := ch0 hb1
            simp only [hb0, hb1, hb2, he0, nb] at hf
            subst hf
            rw [hb0, hb1, hb2, he0, hm.ptr 0 he0]
            obtain ⟨hu0, _, _⟩ : ValIs _ _ _ _ := hm.spec 0 hb0
            rw [hu0]
            obtain ⟨hu1, _, _⟩ : ValIs _ _ _ _ := hm.spec 1 hb1
            rw [hu1]
            obtain ⟨hu2, _, _⟩ : ValIs _ _ _ _ := hm.spec 2 hb2
            rw [hu2]
            have y_pma0 : B4 wr (pD 0) (.int .u64 0) (.int .u64 0) (.int .u64 0) (.int .u64 0) := b4_row (hm.blk 0 he0)
            have gpma0 := hm.old 0 he0
            have ltpma0 := hm.lt 0 he0
            have BU := hm.bel
            replace x_a := x_a.on BU
            replace x_b := x_b.on BU
            replace x_c := x_c.on BU
            replace x_s := x_s.on BU
            replace BB := also BB BU
            have hHeld : ((fun w' => w'.cell? ⟨w1.heap.size, 0, none⟩ = some (.int .i64 rh) ∧ w'.cell? ⟨w1.heap.size, 1, none⟩ = some (.int .u64 rl) ∧ w'.cell? ⟨w1.heap.size, 2, none⟩ = some (.int .i64 sh) ∧ w'.cell? ⟨w1.heap.size, 3, none⟩ = some (.int .u64 sl) ∧ w'.cell? ⟨w1.heap.size, 4, none⟩ = some (.int .i64 ph) ∧ w'.cell? ⟨w1.heap.size, 5, none⟩ = some (.int .u64 pl) ∧ Below w.heap.size w w')) wr := ⟨x_s.c0, x_s.c1, x_s.c2, x_s.c3, x_s.c4, x_s.c5, BB⟩
            clear hm HINV INV ch0 ch1
            generalize pD 0 = pma0 at *
            dsimp only at hHeld
            have ⟨c_pma0_0, c_pma0_1, c_pma0_2, c_pma0_3, c_pma0_4, c_pma0_5, c_pma0_6, c_pma0_7⟩ : B4 wr pma0 (.int .u64 0) (.int .u64 0) (.int .u64 0) (.int .u64 0) := y_pma0
            refine take_call (i := 12) rfl (by kernel_rfl) (fun Kc hK => ?_)
            go_simp
            refine hK.out _ _ ⟨cell_put4 hHeld.1 (by omega) _ _ _ _, cell_put4 hHeld.2.1 (by omega) _ _ _ _, cell_put4 hHeld.2.2.1 (by omega) _ _ _ _, cell_put4 hHeld.2.2.2.1 (by omega) _ _ _ _, cell_put4 hHeld.2.2.2.2.1 (by omega) _ _ _ _, cell_put4 hHeld.2.2.2.2.2.1 (by omega) _ _ _ _, below_put4 hHeld.2.2.2.2.2.2 (by omega) _ _ _ _⟩ (fun hHeld => ?_)
            clear hK Kc
            refine wpAnyH_done (by kernel_rfl) ?_ _
            rw [HQQ.out]
            exact ⟨rfl, pma0, rfl, ((((x_a.put (by omega)).put (by omega)).put (by omega)).put (by omega)), ((((x_b.put (by omega)).put (by omega)).put (by omega)).put (by omega)), ((((x_c.put (by omega)).put (by omega)).put (by omega)).put (by omega)), ((((x_s.put (by omega)).put (by omega)).put (by omega)).put (by omega)), y_pma0.set, (below_put4 BB (by omega) _ _ _ _), by have := BU.size; simp only [World.size_setCell]; omega, ⟨gpma0, by simp only [World.size_setCell]; omega⟩⟩
          · refine Or.inr ⟨f - 1, by omega, ?nema, ?opsma⟩
            case nema =>
              cases he0 : eD 0
              · exact ready_ne (i := 11) (by decide) (by kernel_rfl)
              cases hb0 : bD 0
              · exact ready_ne (i := 4) (by decide) (by kernel_rfl)
              cases hb1 : bD 1
              · exact ready_ne (i := 9) (by decide) (by kernel_rfl)
              cases hb2 : bD 2
              · exact ready_ne (i := 10) (by decide) (by kernel_rfl)
              exact absurd ⟨hb2, he0⟩ hall
            case opsma =>
              intro i hi
              obtain ⟨hlt, hnot, hdep⟩ := ready_at hi
              replace hlt : i < 13 := hlt
              obtain rfl | rfl | rfl | rfl | rfl | rfl | rfl | rfl | rfl | rfl | rfl | rfl | rfl : i = 0 ∨ i = 1 ∨ i = 2 ∨ i = 3 ∨ i = 4 ∨ i = 5 ∨ i = 6 ∨ i = 7 ∨ i = 8 ∨ i = 9 ∨ i = 10 ∨ i = 11 ∨ i = 12 := by omega
              · skip
                exact Bool.noConfusion (show true = false from hnot)
              · skip
                exact Bool.noConfusion (show true = false from hnot)
              · skip
                exact Bool.noConfusion (show true = false from hnot)
              · skip
                exact Bool.noConfusion (show true = false from hnot)
              · skip
                have hbj : bD 0 = false := hnot
                refine ⟨_, rfl, fun K' hK => ?_⟩
                go_simp
                (go_at_call 24; refine (xAdd X X Hrh.out Hrl.out Hrh.out Hrl.out Hgh.out Hgl.out _).mono ?_; rintro e' X ⟨rfl, bX⟩)
                have hm' := hm.call (SpSa_good gh gl jh jl m0 m1 m2 m3) 0 bX (.agg #[.int .i64 gh, .int .u64 gl]) (fun _ => True) (fun _ => True) ⟨rfl, rfl, rfl⟩ trivial (fun i hi => trivial)
                refine hK.out _ _ ⟨cell_on hm'.bel x_s.c0, cell_on hm'.bel x_s.c1, cell_on hm'.bel x_s.c2, cell_on hm'.bel x_s.c3, cell_on hm'.bel x_s.c4, cell_on hm'.bel x_s.c5, also BB hm'.bel⟩ ?_
                rw [HINV.out]
                exact ⟨upd bD 0 true, eD, pD, upd RD 0 (fun _ => True), upd AD 0 (fun _ => True), upd uD 0 (.agg #[.int .i64 gh, .int .u64 gl]), vD, fuel_SpSa_b0 hf hbj, rfl, rfl, fun _ => rfl, ch1, hm'⟩
              · skip
                exact Bool.noConfusion (show true = false from hnot)
              · skip
                exact Bool.noConfusion (show true = false from hnot)
              · skip
                exact Bool.noConfusion (show true = false from hnot)
              · skip
                exact Bool.noConfusion (show true = false from hnot)
              · skip
                have hbj : bD 1 = false := hnot
                have hprev : bD 0 = true := hdep _ rfl 2 _ rfl rfl
                refine ⟨_, rfl, fun K' hK => ?_⟩
                go_simp
                (go_at_call 24; refine (xAdd Y Y Hsh.out Hsl.out Hsh.out Hsl.out Hjh.out Hjl.out _).mono ?_; rintro e' X ⟨rfl, bX⟩)
                have hm' := hm.call (SpSa_good gh gl jh jl m0 m1 m2 m3) 1 bX (.agg #[.int .i64 jh, .int .u64 jl]) (fun _ => True) (fun _ => True) ⟨rfl, rfl, rfl⟩ trivial (fun i hi => trivial)
                refine hK.out _ _ ⟨cell_on hm'.bel x_s.c0, cell_on hm'.bel x_s.c1, cell_on hm'.bel x_s.c2, cell_on hm'.bel x_s.c3, cell_on hm'.bel x_s.c4, cell_on hm'.bel x_s.c5, also BB hm'.bel⟩ ?_
                rw [HINV.out]
                exact ⟨upd bD 1 true, eD, pD, upd RD 1 (fun _ => True), upd AD 1 (fun _ => True), upd uD 1 (.agg #[.int .i64 jh, .int .u64 jl]), vD, fuel_SpSa_b1 hf hbj, rfl, rfl, fun _ => hprev, fun _ => rfl, hm'⟩
              · skip
                have hbj : bD 2 = false := hnot
                have hprev : bD 1 = true := hdep _ rfl 2 _ rfl rfl
                have hq0 : bD 0 = true := ch0 hprev
                refine ⟨_, rfl, fun K' hK => ?_⟩
                obtain ⟨hu0, _, _⟩ : ValIs _ _ _ _ := hm.spec 0 hq0
                rw [hu0]
                obtain ⟨hu1, _, _⟩ : ValIs _ _ _ _ := hm.spec 1 hprev
                rw [hu1]
                go_simp
                (go_at_call 33; refine (cSquares _ _ Hgh.out Hgl.out Hjh.out Hjl.out RXX RYY Hm.out _).mono ?_; rintro e' X ⟨rfl, bX⟩)
                have hm' := hm.call (SpSa_good gh gl jh jl m0 m1 m2 m3) 2 bX (.agg #[.int .u64 m0, .int .u64 m1, .int .u64 m2, .int .u64 m3]) (fun _ => True) (fun _ => True) ⟨rfl, rfl, rfl⟩ trivial (fun i hi => trivial)
                refine hK.out _ _ ⟨cell_on hm'.bel x_s.c0, cell_on hm'.bel x_s.c1, cell_on hm'.bel x_s.c2, cell_on hm'.bel x_s.c3, cell_on hm'.bel x_s.c4, cell_on hm'.bel x_s.c5, also BB hm'.bel⟩ ?_
                rw [HINV.out]
                exact ⟨upd bD 2 true, eD, pD, upd RD 2 (fun _ => True), upd AD 2 (fun _ => True), upd uD 2 (.agg #[.int .u64 m0, .int .u64 m1, .int .u64 m2, .int .u64 m3]), vD, fuel_SpSa_b2 hf hbj, rfl, (by rw [show upd uD 2 (.agg #[.int .u64 m0, .int .u64 m1, .int .u64 m2, .int .u64 m3]) 0 = .agg #[.int .i64 gh, .int .u64 gl] from hu0, show upd uD 2 (.agg #[.int .u64 m0, .int .u64 m1, .int .u64 m2, .int .u64 m3]) 1 = .agg #[.int .i64 jh, .int .u64 jl] from hu1] <;> rfl), ch0, fun _ => hprev, hm'⟩
              · skip
                have hei : eD 0 = false := hnot
                refine ⟨_, rfl, fun K' hK => ?_⟩
                go_simp
                have hm' := hm.alloc (SpSa_good gh gl jh jl m0 m1 m2 m3) 0 77 hei
                refine hK.out _ _ ⟨cell_on hm'.bel x_s.c0, cell_on hm'.bel x_s.c1, cell_on hm'.bel x_s.c2, cell_on hm'.bel x_s.c3, cell_on hm'.bel x_s.c4, cell_on hm'.bel x_s.c5, also BB hm'.bel⟩ ?_
                rw [HINV.out]
                exact ⟨bD, upd eD 0 true, upd pD 0 wr.heap.size, RD, AD, uD, upd vD 0 (.pointer (some ⟨wr.heap.size, 0, none⟩)), fuel_SpSa_e0 hf hei, rfl, rfl, ch0, ch1, hm'⟩
              · skip
                exact absurd ⟨hdep _ rfl 1 _ rfl rfl, hdep _ rfl 0 _ rfl rfl⟩ hall
        rw [HQQ.out]
        rintro e act Y1 ⟨rfl, pma0, rfl, x_a, x_b, x_c, x_s, x_m, BB, z_Y1, z_Y1_pma0⟩
        clear HQQ QQ
        try dsimp only
        go_wp2
        obtain ⟨QQ, hQQ⟩ : ∃ QQ : Exit → Act → World → Prop, QQ = fun e act wr => e = .normal ∧ ∃ (pmb0 : Nat) , act = ⟨#[.agg #[.int .i64 a1, .int .i64 a2], .agg #[.int .i64 b1, .int .i64 b2], .agg #[.int .i64 c1, .int .i64 c2], .int .i64 sd, .pointer (some ⟨w.heap.size, 0, none⟩), .pointer (some ⟨w.heap.size + 1, 0, none⟩), .pointer (some ⟨w.heap.size + 1 + 1, 0, none⟩), undef, .bool false, .pointer (some ⟨w1.heap.size, 0, none⟩), .bool true, .pointer (some ⟨pma0, 0, none⟩), .pointer (some ⟨pmb0, 0, none⟩), .int .i64 sd, .bool false, .bool false, .int .i64 sd, .bool false, .bool false, .tuple #[.agg #[.int .i64 rh, .int .u64 rl, .int .i64 sh, .int .u64 sl, .int .i64 ph, .int .u64 pl], .bool true], .agg #[.int .i64 a1, .int .i64 a2], .agg #[.int .i64 b1, .int .i64 b2], .agg #[.int .i64 c1, .int .i64 c2], .tuple #[.agg #[.int .i64 rh, .int .u64 rl, .int .i64 sh, .int .u64 sl, .int .i64 ph, .int .u64 pl], .bool true], .agg #[.int .i64 rh, .int .u64 rl, .int .i64 sh, .int .u64 sl, .int .i64 ph, .int .u64 pl], .bool true, .bool true, .bool false, .pointer (some ⟨w1.heap.size, 0, none⟩), .agg #[.int .i64 rh, .int .u64 rl], .pointer (some ⟨w1.heap.size, 0, none⟩), .agg #[.int .i64 rh, .int .u64 rl], .agg #[.int .i64 gh, .int .u64 gl], .pointer (some ⟨w1.heap.size, 2, none⟩), .agg #[.int .i64 sh, .int .u64 sl], .pointer (some ⟨w1.heap.size, 2, none⟩), .agg #[.int .i64 sh, .int .u64 sl], .agg #[.int .i64 jh, .int .u64 jl], .agg #[.int .u64 m0, .int .u64 m1, .int .u64 m2, .int .u64 m3], .pointer (some ⟨w1.heap.size, 4, none⟩), .agg #[.int .i64 ph, .int .u64 pl], .int .i64 sd, .agg #[.int .i64 nh, .int .u64 nl], .agg #[.int .u64 y0, .int .u64 y1, .int .u64 y2, .int .u64 y3], .agg #[.int .i64 kh, .int .u64 kl], undef, undef, undef, undef, undef, undef], []⟩ ∧ Bx wr (w.heap.size) (.int .i64 a1) (.int .i64 a2) ∧ Bx wr (w.heap.size + 1) (.int .i64 b1) (.int .i64 b2) ∧ Bx wr (w.heap.size + 1 + 1) (.int .i64 c1) (.int .i64 c2) ∧ B6 wr (w1.heap.size) (.int .i64 rh) (.int .u64 rl) (.int .i64 sh) (.int .u64 sl) (.int .i64 ph) (.int .u64 pl) ∧ B4 wr (pma0) (.int .u64 m0) (.int .u64 m1) (.int .u64 m2) (.int .u64 m3) ∧ Bx wr pmb0 (.int .i64 kh) (.int .u64 kl) ∧ Below w.heap.size w wr ∧ Y1.heap.size ≤ wr.heap.size ∧ (Y1.heap.size ≤ pmb0 ∧ pmb0 < wr.heap.size) := ⟨_, rfl⟩
        have HQQ : Hid _ := hQQ
        clear hQQ
        refine wp_mono (Q := QQ) ?_ ?_
        · refine wp_region_held_drew (S := (fun w' => w'.cell? ⟨w1.heap.size, 0, none⟩ = some (.int .i64 rh) ∧ w'.cell? ⟨w1.heap.size, 1, none⟩ = some (.int .u64 rl) ∧ w'.cell? ⟨w1.heap.size, 2, none⟩ = some (.int .i64 sh) ∧ w'.cell? ⟨w1.heap.size, 3, none⟩ = some (.int .u64 sl) ∧ w'.cell? ⟨w1.heap.size, 4, none⟩ = some (.int .i64 ph) ∧ w'.cell? ⟨w1.heap.size, 5, none⟩ = some (.int .u64 pl) ∧ Below w.heap.size w w')) (by kernel_rfl) ?_ (fun hHeld => ?_)
          · exact ⟨x_s.c0, x_s.c1, x_s.c2, x_s.c3, x_s.c4, x_s.c5, BB.drew⟩
          refine take_yes (i := 0) (v := ?vmb0x1) rfl (by kernel_rfl) (by kernel_rfl) (by kernel_rfl) (fun _ _ _ h => by rw [HQQ.out] at h; exact Exit.noConfusion h.1) (by rfl) (by assumption) ?hymb0x1 ?restmb0x1
          case hymb0x1 => (intro w hSw; (try dsimp only at hSw); first | (go_simp; done) | (go_simp; with_reducible rfl))
          simp only [Act.put, List.setIfInBounds_toArray, List.set_cons_zero, List.set_cons_succ]
          refine take_yes (i := 1) (v := ?vmb1x2) rfl (by kernel_rfl) (by kernel_rfl) (by kernel_rfl) (fun _ _ _ h => by rw [HQQ.out] at h; exact Exit.noConfusion h.1) (by rfl) (by assumption) ?hymb1x2 ?restmb1x2
          case hymb1x2 => (intro w hSw; (try dsimp only at hSw); first | (go_simp; done) | (go_simp; with_reducible rfl))
          simp only [Act.put, List.setIfInBounds_toArray, List.set_cons_zero, List.set_cons_succ]
          refine take_yes (i := 2) (v := ?vmb2x3) rfl (by kernel_rfl) (by kernel_rfl) (by kernel_rfl) (fun _ _ _ h => by rw [HQQ.out] at h; exact Exit.noConfusion h.1) (by rfl) (by assumption) ?hymb2x3 ?restmb2x3
          case hymb2x3 => (intro w hSw; (try dsimp only at hSw); first | (go_simp; done) | (go_simp; with_reducible rfl))
          simp only [Act.put, List.setIfInBounds_toArray, List.set_cons_zero, List.set_cons_succ]
          clear hHeld
          obtain ⟨INV, hINV⟩ : ∃ INV : Nat → Array Bool → Act → World → Prop, INV = fun f L act wr => ∃ (bD eD : Nat → Bool) (pD : Nat → Nat) (RD : Nat → World → Prop) (AD : Nat → Nat → Prop) (uD vD : Nat → Value), f = 1 + (nb (bD 0) + nb (bD 1) + nb (bD 2) + nb (eD 0)) ∧ L = #[true, true, true, bD 0, bD 1, bD 2, eD 0, false] ∧ act = ⟨#[.agg #[.int .i64 a1, .int .i64 a2], .agg #[.int .i64 b1, .int .i64 b2], .agg #[.int .i64 c1, .int .i64 c2], .int .i64 sd, .pointer (some ⟨w.heap.size, 0, none⟩), .pointer (some ⟨w.heap.size + 1, 0, none⟩), .pointer (some ⟨w.heap.size + 1 + 1, 0, none⟩), undef, .bool false, .pointer (some ⟨w1.heap.size, 0, none⟩), .bool true, .pointer (some ⟨pma0, 0, none⟩), vD 0, .int .i64 sd, .bool false, .bool false, .int .i64 sd, .bool false, .bool false, .tuple #[.agg #[.int .i64 rh, .int .u64 rl, .int .i64 sh, .int .u64 sl, .int .i64 ph, .int .u64 pl], .bool true], .agg #[.int .i64 a1, .int .i64 a2], .agg #[.int .i64 b1, .int .i64 b2], .agg #[.int .i64 c1, .int .i64 c2], .tuple #[.agg #[.int .i64 rh, .int .u64 rl, .int .i64 sh, .int .u64 sl, .int .i64 ph, .int .u64 pl], .bool true], .agg #[.int .i64 rh, .int .u64 rl, .int .i64 sh, .int .u64 sl, .int .i64 ph, .int .u64 pl], .bool true, .bool true, .bool false, .pointer (some ⟨w1.heap.size, 0, none⟩), .agg #[.int .i64 rh, .int .u64 rl], .pointer (some ⟨w1.heap.size, 0, none⟩), .agg #[.int .i64 rh, .int .u64 rl], .agg #[.int .i64 gh, .int .u64 gl], .pointer (some ⟨w1.heap.size, 2, none⟩), .agg #[.int .i64 sh, .int .u64 sl], .pointer (some ⟨w1.heap.size, 2, none⟩), .agg #[.int .i64 sh, .int .u64 sl], .agg #[.int .i64 jh, .int .u64 jl], .agg #[.int .u64 m0, .int .u64 m1, .int .u64 m2, .int .u64 m3], .pointer (some ⟨w1.heap.size, 4, none⟩), .agg #[.int .i64 ph, .int .u64 pl], .int .i64 sd, uD 0, uD 1, uD 2, undef, undef, undef, undef, undef, undef], []⟩ ∧ (bD 1 = true → bD 0 = true) ∧ (bD 2 = true → bD 1 = true) ∧ Mk Y1 SpSbZ (SpSb kh kl nh nl y0 y1 y2 y3) bD eD pD RD AD uD vD wr := ⟨_, rfl⟩
          have HINV : Hid _ := hINV
          clear hINV
          refine phase INV ?stepmb _ _ _ _ ?initmb
          case initmb => rw [HINV.out]; exact ⟨fun _ => false, fun _ => false, fun _ => 0, fun _ _ => True, fun _ _ => True, fun _ => undef, fun _ => undef, rfl, rfl, rfl, fun h => Bool.noConfusion h, fun h => Bool.noConfusion h, Mk.start _ _ _ (Below.refl _ _).drew⟩
          intro f L act wr hinv
          rw [HINV.out] at hinv
          obtain ⟨bD, eD, pD, RD, AD, uD, vD, hf, rfl, rfl, ch0, ch1, hm⟩ := hinv
          by_cases hall : bD 2 = true ∧ eD 0 = true
          · refine Or.inl ?_
            obtain ⟨hb2, he0⟩ := hall
            have hb1 := ch1 hb2
            have hb0 := ch0 hb1
            simp only [hb0, hb1, hb2, he0, nb] at hf
            subst hf
            rw [hb0, hb1, hb2, he0, hm.ptr 0 he0]
            obtain ⟨hu0, _, _⟩ : ValIs _ _ _ _ := hm.spec 0 hb0
            rw [hu0]
            obtain ⟨hu1, _, _⟩ : ValIs _ _ _ _ := hm.spec 1 hb1
            rw [hu1]
            obtain ⟨hu2, _, _⟩ : ValIs _ _ _ _ := hm.spec 2 hb2
            rw [hu2]
            have y_pmb0 : Bx wr (pD 0) (.int .i64 0) (.int .u64 0) := bx_row (hm.blk 0 he0)
            have gpmb0 := hm.old 0 he0
            have ltpmb0 := hm.lt 0 he0
            have BU := hm.bel
            replace x_a := x_a.on BU
            replace x_b := x_b.on BU
            replace x_c := x_c.on BU
            replace x_s := x_s.on BU
            replace x_m := x_m.on BU
            replace BB := also BB BU
            have hHeld : ((fun w' => w'.cell? ⟨w1.heap.size, 0, none⟩ = some (.int .i64 rh) ∧ w'.cell? ⟨w1.heap.size, 1, none⟩ = some (.int .u64 rl) ∧ w'.cell? ⟨w1.heap.size, 2, none⟩ = some (.int .i64 sh) ∧ w'.cell? ⟨w1.heap.size, 3, none⟩ = some (.int .u64 sl) ∧ w'.cell? ⟨w1.heap.size, 4, none⟩ = some (.int .i64 ph) ∧ w'.cell? ⟨w1.heap.size, 5, none⟩ = some (.int .u64 pl) ∧ Below w.heap.size w w')) wr := ⟨x_s.c0, x_s.c1, x_s.c2, x_s.c3, x_s.c4, x_s.c5, BB⟩
            clear hm HINV INV ch0 ch1
            generalize pD 0 = pmb0 at *
            dsimp only at hHeld
            have ⟨c_pmb0_0, c_pmb0_1, c_pmb0_2, c_pmb0_3⟩ : Bx wr pmb0 (.int .i64 0) (.int .u64 0) := y_pmb0
            refine take_call (i := 7) rfl (by kernel_rfl) (fun Kc hK => ?_)
            go_simp
            refine hK.out _ _ ⟨cell_put2 hHeld.1 (by omega) _ _, cell_put2 hHeld.2.1 (by omega) _ _, cell_put2 hHeld.2.2.1 (by omega) _ _, cell_put2 hHeld.2.2.2.1 (by omega) _ _, cell_put2 hHeld.2.2.2.2.1 (by omega) _ _, cell_put2 hHeld.2.2.2.2.2.1 (by omega) _ _, below_put2 hHeld.2.2.2.2.2.2 (by omega) _ _⟩ (fun hHeld => ?_)
            clear hK Kc
            refine wpAnyH_done (by kernel_rfl) ?_ _
            rw [HQQ.out]
            exact ⟨rfl, pmb0, rfl, ((x_a.put (by omega)).put (by omega)), ((x_b.put (by omega)).put (by omega)), ((x_c.put (by omega)).put (by omega)), ((x_s.put (by omega)).put (by omega)), ((x_m.put (by omega)).put (by omega)), y_pmb0.set, (below_put2 BB (by omega) _ _), by have := BU.size; simp only [World.size_setCell]; omega, ⟨gpmb0, by simp only [World.size_setCell]; omega⟩⟩
          · refine Or.inr ⟨f - 1, by omega, ?nemb, ?opsmb⟩
            case nemb =>
              cases he0 : eD 0
              · exact ready_ne (i := 6) (by decide) (by kernel_rfl)
              cases hb0 : bD 0
              · exact ready_ne (i := 3) (by decide) (by kernel_rfl)
              cases hb1 : bD 1
              · exact ready_ne (i := 4) (by decide) (by kernel_rfl)
              cases hb2 : bD 2
              · exact ready_ne (i := 5) (by decide) (by kernel_rfl)
              exact absurd ⟨hb2, he0⟩ hall
            case opsmb =>
              intro i hi
              obtain ⟨hlt, hnot, hdep⟩ := ready_at hi
              replace hlt : i < 8 := hlt
              obtain rfl | rfl | rfl | rfl | rfl | rfl | rfl | rfl : i = 0 ∨ i = 1 ∨ i = 2 ∨ i = 3 ∨ i = 4 ∨ i = 5 ∨ i = 6 ∨ i = 7 := by omega
              · skip
                exact Bool.noConfusion (show true = false from hnot)
              · skip
                exact Bool.noConfusion (show true = false from hnot)
              · skip
                exact Bool.noConfusion (show true = false from hnot)
              · skip
                have hbj : bD 0 = false := hnot
                refine ⟨_, rfl, fun K' hK => ?_⟩
                go_simp
                (go_at_call 43; refine (xOf sd Rs Hnh.out Hnl.out _).mono ?_; rintro e' X ⟨rfl, bX⟩)
                have hm' := hm.call (SpSb_good kh kl nh nl y0 y1 y2 y3) 0 bX (.agg #[.int .i64 nh, .int .u64 nl]) (fun _ => True) (fun _ => True) ⟨rfl, rfl, rfl⟩ trivial (fun i hi => trivial)
                refine hK.out _ _ ⟨cell_on hm'.bel x_s.c0, cell_on hm'.bel x_s.c1, cell_on hm'.bel x_s.c2, cell_on hm'.bel x_s.c3, cell_on hm'.bel x_s.c4, cell_on hm'.bel x_s.c5, also BB hm'.bel⟩ ?_
                rw [HINV.out]
                exact ⟨upd bD 0 true, eD, pD, upd RD 0 (fun _ => True), upd AD 0 (fun _ => True), upd uD 0 (.agg #[.int .i64 nh, .int .u64 nl]), vD, fuel_SpSb_b0 hf hbj, rfl, rfl, fun _ => rfl, ch1, hm'⟩
              · skip
                have hbj : bD 1 = false := hnot
                have hprev : bD 0 = true := hdep _ rfl 2 _ rfl rfl
                refine ⟨_, rfl, fun K' hK => ?_⟩
                obtain ⟨hu0, _, _⟩ : ValIs _ _ _ _ := hm.spec 0 hprev
                rw [hu0]
                go_simp
                (go_at_call 34; refine (xMul G sd Hph.out Hpl.out Hnh.out Hnl.out RG RN' Hy.out _).mono ?_; rintro e' X ⟨rfl, bX⟩)
                have hm' := hm.call (SpSb_good kh kl nh nl y0 y1 y2 y3) 1 bX (.agg #[.int .u64 y0, .int .u64 y1, .int .u64 y2, .int .u64 y3]) (fun _ => True) (fun _ => True) ⟨rfl, rfl, rfl⟩ trivial (fun i hi => trivial)
                refine hK.out _ _ ⟨cell_on hm'.bel x_s.c0, cell_on hm'.bel x_s.c1, cell_on hm'.bel x_s.c2, cell_on hm'.bel x_s.c3, cell_on hm'.bel x_s.c4, cell_on hm'.bel x_s.c5, also BB hm'.bel⟩ ?_
                rw [HINV.out]
                exact ⟨upd bD 1 true, eD, pD, upd RD 1 (fun _ => True), upd AD 1 (fun _ => True), upd uD 1 (.agg #[.int .u64 y0, .int .u64 y1, .int .u64 y2, .int .u64 y3]), vD, fuel_SpSb_b1 hf hbj, rfl, (by rw [show upd uD 1 (.agg #[.int .u64 y0, .int .u64 y1, .int .u64 y2, .int .u64 y3]) 0 = .agg #[.int .i64 nh, .int .u64 nl] from hu0] <;> rfl), fun _ => hprev, fun _ => rfl, hm'⟩
              · skip
                have hbj : bD 2 = false := hnot
                have hprev : bD 1 = true := hdep _ rfl 1 _ rfl rfl
                have hq0 : bD 0 = true := ch0 hprev
                refine ⟨_, rfl, fun K' hK => ?_⟩
                obtain ⟨hu1, _, _⟩ : ValIs _ _ _ _ := hm.spec 1 hprev
                rw [hu1]
                go_simp
                (go_at_call 42; refine (cNarrow _ Hy.out RGS Hkh.out Hkl.out _).mono ?_; rintro e' X ⟨rfl, bX⟩)
                have hm' := hm.call (SpSb_good kh kl nh nl y0 y1 y2 y3) 2 bX (.agg #[.int .i64 kh, .int .u64 kl]) (fun _ => True) (fun _ => True) ⟨rfl, rfl, rfl⟩ trivial (fun i hi => trivial)
                refine hK.out _ _ ⟨cell_on hm'.bel x_s.c0, cell_on hm'.bel x_s.c1, cell_on hm'.bel x_s.c2, cell_on hm'.bel x_s.c3, cell_on hm'.bel x_s.c4, cell_on hm'.bel x_s.c5, also BB hm'.bel⟩ ?_
                rw [HINV.out]
                exact ⟨upd bD 2 true, eD, pD, upd RD 2 (fun _ => True), upd AD 2 (fun _ => True), upd uD 2 (.agg #[.int .i64 kh, .int .u64 kl]), vD, fuel_SpSb_b2 hf hbj, rfl, (by rw [show upd uD 2 (.agg #[.int .i64 kh, .int .u64 kl]) 1 = .agg #[.int .u64 y0, .int .u64 y1, .int .u64 y2, .int .u64 y3] from hu1] <;> rfl), ch0, fun _ => hprev, hm'⟩
              · skip
                have hei : eD 0 = false := hnot
                refine ⟨_, rfl, fun K' hK => ?_⟩
                go_simp
                have hm' := hm.alloc (SpSb_good kh kl nh nl y0 y1 y2 y3) 0 61 hei
                refine hK.out _ _ ⟨cell_on hm'.bel x_s.c0, cell_on hm'.bel x_s.c1, cell_on hm'.bel x_s.c2, cell_on hm'.bel x_s.c3, cell_on hm'.bel x_s.c4, cell_on hm'.bel x_s.c5, also BB hm'.bel⟩ ?_
                rw [HINV.out]
                exact ⟨bD, upd eD 0 true, upd pD 0 wr.heap.size, RD, AD, uD, upd vD 0 (.pointer (some ⟨wr.heap.size, 0, none⟩)), fuel_SpSb_e0 hf hei, rfl, rfl, ch0, ch1, hm'⟩
              · skip
                exact absurd ⟨hdep _ rfl 1 _ rfl rfl, hdep _ rfl 0 _ rfl rfl⟩ hall
        rw [HQQ.out]
        rintro e act Y2 ⟨rfl, pmb0, rfl, x_a, x_b, x_c, x_s, x_m, x_n, BB, z_Y2, z_Y2_pmb0⟩
        clear HQQ QQ
        try dsimp only
        go_wp2
        have dd1 : Below Y2.heap.size Y2 Y2.drew := (Below.refl _ _).drew
        have zdd1 := dd1.size
        replace BB := also BB dd1
        replace x_a := x_a.on dd1
        replace x_b := x_b.on dd1
        replace x_c := x_c.on dd1
        replace x_s := x_s.on dd1
        replace x_m := x_m.on dd1
        replace x_n := x_n.on dd1
        refine wp_region_held_drew (S := (fun w' => w'.cell? ⟨pma0, 0, none⟩ = some (.int .u64 m0) ∧ w'.cell? ⟨pma0, 1, none⟩ = some (.int .u64 m1) ∧ w'.cell? ⟨pma0, 2, none⟩ = some (.int .u64 m2) ∧ w'.cell? ⟨pma0, 3, none⟩ = some (.int .u64 m3) ∧ w'.cell? ⟨pmb0, 0, none⟩ = some (.int .i64 kh) ∧ w'.cell? ⟨pmb0, 1, none⟩ = some (.int .u64 kl) ∧ Below w.heap.size w w')) (by kernel_rfl) ?_ (fun hHeld => ?_)
        · exact ⟨x_m.c0, x_m.c1, x_m.c2, x_m.c3, x_n.c0, x_n.c1, BB⟩
        refine take_yes (i := 0) (v := ?vs0) rfl (by kernel_rfl) (by kernel_rfl) (by kernel_rfl) (fun _ _ _ h => h) (by rfl) (by assumption) ?hys0 ?rests0
        case hys0 => (intro w hSw; (try dsimp only at hSw); first | (go_simp; done) | (go_simp; with_reducible rfl))
        simp only [Act.put, List.setIfInBounds_toArray, List.set_cons_zero, List.set_cons_succ]
        refine take_yes (i := 1) (v := ?vs1) rfl (by kernel_rfl) (by kernel_rfl) (by kernel_rfl) (fun _ _ _ h => h) (by rfl) (by assumption) ?hys1 ?rests1
        case hys1 => (intro w hSw; (try dsimp only at hSw); first | (go_simp; done) | (go_simp; with_reducible rfl))
        simp only [Act.put, List.setIfInBounds_toArray, List.set_cons_zero, List.set_cons_succ]
        refine take_yes (i := 2) (v := ?vs2) rfl (by kernel_rfl) (by kernel_rfl) (by kernel_rfl) (fun _ _ _ h => h) (by rfl) (by assumption) ?hys2 ?rests2
        case hys2 => (intro w hSw; (try dsimp only at hSw); first | (go_simp; done) | (go_simp; with_reducible rfl))
        simp only [Act.put, List.setIfInBounds_toArray, List.set_cons_zero, List.set_cons_succ]
        refine take_call (i := 3) rfl (by kernel_rfl) (fun Kc hK => ?_)
        go_simp
        (go_at_call 34; refine (xMul _ _ Hkh.out Hkl.out Hkh.out Hkl.out RGS RGS Hz.out _).mono ?_; rintro e w3 ⟨rfl, bw3⟩)
        refine hK.out _ _ ?_ (fun hHeld => ?_)
        · exact ⟨cell_on bw3 hHeld.1, cell_on bw3 hHeld.2.1, cell_on bw3 hHeld.2.2.1, cell_on bw3 hHeld.2.2.2.1, cell_on bw3 hHeld.2.2.2.2.1, cell_on bw3 hHeld.2.2.2.2.2.1, also hHeld.2.2.2.2.2.2 bw3⟩
        clear hK Kc
        have zbw3 := bw3.size
        replace BB := also BB bw3
        replace x_a := x_a.on bw3
        replace x_b := x_b.on bw3
        replace x_c := x_c.on bw3
        replace x_s := x_s.on bw3
        replace x_m := x_m.on bw3
        replace x_n := x_n.on bw3
        refine take_call (i := 4) rfl (by kernel_rfl) (fun Kc hK => ?_)
        go_simp
        (go_at_call 44; refine (xCmp _ _ Hm.out Hz.out RD RE Hg.out _).mono ?_; rintro e w4 ⟨rfl, bw4⟩)
        refine hK.out _ _ ?_ (fun hHeld => ?_)
        · exact ⟨cell_on bw4 hHeld.1, cell_on bw4 hHeld.2.1, cell_on bw4 hHeld.2.2.1, cell_on bw4 hHeld.2.2.2.1, cell_on bw4 hHeld.2.2.2.2.1, cell_on bw4 hHeld.2.2.2.2.2.1, also hHeld.2.2.2.2.2.2 bw4⟩
        clear hK Kc
        have zbw4 := bw4.size
        replace BB := also BB bw4
        replace x_a := x_a.on bw4
        replace x_b := x_b.on bw4
        replace x_c := x_c.on bw4
        replace x_s := x_s.on bw4
        replace x_m := x_m.on bw4
        replace x_n := x_n.on bw4
        refine take_yes (i := 5) (v := ?vs5) rfl (by kernel_rfl) (by kernel_rfl) (by kernel_rfl) (fun _ _ _ h => h) (by rfl) (by assumption) ?hys5 ?rests5
        case hys5 => (intro w hSw; (try dsimp only at hSw); first | (go_simp; done) | (go_simp; with_reducible rfl))
        simp only [Act.put, List.setIfInBounds_toArray, List.set_cons_zero, List.set_cons_succ]
        refine take_yes (i := 6) (v := ?vs6) rfl (by kernel_rfl) (by kernel_rfl) (by kernel_rfl) (fun _ _ _ h => h) (by rfl) (by assumption) ?hys6 ?rests6
        case hys6 => (intro w hSw; (try dsimp only at hSw); first | (go_simp; done) | (go_simp; with_reducible rfl))
        simp only [Act.put, List.setIfInBounds_toArray, List.set_cons_zero, List.set_cons_succ]
        refine wpAnyH_done (by kernel_rfl) ?_ _
        go_wp2
        go_ret
        exact ⟨by rw [HZ.out]; rfl, BB⟩
theorem sml : SmlSpec := fun a1 a2 b1 b2 c1 c2 sd w Ra Rb Rc Rs r hr => cSmall a1 a2 b1 b2 c1 c2 sd w Ra Rb Rc Rs hr
end Go.Proofs.YtcaihoomcdbfnaaGreat
