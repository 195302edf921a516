/-
  What package quad's product answers, as words.
-/
import Derived.Test.YtjlndalcaepofaaQuadD
namespace Go.Proofs.Ytjlndalcaepofaa
open Go.RowKit
set_option linter.unusedVariables false

/-- Two wides in their boxes, the answer's place, and a product in a block of its own. -/
structure MulSt (w : World) (a b P : Int) (p : Nat) (w' : World) : Prop where
  ra : Row w' w.heap.size [.int .i64 (hi a), .int .u64 (lo a)]
  rb : Row w' (w.heap.size + 1) [.int .i64 (hi b), .int .u64 (lo b)]
  rz : Row w' (w.heap.size + 1 + 1) [.int .u64 0, .int .u64 0, .int .u64 0, .int .u64 0]
  rp : Row w' p [.int .u64 (q.dg P 0), .int .u64 (q.dg P 1), .int .u64 (q.dg P 2), .int .u64 (q.dg P 3)]
  bel : Below w.heap.size w w'
  sp : w.heap.size + 1 + 1 < p
  size : p < w'.heap.size
theorem mulSt_start (w w1 : World) (a b P : Int) (t t' : TypeId) (hb : Below (((w.alloc (.cells #[.int .i64 (hi a), .int .u64 (lo a)] t)).alloc (.cells #[.int .i64 (hi b), .int .u64 (lo b)] t)).alloc (.cells #[.int .u64 0, .int .u64 0, .int .u64 0, .int .u64 0] t')).heap.size
    (((w.alloc (.cells #[.int .i64 (hi a), .int .u64 (lo a)] t)).alloc (.cells #[.int .i64 (hi b), .int .u64 (lo b)] t)).alloc (.cells #[.int .u64 0, .int .u64 0, .int .u64 0, .int .u64 0] t')) w1) :
    MulSt w a b P w1.heap.size (w1.alloc (.cells #[.int .u64 (q.dg P 0), .int .u64 (q.dg P 1), .int .u64 (q.dg P 2), .int .u64 (q.dg P 3)] t')) := by
  have hs := hb.size
  simp only [World.size_alloc] at hs
  have h0 := ((Row.new w [.int .i64 (hi a), .int .u64 (lo a)] t).alloc (.cells #[.int .i64 (hi b), .int .u64 (lo b)] t) (by simp <;> omega)).alloc (.cells #[.int .u64 0, .int .u64 0, .int .u64 0, .int .u64 0] t') (by simp <;> omega)
  have h1 := (Row.new (w.alloc (.cells #[.int .i64 (hi a), .int .u64 (lo a)] t)) [.int .i64 (hi b), .int .u64 (lo b)] t).alloc (.cells #[.int .u64 0, .int .u64 0, .int .u64 0, .int .u64 0] t') (by simp <;> omega)
  have h2 := Row.new ((w.alloc (.cells #[.int .i64 (hi a), .int .u64 (lo a)] t)).alloc (.cells #[.int .i64 (hi b), .int .u64 (lo b)] t)) [.int .u64 0, .int .u64 0, .int .u64 0, .int .u64 0] t'
  simp only [World.size_alloc] at h1 h2
  refine ⟨(h0.below hb (by simp <;> omega)).alloc _ (by omega), (h1.below hb (by simp <;> omega)).alloc _ (by omega), (h2.below hb (by simp <;> omega)).alloc _ (by omega), Row.new w1 [.int .u64 (q.dg P 0), .int .u64 (q.dg P 1), .int .u64 (q.dg P 2), .int .u64 (q.dg P 3)] t', ?_, by omega, by simp⟩
  exact (((((Below.refl _ _).alloc (Nat.le_refl _) _).alloc (by simp <;> omega) _).alloc (by simp <;> omega) _).trans (hb.mono (by simp <;> omega))).alloc (by omega) _
theorem MulSt.later {w w1 w2 : World} {a b P : Int} {p : Nat} (h : MulSt w a b P p w1) (hb : Below w1.heap.size w1 w2) : MulSt w a b P p w2 := by
  obtain ⟨ra, rb, rz, rp, bel, sp, size⟩ := h
  have := hb.size
  have := bel.size
  exact ⟨ra.below hb (by omega), rb.below hb (by omega), rz.below hb (by omega), rp.below hb (by omega), bel.trans (hb.mono (by omega)), sp, by omega⟩
theorem MulSt.set {w w1 : World} {a b P P' : Int} {p : Nat} (h : MulSt w a b P p w1) : MulSt w a b P' p ((((w1.setCell ⟨p, 0, none⟩ (.int .u64 (q.dg P' 0))).setCell ⟨p, 1, none⟩ (.int .u64 (q.dg P' 1))).setCell ⟨p, 2, none⟩ (.int .u64 (q.dg P' 2))).setCell ⟨p, 3, none⟩ (.int .u64 (q.dg P' 3))) := by
  obtain ⟨ra, rb, rz, rp, bel, sp, size⟩ := h
  refine ⟨(((ra.other _ (by omega)).other _ (by omega)).other _ (by omega)).other _ (by omega), (((rb.other _ (by omega)).other _ (by omega)).other _ (by omega)).other _ (by omega), (((rz.other _ (by omega)).other _ (by omega)).other _ (by omega)).other _ (by omega), ?_, ?_, sp, by simpa using size⟩
  · exact ((((rp.set 0 _ (by simp)).set 1 _ (by simp)).set 2 _ (by simp)).set 3 _ (by simp))
  · exact (((bel.setCell (by show _ ≤ p; omega) _).setCell (by show _ ≤ p; omega) _).setCell (by show _ ≤ p; omega) _).setCell (by show _ ≤ p; omega) _
theorem MulSt.drew {w w1 : World} {a b P : Int} {p : Nat} (h : MulSt w a b P p w1) : MulSt w a b P p w1.drew := ⟨h.ra, h.rb, h.rz, h.rp, h.bel.drew, h.sp, h.size⟩
theorem MulSt.is {w w1 : World} {a b P P' : Int} {p : Nat} (h : MulSt w a b P p w1) (e : q.dg P 0 = q.dg P' 0 ∧ q.dg P 1 = q.dg P' 1 ∧ q.dg P 2 = q.dg P' 2 ∧ q.dg P 3 = q.dg P' 3) : MulSt w a b P' p w1 := by
  obtain ⟨ra, rb, rz, rp, bel, sp, size⟩ := h
  rw [e.1, e.2.1, e.2.2.1, e.2.2.2] at rp
  exact ⟨ra, rb, rz, rp, bel, sp, size⟩
theorem row2 {w : World} {b : Nat} {v0 v1 : Value} (h : Row w b [v0, v1]) : w.cell? ⟨b, 0, none⟩ = some v0 ∧ w.cell? ⟨b, 1, none⟩ = some v1 := ⟨h.cell 0 _ rfl, h.cell 1 _ rfl⟩
/-- The same number, modulo 2^256: the same words. -/
theorem qcongr {u v : Int} (t : Int) (h : u = v + t * 115792089237316195423570985008687907853269984665640564039457584007913129639936) : q.dg u 0 = q.dg v 0 ∧ q.dg u 1 = q.dg v 1 ∧ q.dg u 2 = q.dg v 2 ∧ q.dg u 3 = q.dg v 3 := by
  have e : (115792089237316195423570985008687907853269984665640564039457584007913129639936 : Int) = 18446744073709551616 ^ 4 := by decide
  rw [e] at h
  exact ⟨q.dg_congr t h (by decide), q.dg_congr t h (by decide), q.dg_congr t h (by decide), q.dg_congr t h (by decide)⟩
theorem hi_neg (a : Int) (h0 : -170141183460469231731687303715884105728 ≤ a) (h1 : a < 0) : hi a < 0 := by unfold hi; omega
theorem hi_pos (a : Int) (h0 : 0 ≤ a) (h1 : a < 170141183460469231731687303715884105728) : ¬ hi a < 0 := by unfold hi; omega
theorem mod_neg (a : Int) (h0 : -170141183460469231731687303715884105728 ≤ a) (h1 : a < 0) : a % 340282366920938463463374607431768211456 = a + 340282366920938463463374607431768211456 := by omega
theorem mod_pos (a : Int) (h0 : 0 ≤ a) (h1 : a < 170141183460469231731687303715884105728) : a % 340282366920938463463374607431768211456 = a := by omega
theorem mul_nn (a b : Int) : (a + 340282366920938463463374607431768211456) * (b + 340282366920938463463374607431768211456) - b * 340282366920938463463374607431768211456 - a * 340282366920938463463374607431768211456 = a * b + 1 * 115792089237316195423570985008687907853269984665640564039457584007913129639936 := by
  rw [Int.add_mul, Int.mul_add, Int.mul_add]; omega
theorem mul_np (a b : Int) : (a + 340282366920938463463374607431768211456) * b - b * 340282366920938463463374607431768211456 = a * b := by
  rw [Int.add_mul]; omega
theorem mul_pn (a b : Int) : a * (b + 340282366920938463463374607431768211456) - a * 340282366920938463463374607431768211456 = a * b := by
  rw [Int.mul_add]; omega

set_option maxHeartbeats 4000000 in
theorem qmul_nn (a b : Int) (a0 : -170141183460469231731687303715884105728 ≤ a) (a1 : a < 170141183460469231731687303715884105728) (b0 : -170141183460469231731687303715884105728 ≤ b) (b1 : b < 170141183460469231731687303715884105728) (ha : a < 0) (hb : b < 0) (w : World) :
    Calls Try.prog 19 #[.agg #[.int .i64 (hi a), .int .u64 (lo a)], .agg #[.int .i64 (hi b), .int .u64 (lo b)]] w fun e w' => e = .returned (.agg #[.int .u64 (q.dg (a * b) 0), .int .u64 (q.dg (a * b) 1), .int .u64 (q.dg (a * b) 2), .int .u64 (q.dg (a * b) 3)]) ∧ Below w.heap.size w w' := by
  have sa := hi_neg a a0 ha
  have sb := hi_neg b b0 hb
  obtain ⟨P, hP⟩ : ∃ P, a % 340282366920938463463374607431768211456 * (b % 340282366920938463463374607431768211456) = P := ⟨_, rfl⟩
  have FIN : Hid (P - b * 340282366920938463463374607431768211456 - a * 340282366920938463463374607431768211456 = a * b + 1 * 115792089237316195423570985008687907853269984665640564039457584007913129639936) := by
    unfold Hid
    rw [← hP, mod_neg a a0 ha, mod_neg b b0 hb]
    exact mul_nn a b
  clear a0 a1 b0 b1 ha hb
  go_enter Try.func19, Try.ntmps19
  go_wp2_with (go_at_call 32; refine (mulWords_any a b rfl rfl rfl rfl _).mono ?_; rw [hP]; rintro e w1 ⟨rfl, hw1⟩; have HS := mulSt_start w w1 a b P _ _ hw1; have ⟨x0, x1⟩ := row2 HS.ra; have ⟨y0, y1⟩ := row2 HS.rb; have ⟨p0, p1, p2, p3, pf0, pf1, pf2, pf3⟩ := row4 HS.rp; have ⟨z0, z1, z2, z3, zf0, zf1, zf2, zf3⟩ := row4 HS.rz; skip)
  generalize w1.alloc (.cells #[.int .u64 (q.dg P 0), .int .u64 (q.dg P 1), .int .u64 (q.dg P 2), .int .u64 (q.dg P 3)] _) = W0 at *
  clear hw1
  generalize w1.heap.size = p at *
  go_region_with (first
    | (go_at_call 33; refine (upper_any b rfl rfl _).mono ?_; rintro e w2 ⟨rfl, hw2⟩; have HS := HS.drew.later hw2; have ⟨x0, x1⟩ := row2 HS.ra; have ⟨y0, y1⟩ := row2 HS.rb; have ⟨p0, p1, p2, p3, pf0, pf1, pf2, pf3⟩ := row4 HS.rp; have ⟨z0, z1, z2, z3, zf0, zf1, zf2, zf3⟩ := row4 HS.rz)
    | (go_at_call 13; refine (qsub_any (P) (b * 340282366920938463463374607431768211456) (wd_self _) (wd_self _) _).mono ?_; rintro e w3 ⟨rfl, hw3⟩; have HS := HS.later hw3; have ⟨x0, x1⟩ := row2 HS.ra; have ⟨y0, y1⟩ := row2 HS.rb; have ⟨p0, p1, p2, p3, pf0, pf1, pf2, pf3⟩ := row4 HS.rp; have ⟨z0, z1, z2, z3, zf0, zf1, zf2, zf3⟩ := row4 HS.rz))
  all_goals
    have HT := HS.set (P' := P - b * 340282366920938463463374607431768211456)
    generalize ((((w3.setCell ⟨p, 0, none⟩ (.int .u64 (q.dg (P - b * 340282366920938463463374607431768211456) 0))).setCell ⟨p, 1, none⟩ (.int .u64 (q.dg (P - b * 340282366920938463463374607431768211456) 1))).setCell ⟨p, 2, none⟩ (.int .u64 (q.dg (P - b * 340282366920938463463374607431768211456) 2))).setCell ⟨p, 3, none⟩ (.int .u64 (q.dg (P - b * 340282366920938463463374607431768211456) 3))) = W1 at *
    clear x0 x1 y0 y1 p0 p1 p2 p3 pf0 pf1 pf2 pf3 z0 z1 z2 z3 zf0 zf1 zf2 zf3
    clear HS
    have HS := HT
    clear HT
    have ⟨x0, x1⟩ := row2 HS.ra
    have ⟨y0, y1⟩ := row2 HS.rb
    have ⟨p0, p1, p2, p3, pf0, pf1, pf2, pf3⟩ := row4 HS.rp
    have ⟨z0, z1, z2, z3, zf0, zf1, zf2, zf3⟩ := row4 HS.rz
    go_wp2
    go_region_with (first
      | (go_at_call 33; refine (upper_any a rfl rfl _).mono ?_; rintro e w2 ⟨rfl, hw2⟩; have HS := HS.drew.later hw2; have ⟨x0, x1⟩ := row2 HS.ra; have ⟨y0, y1⟩ := row2 HS.rb; have ⟨p0, p1, p2, p3, pf0, pf1, pf2, pf3⟩ := row4 HS.rp; have ⟨z0, z1, z2, z3, zf0, zf1, zf2, zf3⟩ := row4 HS.rz)
      | (go_at_call 13; refine (qsub_any (P - b * 340282366920938463463374607431768211456) (a * 340282366920938463463374607431768211456) (wd_self _) (wd_self _) _).mono ?_; rintro e w3 ⟨rfl, hw3⟩; have HS := HS.later hw3; have ⟨x0, x1⟩ := row2 HS.ra; have ⟨y0, y1⟩ := row2 HS.rb; have ⟨p0, p1, p2, p3, pf0, pf1, pf2, pf3⟩ := row4 HS.rp; have ⟨z0, z1, z2, z3, zf0, zf1, zf2, zf3⟩ := row4 HS.rz))
    all_goals
      have HT := HS.set (P' := P - b * 340282366920938463463374607431768211456 - a * 340282366920938463463374607431768211456)
      have HT := HT.is (qcongr 1 FIN.out)
      generalize ((((w3.setCell ⟨p, 0, none⟩ (.int .u64 (q.dg (P - b * 340282366920938463463374607431768211456 - a * 340282366920938463463374607431768211456) 0))).setCell ⟨p, 1, none⟩ (.int .u64 (q.dg (P - b * 340282366920938463463374607431768211456 - a * 340282366920938463463374607431768211456) 1))).setCell ⟨p, 2, none⟩ (.int .u64 (q.dg (P - b * 340282366920938463463374607431768211456 - a * 340282366920938463463374607431768211456) 2))).setCell ⟨p, 3, none⟩ (.int .u64 (q.dg (P - b * 340282366920938463463374607431768211456 - a * 340282366920938463463374607431768211456) 3))) = W2 at *
      clear x0 x1 y0 y1 p0 p1 p2 p3 pf0 pf1 pf2 pf3 z0 z1 z2 z3 zf0 zf1 zf2 zf3
      clear HS
      have HS := HT
      clear HT
      have ⟨x0, x1⟩ := row2 HS.ra
      have ⟨y0, y1⟩ := row2 HS.rb
      have ⟨p0, p1, p2, p3, pf0, pf1, pf2, pf3⟩ := row4 HS.rp
      have ⟨z0, z1, z2, z3, zf0, zf1, zf2, zf3⟩ := row4 HS.rz
      go_wp2
      refine bodyPost_ret (v := .agg #[.int .u64 (q.dg (a * b) 0), .int .u64 (q.dg (a * b) 1), .int .u64 (q.dg (a * b) 2), .int .u64 (q.dg (a * b) 3)]) (by simp [results, Try.results19, go_sem, *]) rfl ⟨rfl, ?_⟩
      exact (((HS.bel.setCell (by show _ ≤ w.heap.size + 1 + 1; omega) _).setCell (by show _ ≤ w.heap.size + 1 + 1; omega) _).setCell (by show _ ≤ w.heap.size + 1 + 1; omega) _).setCell (by show _ ≤ w.heap.size + 1 + 1; omega) _
set_option maxHeartbeats 4000000 in
theorem qmul_np (a b : Int) (a0 : -170141183460469231731687303715884105728 ≤ a) (a1 : a < 170141183460469231731687303715884105728) (b0 : -170141183460469231731687303715884105728 ≤ b) (b1 : b < 170141183460469231731687303715884105728) (ha : a < 0) (hb : 0 ≤ b) (w : World) :
    Calls Try.prog 19 #[.agg #[.int .i64 (hi a), .int .u64 (lo a)], .agg #[.int .i64 (hi b), .int .u64 (lo b)]] w fun e w' => e = .returned (.agg #[.int .u64 (q.dg (a * b) 0), .int .u64 (q.dg (a * b) 1), .int .u64 (q.dg (a * b) 2), .int .u64 (q.dg (a * b) 3)]) ∧ Below w.heap.size w w' := by
  have sa := hi_neg a a0 ha
  have sb := hi_pos b hb b1
  obtain ⟨P, hP⟩ : ∃ P, a % 340282366920938463463374607431768211456 * (b % 340282366920938463463374607431768211456) = P := ⟨_, rfl⟩
  have FIN : Hid (P - b * 340282366920938463463374607431768211456 = a * b + 0 * 115792089237316195423570985008687907853269984665640564039457584007913129639936) := by
    unfold Hid
    rw [← hP, mod_neg a a0 ha, mod_pos b hb b1]
    rw [mul_np]; omega
  clear a0 a1 b0 b1 ha hb
  go_enter Try.func19, Try.ntmps19
  go_wp2_with (go_at_call 32; refine (mulWords_any a b rfl rfl rfl rfl _).mono ?_; rw [hP]; rintro e w1 ⟨rfl, hw1⟩; have HS := mulSt_start w w1 a b P _ _ hw1; have ⟨x0, x1⟩ := row2 HS.ra; have ⟨y0, y1⟩ := row2 HS.rb; have ⟨p0, p1, p2, p3, pf0, pf1, pf2, pf3⟩ := row4 HS.rp; have ⟨z0, z1, z2, z3, zf0, zf1, zf2, zf3⟩ := row4 HS.rz; skip)
  generalize w1.alloc (.cells #[.int .u64 (q.dg P 0), .int .u64 (q.dg P 1), .int .u64 (q.dg P 2), .int .u64 (q.dg P 3)] _) = W0 at *
  clear hw1
  generalize w1.heap.size = p at *
  go_region_with (first
    | (go_at_call 33; refine (upper_any b rfl rfl _).mono ?_; rintro e w2 ⟨rfl, hw2⟩; have HS := HS.drew.later hw2; have ⟨x0, x1⟩ := row2 HS.ra; have ⟨y0, y1⟩ := row2 HS.rb; have ⟨p0, p1, p2, p3, pf0, pf1, pf2, pf3⟩ := row4 HS.rp; have ⟨z0, z1, z2, z3, zf0, zf1, zf2, zf3⟩ := row4 HS.rz)
    | (go_at_call 13; refine (qsub_any (P) (b * 340282366920938463463374607431768211456) (wd_self _) (wd_self _) _).mono ?_; rintro e w3 ⟨rfl, hw3⟩; have HS := HS.later hw3; have ⟨x0, x1⟩ := row2 HS.ra; have ⟨y0, y1⟩ := row2 HS.rb; have ⟨p0, p1, p2, p3, pf0, pf1, pf2, pf3⟩ := row4 HS.rp; have ⟨z0, z1, z2, z3, zf0, zf1, zf2, zf3⟩ := row4 HS.rz))
  all_goals
    have HT := HS.set (P' := P - b * 340282366920938463463374607431768211456)
    have HT := HT.is (qcongr 0 FIN.out)
    generalize ((((w3.setCell ⟨p, 0, none⟩ (.int .u64 (q.dg (P - b * 340282366920938463463374607431768211456) 0))).setCell ⟨p, 1, none⟩ (.int .u64 (q.dg (P - b * 340282366920938463463374607431768211456) 1))).setCell ⟨p, 2, none⟩ (.int .u64 (q.dg (P - b * 340282366920938463463374607431768211456) 2))).setCell ⟨p, 3, none⟩ (.int .u64 (q.dg (P - b * 340282366920938463463374607431768211456) 3))) = W1 at *
    clear x0 x1 y0 y1 p0 p1 p2 p3 pf0 pf1 pf2 pf3 z0 z1 z2 z3 zf0 zf1 zf2 zf3
    clear HS
    have HS := HT
    clear HT
    have ⟨x0, x1⟩ := row2 HS.ra
    have ⟨y0, y1⟩ := row2 HS.rb
    have ⟨p0, p1, p2, p3, pf0, pf1, pf2, pf3⟩ := row4 HS.rp
    have ⟨z0, z1, z2, z3, zf0, zf1, zf2, zf3⟩ := row4 HS.rz
    go_wp2
    refine bodyPost_ret (v := .agg #[.int .u64 (q.dg (a * b) 0), .int .u64 (q.dg (a * b) 1), .int .u64 (q.dg (a * b) 2), .int .u64 (q.dg (a * b) 3)]) (by simp [results, Try.results19, go_sem, *]) rfl ⟨rfl, ?_⟩
    exact (((HS.bel.setCell (by show _ ≤ w.heap.size + 1 + 1; omega) _).setCell (by show _ ≤ w.heap.size + 1 + 1; omega) _).setCell (by show _ ≤ w.heap.size + 1 + 1; omega) _).setCell (by show _ ≤ w.heap.size + 1 + 1; omega) _
set_option maxHeartbeats 4000000 in
theorem qmul_pn (a b : Int) (a0 : -170141183460469231731687303715884105728 ≤ a) (a1 : a < 170141183460469231731687303715884105728) (b0 : -170141183460469231731687303715884105728 ≤ b) (b1 : b < 170141183460469231731687303715884105728) (ha : 0 ≤ a) (hb : b < 0) (w : World) :
    Calls Try.prog 19 #[.agg #[.int .i64 (hi a), .int .u64 (lo a)], .agg #[.int .i64 (hi b), .int .u64 (lo b)]] w fun e w' => e = .returned (.agg #[.int .u64 (q.dg (a * b) 0), .int .u64 (q.dg (a * b) 1), .int .u64 (q.dg (a * b) 2), .int .u64 (q.dg (a * b) 3)]) ∧ Below w.heap.size w w' := by
  have sa := hi_pos a ha a1
  have sb := hi_neg b b0 hb
  obtain ⟨P, hP⟩ : ∃ P, a % 340282366920938463463374607431768211456 * (b % 340282366920938463463374607431768211456) = P := ⟨_, rfl⟩
  have FIN : Hid (P - a * 340282366920938463463374607431768211456 = a * b + 0 * 115792089237316195423570985008687907853269984665640564039457584007913129639936) := by
    unfold Hid
    rw [← hP, mod_pos a ha a1, mod_neg b b0 hb]
    rw [mul_pn]; omega
  clear a0 a1 b0 b1 ha hb
  go_enter Try.func19, Try.ntmps19
  go_wp2_with (go_at_call 32; refine (mulWords_any a b rfl rfl rfl rfl _).mono ?_; rw [hP]; rintro e w1 ⟨rfl, hw1⟩; have HS := mulSt_start w w1 a b P _ _ hw1; have ⟨x0, x1⟩ := row2 HS.ra; have ⟨y0, y1⟩ := row2 HS.rb; have ⟨p0, p1, p2, p3, pf0, pf1, pf2, pf3⟩ := row4 HS.rp; have ⟨z0, z1, z2, z3, zf0, zf1, zf2, zf3⟩ := row4 HS.rz; skip)
  generalize w1.alloc (.cells #[.int .u64 (q.dg P 0), .int .u64 (q.dg P 1), .int .u64 (q.dg P 2), .int .u64 (q.dg P 3)] _) = W0 at *
  clear hw1
  generalize w1.heap.size = p at *
  go_region_with (first
    | (go_at_call 33; refine (upper_any a rfl rfl _).mono ?_; rintro e w2 ⟨rfl, hw2⟩; have HS := HS.drew.later hw2; have ⟨x0, x1⟩ := row2 HS.ra; have ⟨y0, y1⟩ := row2 HS.rb; have ⟨p0, p1, p2, p3, pf0, pf1, pf2, pf3⟩ := row4 HS.rp; have ⟨z0, z1, z2, z3, zf0, zf1, zf2, zf3⟩ := row4 HS.rz)
    | (go_at_call 13; refine (qsub_any (P) (a * 340282366920938463463374607431768211456) (wd_self _) (wd_self _) _).mono ?_; rintro e w3 ⟨rfl, hw3⟩; have HS := HS.later hw3; have ⟨x0, x1⟩ := row2 HS.ra; have ⟨y0, y1⟩ := row2 HS.rb; have ⟨p0, p1, p2, p3, pf0, pf1, pf2, pf3⟩ := row4 HS.rp; have ⟨z0, z1, z2, z3, zf0, zf1, zf2, zf3⟩ := row4 HS.rz))
  all_goals
    have HT := HS.set (P' := P - a * 340282366920938463463374607431768211456)
    have HT := HT.is (qcongr 0 FIN.out)
    generalize ((((w3.setCell ⟨p, 0, none⟩ (.int .u64 (q.dg (P - a * 340282366920938463463374607431768211456) 0))).setCell ⟨p, 1, none⟩ (.int .u64 (q.dg (P - a * 340282366920938463463374607431768211456) 1))).setCell ⟨p, 2, none⟩ (.int .u64 (q.dg (P - a * 340282366920938463463374607431768211456) 2))).setCell ⟨p, 3, none⟩ (.int .u64 (q.dg (P - a * 340282366920938463463374607431768211456) 3))) = W1 at *
    clear x0 x1 y0 y1 p0 p1 p2 p3 pf0 pf1 pf2 pf3 z0 z1 z2 z3 zf0 zf1 zf2 zf3
    clear HS
    have HS := HT
    clear HT
    have ⟨x0, x1⟩ := row2 HS.ra
    have ⟨y0, y1⟩ := row2 HS.rb
    have ⟨p0, p1, p2, p3, pf0, pf1, pf2, pf3⟩ := row4 HS.rp
    have ⟨z0, z1, z2, z3, zf0, zf1, zf2, zf3⟩ := row4 HS.rz
    go_wp2
    refine bodyPost_ret (v := .agg #[.int .u64 (q.dg (a * b) 0), .int .u64 (q.dg (a * b) 1), .int .u64 (q.dg (a * b) 2), .int .u64 (q.dg (a * b) 3)]) (by simp [results, Try.results19, go_sem, *]) rfl ⟨rfl, ?_⟩
    exact (((HS.bel.setCell (by show _ ≤ w.heap.size + 1 + 1; omega) _).setCell (by show _ ≤ w.heap.size + 1 + 1; omega) _).setCell (by show _ ≤ w.heap.size + 1 + 1; omega) _).setCell (by show _ ≤ w.heap.size + 1 + 1; omega) _
set_option maxHeartbeats 4000000 in
theorem qmul_pp (a b : Int) (a0 : -170141183460469231731687303715884105728 ≤ a) (a1 : a < 170141183460469231731687303715884105728) (b0 : -170141183460469231731687303715884105728 ≤ b) (b1 : b < 170141183460469231731687303715884105728) (ha : 0 ≤ a) (hb : 0 ≤ b) (w : World) :
    Calls Try.prog 19 #[.agg #[.int .i64 (hi a), .int .u64 (lo a)], .agg #[.int .i64 (hi b), .int .u64 (lo b)]] w fun e w' => e = .returned (.agg #[.int .u64 (q.dg (a * b) 0), .int .u64 (q.dg (a * b) 1), .int .u64 (q.dg (a * b) 2), .int .u64 (q.dg (a * b) 3)]) ∧ Below w.heap.size w w' := by
  have sa := hi_pos a ha a1
  have sb := hi_pos b hb b1
  obtain ⟨P, hP⟩ : ∃ P, a % 340282366920938463463374607431768211456 * (b % 340282366920938463463374607431768211456) = P := ⟨_, rfl⟩
  have FIN : Hid (P = a * b + 0 * 115792089237316195423570985008687907853269984665640564039457584007913129639936) := by
    unfold Hid
    rw [← hP, mod_pos a ha a1, mod_pos b hb b1]
    omega
  clear a0 a1 b0 b1 ha hb
  go_enter Try.func19, Try.ntmps19
  have E4 := qcongr 0 FIN.out
  have E5 := ret_quad E4.1 E4.2.1 E4.2.2.1 E4.2.2.2
  rw [← E5]
  clear E4 E5
  go_wp2_with (go_at_call 32; refine (mulWords_any a b rfl rfl rfl rfl _).mono ?_; rw [hP]; rintro e w1 ⟨rfl, hw1⟩; have HS := mulSt_start w w1 a b P _ _ hw1; have ⟨x0, x1⟩ := row2 HS.ra; have ⟨y0, y1⟩ := row2 HS.rb; have ⟨p0, p1, p2, p3, pf0, pf1, pf2, pf3⟩ := row4 HS.rp; have ⟨z0, z1, z2, z3, zf0, zf1, zf2, zf3⟩ := row4 HS.rz; skip)
  refine bodyPost_ret (v := .agg #[.int .u64 (q.dg (P) 0), .int .u64 (q.dg (P) 1), .int .u64 (q.dg (P) 2), .int .u64 (q.dg (P) 3)]) (by simp [results, Try.results19, go_sem, *]) rfl ⟨rfl, ?_⟩
  exact (((HS.bel.setCell (by show _ ≤ w.heap.size + 1 + 1; omega) _).setCell (by show _ ≤ w.heap.size + 1 + 1; omega) _).setCell (by show _ ≤ w.heap.size + 1 + 1; omega) _).setCell (by show _ ≤ w.heap.size + 1 + 1; omega) _
theorem qmul_any {ah al bh bl : Int} (a b : Int) (ha : ah = hi a) (hal : al = lo a) (hb : bh = hi b) (hbl : bl = lo b) (a0 : -170141183460469231731687303715884105728 ≤ a) (a1 : a < 170141183460469231731687303715884105728) (b0 : -170141183460469231731687303715884105728 ≤ b) (b1 : b < 170141183460469231731687303715884105728) (w : World) :
    Calls Try.prog 19 #[.agg #[.int .i64 ah, .int .u64 al], .agg #[.int .i64 bh, .int .u64 bl]] w fun e w' => e = .returned (.agg #[.int .u64 (q.dg (a * b) 0), .int .u64 (q.dg (a * b) 1), .int .u64 (q.dg (a * b) 2), .int .u64 (q.dg (a * b) 3)]) ∧ Below w.heap.size w w' := by
  subst ha hal hb hbl
  rcases Int.lt_or_le a 0 with ha | ha <;> rcases Int.lt_or_le b 0 with hb | hb
  · exact qmul_nn a b a0 a1 b0 b1 ha hb w
  · exact qmul_np a b a0 a1 b0 b1 ha hb w
  · exact qmul_pn a b a0 a1 b0 b1 ha hb w
  · exact qmul_pp a b a0 a1 b0 b1 ha hb w
end Go.Proofs.Ytjlndalcaepofaa
