/-
  Joined texts, part 6:
  What package quad's product answers, as words.
  When two arrays of four words are equal.
  What package quad's sign, order and narrowing answer.
  What package pred's InCircle answers.
  What does away with what, as it is told: of points that may not be; which one of a list goes with an edge. It imports nothing of the program but what points can be.
-/
import Derived.Test.YtnemailhijkemaaP5
import Derived.ChangeKeysEq
import Derived.Test.YtnemailhijkemaaP3
import Derived.Test.YtnemailhijkemaaP4
import Derived.Test.YtnemailhijkemaaP2
namespace Go.Proofs.Ytnemailhijkemaa.lq
open Go.RowKit
set_option linter.unusedVariables false

/-- Two wides in their boxes, the answer's place, and a product in a block of its own. -/
structure MulSt (w : World) (a b P : Int) (p : Nat) (w' : World) : Prop where
  ra : Row w' w.heap.size [.int .i64 (hi a), .int .u64 (lo a)]
  rb : Row w' (w.heap.size + 1) [.int .i64 (hi b), .int .u64 (lo b)]
  rz : Row w' (w.heap.size + 1 + 1) [.int .u64 0, .int .u64 0, .int .u64 0, .int .u64 0]
  rp : Row w' p [.int .u64 (q.dg P 0), .int .u64 (q.dg P 1), .int .u64 (q.dg P 2), .int .u64 (q.dg P 3)]
  bel : Below w.heap.size w w'
  sp : w.heap.size + 1 + 1 < p
  size : p < w'.heap.size
theorem mulSt_start (w w1 : World) (a b P : Int) (t t' : TypeId) (hb : Below (((w.alloc (.cells #[.int .i64 (hi a), .int .u64 (lo a)] t)).alloc (.cells #[.int .i64 (hi b), .int .u64 (lo b)] t)).alloc (.cells #[.int .u64 0, .int .u64 0, .int .u64 0, .int .u64 0] t')).heap.size
    (((w.alloc (.cells #[.int .i64 (hi a), .int .u64 (lo a)] t)).alloc (.cells #[.int .i64 (hi b), .int .u64 (lo b)] t)).alloc (.cells #[.int .u64 0, .int .u64 0, .int .u64 0, .int .u64 0] t')) w1) :
    MulSt w a b P w1.heap.size (w1.alloc (.cells #[.int .u64 (q.dg P 0), .int .u64 (q.dg P 1), .int .u64 (q.dg P 2), .int .u64 (q.dg P 3)] t')) := by
  have hs := hb.size
  simp only [World.size_alloc] at hs
  have h0 := ((Row.new w [.int .i64 (hi a), .int .u64 (lo a)] t).alloc (.cells #[.int .i64 (hi b), .int .u64 (lo b)] t) (by simp <;> omega)).alloc (.cells #[.int .u64 0, .int .u64 0, .int .u64 0, .int .u64 0] t') (by simp <;> omega)
  have h1 := (Row.new (w.alloc (.cells #[.int .i64 (hi a), .int .u64 (lo a)] t)) [.int .i64 (hi b), .int .u64 (lo b)] t).alloc (.cells #[.int .u64 0, .int .u64 0, .int .u64 0, .int .u64 0] t') (by simp <;> omega)
  have h2 := Row.new ((w.alloc (.cells #[.int .i64 (hi a), .int .u64 (lo a)] t)).alloc (.cells #[.int .i64 (hi b), .int .u64 (lo b)] t)) [.int .u64 0, .int .u64 0, .int .u64 0, .int .u64 0] t'
  simp only [World.size_alloc] at h1 h2
  refine ⟨(h0.below hb (by simp <;> omega)).alloc _ (by omega), (h1.below hb (by simp <;> omega)).alloc _ (by omega), (h2.below hb (by simp <;> omega)).alloc _ (by omega), Row.new w1 [.int .u64 (q.dg P 0), .int .u64 (q.dg P 1), .int .u64 (q.dg P 2), .int .u64 (q.dg P 3)] t', ?_, by omega, by simp⟩
  exact (((((Below.refl _ _).alloc (Nat.le_refl _) _).alloc (by simp <;> omega) _).alloc (by simp <;> omega) _).trans (hb.mono (by simp <;> omega))).alloc (by omega) _
theorem MulSt.later {w w1 w2 : World} {a b P : Int} {p : Nat} (h : MulSt w a b P p w1) (hb : Below w1.heap.size w1 w2) : MulSt w a b P p w2 := by
  obtain ⟨ra, rb, rz, rp, bel, sp, size⟩ := h
  have := hb.size
  have := bel.size
  exact ⟨ra.below hb (by omega), rb.below hb (by omega), rz.below hb (by omega), rp.below hb (by omega), bel.trans (hb.mono (by omega)), sp, by omega⟩
theorem MulSt.set {w w1 : World} {a b P P' : Int} {p : Nat} (h : MulSt w a b P p w1) : MulSt w a b P' p ((((w1.setCell ⟨p, 0, none⟩ (.int .u64 (q.dg P' 0))).setCell ⟨p, 1, none⟩ (.int .u64 (q.dg P' 1))).setCell ⟨p, 2, none⟩ (.int .u64 (q.dg P' 2))).setCell ⟨p, 3, none⟩ (.int .u64 (q.dg P' 3))) := by
  obtain ⟨ra, rb, rz, rp, bel, sp, size⟩ := h
  refine ⟨(((ra.other _ (by omega)).other _ (by omega)).other _ (by omega)).other _ (by omega), (((rb.other _ (by omega)).other _ (by omega)).other _ (by omega)).other _ (by omega), (((rz.other _ (by omega)).other _ (by omega)).other _ (by omega)).other _ (by omega), ?_, ?_, sp, by simpa using size⟩
  · exact ((((rp.set 0 _ (by simp)).set 1 _ (by simp)).set 2 _ (by simp)).set 3 _ (by simp))
  · exact (((bel.setCell (by show _ ≤ p; omega) _).setCell (by show _ ≤ p; omega) _).setCell (by show _ ≤ p; omega) _).setCell (by show _ ≤ p; omega) _
theorem MulSt.drew {w w1 : World} {a b P : Int} {p : Nat} (h : MulSt w a b P p w1) : MulSt w a b P p w1.drew := ⟨h.ra, h.rb, h.rz, h.rp, h.bel.drew, h.sp, h.size⟩
theorem MulSt.is {w w1 : World} {a b P P' : Int} {p : Nat} (h : MulSt w a b P p w1) (e : q.dg P 0 = q.dg P' 0 ∧ q.dg P 1 = q.dg P' 1 ∧ q.dg P 2 = q.dg P' 2 ∧ q.dg P 3 = q.dg P' 3) : MulSt w a b P' p w1 := by
  obtain ⟨ra, rb, rz, rp, bel, sp, size⟩ := h
  rw [e.1, e.2.1, e.2.2.1, e.2.2.2] at rp
  exact ⟨ra, rb, rz, rp, bel, sp, size⟩
theorem row2 {w : World} {b : Nat} {v0 v1 : Value} (h : Row w b [v0, v1]) : w.cell? ⟨b, 0, none⟩ = some v0 ∧ w.cell? ⟨b, 1, none⟩ = some v1 := ⟨h.cell 0 _ rfl, h.cell 1 _ rfl⟩
/-- The same number, modulo 2^256: the same words. -/
theorem qcongr {u v : Int} (t : Int) (h : u = v + t * 115792089237316195423570985008687907853269984665640564039457584007913129639936) : q.dg u 0 = q.dg v 0 ∧ q.dg u 1 = q.dg v 1 ∧ q.dg u 2 = q.dg v 2 ∧ q.dg u 3 = q.dg v 3 := by
  have e : (115792089237316195423570985008687907853269984665640564039457584007913129639936 : Int) = 18446744073709551616 ^ 4 := by decide
  rw [e] at h
  exact ⟨q.dg_congr t h (by decide), q.dg_congr t h (by decide), q.dg_congr t h (by decide), q.dg_congr t h (by decide)⟩
theorem hi_neg (a : Int) (h0 : -170141183460469231731687303715884105728 ≤ a) (h1 : a < 0) : hi a < 0 := by unfold hi; omega
theorem hi_pos (a : Int) (h0 : 0 ≤ a) (h1 : a < 170141183460469231731687303715884105728) : ¬ hi a < 0 := by unfold hi; omega
theorem mod_neg (a : Int) (h0 : -170141183460469231731687303715884105728 ≤ a) (h1 : a < 0) : a % 340282366920938463463374607431768211456 = a + 340282366920938463463374607431768211456 := by omega
theorem mod_pos (a : Int) (h0 : 0 ≤ a) (h1 : a < 170141183460469231731687303715884105728) : a % 340282366920938463463374607431768211456 = a := by omega
theorem mul_nn (a b : Int) : (a + 340282366920938463463374607431768211456) * (b + 340282366920938463463374607431768211456) - b * 340282366920938463463374607431768211456 - a * 340282366920938463463374607431768211456 = a * b + 1 * 115792089237316195423570985008687907853269984665640564039457584007913129639936 := by
  rw [Int.add_mul, Int.mul_add, Int.mul_add]; omega
theorem mul_np (a b : Int) : (a + 340282366920938463463374607431768211456) * b - b * 340282366920938463463374607431768211456 = a * b := by
  rw [Int.add_mul]; omega
theorem mul_pn (a b : Int) : a * (b + 340282366920938463463374607431768211456) - a * 340282366920938463463374607431768211456 = a * b := by
  rw [Int.mul_add]; omega

set_option maxHeartbeats 4000000 in
theorem qmul_nn (a b : Int) (a0 : -170141183460469231731687303715884105728 ≤ a) (a1 : a < 170141183460469231731687303715884105728) (b0 : -170141183460469231731687303715884105728 ≤ b) (b1 : b < 170141183460469231731687303715884105728) (ha : a < 0) (hb : b < 0) (w : World) :
    Calls Try.prog 32 #[.agg #[.int .i64 (hi a), .int .u64 (lo a)], .agg #[.int .i64 (hi b), .int .u64 (lo b)]] w fun e w' => e = .returned (.agg #[.int .u64 (q.dg (a * b) 0), .int .u64 (q.dg (a * b) 1), .int .u64 (q.dg (a * b) 2), .int .u64 (q.dg (a * b) 3)]) ∧ Below w.heap.size w w' := by
  have sa := hi_neg a a0 ha
  have sb := hi_neg b b0 hb
  obtain ⟨P, hP⟩ : ∃ P, a % 340282366920938463463374607431768211456 * (b % 340282366920938463463374607431768211456) = P := ⟨_, rfl⟩
  have FIN : Hid (P - b * 340282366920938463463374607431768211456 - a * 340282366920938463463374607431768211456 = a * b + 1 * 115792089237316195423570985008687907853269984665640564039457584007913129639936) := by
    unfold Hid
    rw [← hP, mod_neg a a0 ha, mod_neg b b0 hb]
    exact mul_nn a b
  clear a0 a1 b0 b1 ha hb
  go_enter Try.func32, Try.ntmps32
  go_wp2_with (go_at_call 48; refine (mulWords_any a b rfl rfl rfl rfl _).mono ?_; rw [hP]; rintro e w1 ⟨rfl, hw1⟩; have HS := mulSt_start w w1 a b P _ _ hw1; have ⟨x0, x1⟩ := row2 HS.ra; have ⟨y0, y1⟩ := row2 HS.rb; have ⟨p0, p1, p2, p3, pf0, pf1, pf2, pf3⟩ := row4 HS.rp; have ⟨z0, z1, z2, z3, zf0, zf1, zf2, zf3⟩ := row4 HS.rz; skip)
  generalize w1.alloc (.cells #[.int .u64 (q.dg P 0), .int .u64 (q.dg P 1), .int .u64 (q.dg P 2), .int .u64 (q.dg P 3)] _) = W0 at *
  clear hw1
  generalize w1.heap.size = p at *
  go_region_with (first
    | (go_at_call 50; refine (upper_any b rfl rfl _).mono ?_; rintro e w2 ⟨rfl, hw2⟩; have HS := HS.drew.later hw2; have ⟨x0, x1⟩ := row2 HS.ra; have ⟨y0, y1⟩ := row2 HS.rb; have ⟨p0, p1, p2, p3, pf0, pf1, pf2, pf3⟩ := row4 HS.rp; have ⟨z0, z1, z2, z3, zf0, zf1, zf2, zf3⟩ := row4 HS.rz)
    | (go_at_call 49; refine (qsub_any (P) (b * 340282366920938463463374607431768211456) (wd_self _) (wd_self _) _).mono ?_; rintro e w3 ⟨rfl, hw3⟩; have HS := HS.later hw3; have ⟨x0, x1⟩ := row2 HS.ra; have ⟨y0, y1⟩ := row2 HS.rb; have ⟨p0, p1, p2, p3, pf0, pf1, pf2, pf3⟩ := row4 HS.rp; have ⟨z0, z1, z2, z3, zf0, zf1, zf2, zf3⟩ := row4 HS.rz))
  all_goals
    have HT := HS.set (P' := P - b * 340282366920938463463374607431768211456)
    generalize ((((w3.setCell ⟨p, 0, none⟩ (.int .u64 (q.dg (P - b * 340282366920938463463374607431768211456) 0))).setCell ⟨p, 1, none⟩ (.int .u64 (q.dg (P - b * 340282366920938463463374607431768211456) 1))).setCell ⟨p, 2, none⟩ (.int .u64 (q.dg (P - b * 340282366920938463463374607431768211456) 2))).setCell ⟨p, 3, none⟩ (.int .u64 (q.dg (P - b * 340282366920938463463374607431768211456) 3))) = W1 at *
    clear x0 x1 y0 y1 p0 p1 p2 p3 pf0 pf1 pf2 pf3 z0 z1 z2 z3 zf0 zf1 zf2 zf3
    clear HS
    have HS := HT
    clear HT
    have ⟨x0, x1⟩ := row2 HS.ra
    have ⟨y0, y1⟩ := row2 HS.rb
    have ⟨p0, p1, p2, p3, pf0, pf1, pf2, pf3⟩ := row4 HS.rp
    have ⟨z0, z1, z2, z3, zf0, zf1, zf2, zf3⟩ := row4 HS.rz
    go_wp2
    go_region_with (first
      | (go_at_call 50; refine (upper_any a rfl rfl _).mono ?_; rintro e w2 ⟨rfl, hw2⟩; have HS := HS.drew.later hw2; have ⟨x0, x1⟩ := row2 HS.ra; have ⟨y0, y1⟩ := row2 HS.rb; have ⟨p0, p1, p2, p3, pf0, pf1, pf2, pf3⟩ := row4 HS.rp; have ⟨z0, z1, z2, z3, zf0, zf1, zf2, zf3⟩ := row4 HS.rz)
      | (go_at_call 49; refine (qsub_any (P - b * 340282366920938463463374607431768211456) (a * 340282366920938463463374607431768211456) (wd_self _) (wd_self _) _).mono ?_; rintro e w3 ⟨rfl, hw3⟩; have HS := HS.later hw3; have ⟨x0, x1⟩ := row2 HS.ra; have ⟨y0, y1⟩ := row2 HS.rb; have ⟨p0, p1, p2, p3, pf0, pf1, pf2, pf3⟩ := row4 HS.rp; have ⟨z0, z1, z2, z3, zf0, zf1, zf2, zf3⟩ := row4 HS.rz))
    all_goals
      have HT := HS.set (P' := P - b * 340282366920938463463374607431768211456 - a * 340282366920938463463374607431768211456)
      have HT := HT.is (qcongr 1 FIN.out)
      generalize ((((w3.setCell ⟨p, 0, none⟩ (.int .u64 (q.dg (P - b * 340282366920938463463374607431768211456 - a * 340282366920938463463374607431768211456) 0))).setCell ⟨p, 1, none⟩ (.int .u64 (q.dg (P - b * 340282366920938463463374607431768211456 - a * 340282366920938463463374607431768211456) 1))).setCell ⟨p, 2, none⟩ (.int .u64 (q.dg (P - b * 340282366920938463463374607431768211456 - a * 340282366920938463463374607431768211456) 2))).setCell ⟨p, 3, none⟩ (.int .u64 (q.dg (P - b * 340282366920938463463374607431768211456 - a * 340282366920938463463374607431768211456) 3))) = W2 at *
      clear x0 x1 y0 y1 p0 p1 p2 p3 pf0 pf1 pf2 pf3 z0 z1 z2 z3 zf0 zf1 zf2 zf3
      clear HS
      have HS := HT
      clear HT
      have ⟨x0, x1⟩ := row2 HS.ra
      have ⟨y0, y1⟩ := row2 HS.rb
      have ⟨p0, p1, p2, p3, pf0, pf1, pf2, pf3⟩ := row4 HS.rp
      have ⟨z0, z1, z2, z3, zf0, zf1, zf2, zf3⟩ := row4 HS.rz
      go_wp2
      refine bodyPost_ret (v := .agg #[.int .u64 (q.dg (a * b) 0), .int .u64 (q.dg (a * b) 1), .int .u64 (q.dg (a * b) 2), .int .u64 (q.dg (a * b) 3)]) (by simp [results, Try.results32, go_sem, *]) rfl ⟨rfl, ?_⟩
      exact (((HS.bel.setCell (by show _ ≤ w.heap.size + 1 + 1; omega) _).setCell (by show _ ≤ w.heap.size + 1 + 1; omega) _).setCell (by show _ ≤ w.heap.size + 1 + 1; omega) _).setCell (by show _ ≤ w.heap.size + 1 + 1; omega) _
set_option maxHeartbeats 4000000 in
theorem qmul_np (a b : Int) (a0 : -170141183460469231731687303715884105728 ≤ a) (a1 : a < 170141183460469231731687303715884105728) (b0 : -170141183460469231731687303715884105728 ≤ b) (b1 : b < 170141183460469231731687303715884105728) (ha : a < 0) (hb : 0 ≤ b) (w : World) :
    Calls Try.prog 32 #[.agg #[.int .i64 (hi a), .int .u64 (lo a)], .agg #[.int .i64 (hi b), .int .u64 (lo b)]] w fun e w' => e = .returned (.agg #[.int .u64 (q.dg (a * b) 0), .int .u64 (q.dg (a * b) 1), .int .u64 (q.dg (a * b) 2), .int .u64 (q.dg (a * b) 3)]) ∧ Below w.heap.size w w' := by
  have sa := hi_neg a a0 ha
  have sb := hi_pos b hb b1
  obtain ⟨P, hP⟩ : ∃ P, a % 340282366920938463463374607431768211456 * (b % 340282366920938463463374607431768211456) = P := ⟨_, rfl⟩
  have FIN : Hid (P - b * 340282366920938463463374607431768211456 = a * b + 0 * 115792089237316195423570985008687907853269984665640564039457584007913129639936) := by
    unfold Hid
    rw [← hP, mod_neg a a0 ha, mod_pos b hb b1]
    rw [mul_np]; omega
  clear a0 a1 b0 b1 ha hb
  go_enter Try.func32, Try.ntmps32
  go_wp2_with (go_at_call 48; refine (mulWords_any a b rfl rfl rfl rfl _).mono ?_; rw [hP]; rintro e w1 ⟨rfl, hw1⟩; have HS := mulSt_start w w1 a b P _ _ hw1; have ⟨x0, x1⟩ := row2 HS.ra; have ⟨y0, y1⟩ := row2 HS.rb; have ⟨p0, p1, p2, p3, pf0, pf1, pf2, pf3⟩ := row4 HS.rp; have ⟨z0, z1, z2, z3, zf0, zf1, zf2, zf3⟩ := row4 HS.rz; skip)
  generalize w1.alloc (.cells #[.int .u64 (q.dg P 0), .int .u64 (q.dg P 1), .int .u64 (q.dg P 2), .int .u64 (q.dg P 3)] _) = W0 at *
  clear hw1
  generalize w1.heap.size = p at *
  go_region_with (first
    | (go_at_call 50; refine (upper_any b rfl rfl _).mono ?_; rintro e w2 ⟨rfl, hw2⟩; have HS := HS.drew.later hw2; have ⟨x0, x1⟩ := row2 HS.ra; have ⟨y0, y1⟩ := row2 HS.rb; have ⟨p0, p1, p2, p3, pf0, pf1, pf2, pf3⟩ := row4 HS.rp; have ⟨z0, z1, z2, z3, zf0, zf1, zf2, zf3⟩ := row4 HS.rz)
    | (go_at_call 49; refine (qsub_any (P) (b * 340282366920938463463374607431768211456) (wd_self _) (wd_self _) _).mono ?_; rintro e w3 ⟨rfl, hw3⟩; have HS := HS.later hw3; have ⟨x0, x1⟩ := row2 HS.ra; have ⟨y0, y1⟩ := row2 HS.rb; have ⟨p0, p1, p2, p3, pf0, pf1, pf2, pf3⟩ := row4 HS.rp; have ⟨z0, z1, z2, z3, zf0, zf1, zf2, zf3⟩ := row4 HS.rz))
  all_goals
    have HT := HS.set (P' := P - b * 340282366920938463463374607431768211456)
    have HT := HT.is (qcongr 0 FIN.out)
    generalize ((((w3.setCell ⟨p, 0, none⟩ (.int .u64 (q.dg (P - b * 340282366920938463463374607431768211456) 0))).setCell ⟨p, 1, none⟩ (.int .u64 (q.dg (P - b * 340282366920938463463374607431768211456) 1))).setCell ⟨p, 2, none⟩ (.int .u64 (q.dg (P - b * 340282366920938463463374607431768211456) 2))).setCell ⟨p, 3, none⟩ (.int .u64 (q.dg (P - b * 340282366920938463463374607431768211456) 3))) = W1 at *
    clear x0 x1 y0 y1 p0 p1 p2 p3 pf0 pf1 pf2 pf3 z0 z1 z2 z3 zf0 zf1 zf2 zf3
    clear HS
    have HS := HT
    clear HT
    have ⟨x0, x1⟩ := row2 HS.ra
    have ⟨y0, y1⟩ := row2 HS.rb
    have ⟨p0, p1, p2, p3, pf0, pf1, pf2, pf3⟩ := row4 HS.rp
    have ⟨z0, z1, z2, z3, zf0, zf1, zf2, zf3⟩ := row4 HS.rz
    go_wp2
    refine bodyPost_ret (v := .agg #[.int .u64 (q.dg (a * b) 0), .int .u64 (q.dg (a * b) 1), .int .u64 (q.dg (a * b) 2), .int .u64 (q.dg (a * b) 3)]) (by simp [results, Try.results32, go_sem, *]) rfl ⟨rfl, ?_⟩
    exact (((HS.bel.setCell (by show _ ≤ w.heap.size + 1 + 1; omega) _).setCell (by show _ ≤ w.heap.size + 1 + 1; omega) _).setCell (by show _ ≤ w.heap.size + 1 + 1; omega) _).setCell (by show _ ≤ w.heap.size + 1 + 1; omega) _
set_option maxHeartbeats 4000000 in
theorem qmul_pn (a b : Int) (a0 : -170141183460469231731687303715884105728 ≤ a) (a1 : a < 170141183460469231731687303715884105728) (b0 : -170141183460469231731687303715884105728 ≤ b) (b1 : b < 170141183460469231731687303715884105728) (ha : 0 ≤ a) (hb : b < 0) (w : World) :
    Calls Try.prog 32 #[.agg #[.int .i64 (hi a), .int .u64 (lo a)], .agg #[.int .i64 (hi b), .int .u64 (lo b)]] w fun e w' => e = .returned (.agg #[.int .u64 (q.dg (a * b) 0), .int .u64 (q.dg (a * b) 1), .int .u64 (q.dg (a * b) 2), .int .u64 (q.dg (a * b) 3)]) ∧ Below w.heap.size w w' := by
  have sa := hi_pos a ha a1
  have sb := hi_neg b b0 hb
  obtain ⟨P, hP⟩ : ∃ P, a % 340282366920938463463374607431768211456 * (b % 340282366920938463463374607431768211456) = P := ⟨_, rfl⟩
  have FIN : Hid (P - a * 340282366920938463463374607431768211456 = a * b + 0 * 115792089237316195423570985008687907853269984665640564039457584007913129639936) := by
    unfold Hid
    rw [← hP, mod_pos a ha a1, mod_neg b b0 hb]
    rw [mul_pn]; omega
  clear a0 a1 b0 b1 ha hb
  go_enter Try.func32, Try.ntmps32
  go_wp2_with (go_at_call 48; refine (mulWords_any a b rfl rfl rfl rfl _).mono ?_; rw [hP]; rintro e w1 ⟨rfl, hw1⟩; have HS := mulSt_start w w1 a b P _ _ hw1; have ⟨x0, x1⟩ := row2 HS.ra; have ⟨y0, y1⟩ := row2 HS.rb; have ⟨p0, p1, p2, p3, pf0, pf1, pf2, pf3⟩ := row4 HS.rp; have ⟨z0, z1, z2, z3, zf0, zf1, zf2, zf3⟩ := row4 HS.rz; skip)
  generalize w1.alloc (.cells #[.int .u64 (q.dg P 0), .int .u64 (q.dg P 1), .int .u64 (q.dg P 2), .int .u64 (q.dg P 3)] _) = W0 at *
  clear hw1
  generalize w1.heap.size = p at *
  go_region_with (first
    | (go_at_call 50; refine (upper_any a rfl rfl _).mono ?_; rintro e w2 ⟨rfl, hw2⟩; have HS := HS.drew.later hw2; have ⟨x0, x1⟩ := row2 HS.ra; have ⟨y0, y1⟩ := row2 HS.rb; have ⟨p0, p1, p2, p3, pf0, pf1, pf2, pf3⟩ := row4 HS.rp; have ⟨z0, z1, z2, z3, zf0, zf1, zf2, zf3⟩ := row4 HS.rz)
    | (go_at_call 49; refine (qsub_any (P) (a * 340282366920938463463374607431768211456) (wd_self _) (wd_self _) _).mono ?_; rintro e w3 ⟨rfl, hw3⟩; have HS := HS.later hw3; have ⟨x0, x1⟩ := row2 HS.ra; have ⟨y0, y1⟩ := row2 HS.rb; have ⟨p0, p1, p2, p3, pf0, pf1, pf2, pf3⟩ := row4 HS.rp; have ⟨z0, z1, z2, z3, zf0, zf1, zf2, zf3⟩ := row4 HS.rz))
  all_goals
    have HT := HS.set (P' := P - a * 340282366920938463463374607431768211456)
    have HT := HT.is (qcongr 0 FIN.out)
    generalize ((((w3.setCell ⟨p, 0, none⟩ (.int .u64 (q.dg (P - a * 340282366920938463463374607431768211456) 0))).setCell ⟨p, 1, none⟩ (.int .u64 (q.dg (P - a * 340282366920938463463374607431768211456) 1))).setCell ⟨p, 2, none⟩ (.int .u64 (q.dg (P - a * 340282366920938463463374607431768211456) 2))).setCell ⟨p, 3, none⟩ (.int .u64 (q.dg (P - a * 340282366920938463463374607431768211456) 3))) = W1 at *
    clear x0 x1 y0 y1 p0 p1 p2 p3 pf0 pf1 pf2 pf3 z0 z1 z2 z3 zf0 zf1 zf2 zf3
    clear HS
    have HS := HT
    clear HT
    have ⟨x0, x1⟩ := row2 HS.ra
    have ⟨y0, y1⟩ := row2 HS.rb
    have ⟨p0, p1, p2, p3, pf0, pf1, pf2, pf3⟩ := row4 HS.rp
    have ⟨z0, z1, z2, z3, zf0, zf1, zf2, zf3⟩ := row4 HS.rz
    go_wp2
    refine bodyPost_ret (v := .agg #[.int .u64 (q.dg (a * b) 0), .int .u64 (q.dg (a * b) 1), .int .u64 (q.dg (a * b) 2), .int .u64 (q.dg (a * b) 3)]) (by simp [results, Try.results32, go_sem, *]) rfl ⟨rfl, ?_⟩
    exact (((HS.bel.setCell (by show _ ≤ w.heap.size + 1 + 1; omega) _).setCell (by show _ ≤ w.heap.size + 1 + 1; omega) _).setCell (by show _ ≤ w.heap.size + 1 + 1; omega) _).setCell (by show _ ≤ w.heap.size + 1 + 1; omega) _
set_option maxHeartbeats 4000000 in
theorem qmul_pp (a b : Int) (a0 : -170141183460469231731687303715884105728 ≤ a) (a1 : a < 170141183460469231731687303715884105728) (b0 : -170141183460469231731687303715884105728 ≤ b) (b1 : b < 170141183460469231731687303715884105728) (ha : 0 ≤ a) (hb : 0 ≤ b) (w : World) :
    Calls Try.prog 32 #[.agg #[.int .i64 (hi a), .int .u64 (lo a)], .agg #[.int .i64 (hi b), .int .u64 (lo b)]] w fun e w' => e = .returned (.agg #[.int .u64 (q.dg (a * b) 0), .int .u64 (q.dg (a * b) 1), .int .u64 (q.dg (a * b) 2), .int .u64 (q.dg (a * b) 3)]) ∧ Below w.heap.size w w' := by
  have sa := hi_pos a ha a1
  have sb := hi_pos b hb b1
  obtain ⟨P, hP⟩ : ∃ P, a % 340282366920938463463374607431768211456 * (b % 340282366920938463463374607431768211456) = P := ⟨_, rfl⟩
  have FIN : Hid (P = a * b + 0 * 115792089237316195423570985008687907853269984665640564039457584007913129639936) := by
    unfold Hid
    rw [← hP, mod_pos a ha a1, mod_pos b hb b1]
    omega
  clear a0 a1 b0 b1 ha hb
  go_enter Try.func32, Try.ntmps32
  have E4 := qcongr 0 FIN.out
  have E5 := ret_quad E4.1 E4.2.1 E4.2.2.1 E4.2.2.2
  rw [← E5]
  clear E4 E5
  go_wp2_with (go_at_call 48; refine (mulWords_any a b rfl rfl rfl rfl _).mono ?_; rw [hP]; rintro e w1 ⟨rfl, hw1⟩; have HS := mulSt_start w w1 a b P _ _ hw1; have ⟨x0, x1⟩ := row2 HS.ra; have ⟨y0, y1⟩ := row2 HS.rb; have ⟨p0, p1, p2, p3, pf0, pf1, pf2, pf3⟩ := row4 HS.rp; have ⟨z0, z1, z2, z3, zf0, zf1, zf2, zf3⟩ := row4 HS.rz; skip)
  refine bodyPost_ret (v := .agg #[.int .u64 (q.dg (P) 0), .int .u64 (q.dg (P) 1), .int .u64 (q.dg (P) 2), .int .u64 (q.dg (P) 3)]) (by simp [results, Try.results32, go_sem, *]) rfl ⟨rfl, ?_⟩
  exact (((HS.bel.setCell (by show _ ≤ w.heap.size + 1 + 1; omega) _).setCell (by show _ ≤ w.heap.size + 1 + 1; omega) _).setCell (by show _ ≤ w.heap.size + 1 + 1; omega) _).setCell (by show _ ≤ w.heap.size + 1 + 1; omega) _
theorem qmul_any {ah al bh bl : Int} (a b : Int) (ha : ah = hi a) (hal : al = lo a) (hb : bh = hi b) (hbl : bl = lo b) (a0 : -170141183460469231731687303715884105728 ≤ a) (a1 : a < 170141183460469231731687303715884105728) (b0 : -170141183460469231731687303715884105728 ≤ b) (b1 : b < 170141183460469231731687303715884105728) (w : World) :
    Calls Try.prog 32 #[.agg #[.int .i64 ah, .int .u64 al], .agg #[.int .i64 bh, .int .u64 bl]] w fun e w' => e = .returned (.agg #[.int .u64 (q.dg (a * b) 0), .int .u64 (q.dg (a * b) 1), .int .u64 (q.dg (a * b) 2), .int .u64 (q.dg (a * b) 3)]) ∧ Below w.heap.size w w' := by
  subst ha hal hb hbl
  rcases Int.lt_or_le a 0 with ha | ha <;> rcases Int.lt_or_le b 0 with hb | hb
  · exact qmul_nn a b a0 a1 b0 b1 ha hb w
  · exact qmul_np a b a0 a1 b0 b1 ha hb w
  · exact qmul_pn a b a0 a1 b0 b1 ha hb w
  · exact qmul_pp a b a0 a1 b0 b1 ha hb w
end Go.Proofs.Ytnemailhijkemaa.lq

namespace Go.Proofs.Ytnemailhijkemaa.lq
open Go.RowKit
set_option linter.unusedVariables false

theorem quad_eq (a0 a1 a2 a3 b0 b1 b2 b3 : Int) (w : World) : (Op.equalIn 10000 54 (.agg #[.int .u64 a0, .int .u64 a1, .int .u64 a2, .int .u64 a3]) (.agg #[.int .u64 b0, .int .u64 b1, .int .u64 b2, .int .u64 b3])).run Try.prog w = .ok (a0 == b0 && (a1 == b1 && (a2 == b2 && a3 == b3))) w := by
  obtain ⟨i, hi⟩ := Option.isSome_iff_exists.1 (show (Try.prog.info? 48).isSome = true by kernel_rfl)
  have hc : Try.prog.cellsOf 48 = 1 := by kernel_rfl
  rw [run_equalIn_array w 9999 _ _ Try.underlying54 hi, hc]
  simp [Op.eqItems, List.range, List.range.loop, go_sem, Try.underlying48]
  by_cases e0 : a0 = b0 <;> by_cases e1 : a1 = b1 <;> by_cases e2 : a2 = b2 <;> by_cases e3 : a3 = b3 <;> simp [e0, e1, e2, e3]
end Go.Proofs.Ytnemailhijkemaa.lq

namespace Go.Proofs.Ytnemailhijkemaa.lq
open Go.RowKit
set_option linter.unusedVariables false

theorem top_neg (a : Int) (h0 : -57896044618658097711785492504343953926634992332820282019728792003956564819968 ≤ a) (h1 : a < 57896044618658097711785492504343953926634992332820282019728792003956564819968) : wrap64 (q.dg a 3) < 0 ↔ a < 0 := by
  rw [qdg3]; unfold wrap64; omega
theorem isBelow_any {a0 a1 a2 a3 : Int} (a : Int) (ha : Wd a a0 a1 a2 a3) (h0 : -57896044618658097711785492504343953926634992332820282019728792003956564819968 ≤ a) (h1 : a < 57896044618658097711785492504343953926634992332820282019728792003956564819968) (w : World) :
    Calls Try.prog 55 #[.agg #[.int .u64 a0, .int .u64 a1, .int .u64 a2, .int .u64 a3]] w fun e w' => e = .returned (.bool (decide (a < 0))) ∧ Below w.heap.size w w' := by
  obtain ⟨rfl, rfl, rfl, rfl⟩ := ha
  have e : decide (wrap64 (q.dg a 3) < 0) = decide (a < 0) := by rw [decide_eq_decide]; exact top_neg a h0 h1
  clear h0 h1
  go_enter Try.func55, Try.ntmps55
  go_wp2
  go_ret
  exact ⟨rfl, (Below.refl _ _).alloc (Nat.le_refl _) _⟩

theorem split4 (a : Int) : a = q.dg a 0 + q.dg a 1 * 18446744073709551616 + q.dg a 2 * 340282366920938463463374607431768211456 + q.dg a 3 * 6277101735386680763835789423207666416102355444464034512896 + a / 115792089237316195423570985008687907853269984665640564039457584007913129639936 * 115792089237316195423570985008687907853269984665640564039457584007913129639936 := by
  rw [qdg0, qdg1, qdg2, qdg3]; omega
theorem ret_int' {a b : Int} (h : a = b) : Ending.returned (.int .i64 a) = .returned (.int .i64 b) := by rw [h]
theorem qsign_any {a0 a1 a2 a3 : Int} (a : Int) (ha : Wd a a0 a1 a2 a3) (h0 : -57896044618658097711785492504343953926634992332820282019728792003956564819968 ≤ a) (h1 : a < 57896044618658097711785492504343953926634992332820282019728792003956564819968) (w : World) :
    Calls Try.prog 36 #[.agg #[.int .u64 a0, .int .u64 a1, .int .u64 a2, .int .u64 a3]] w fun e w' => e = .returned (.int .i64 (cmpI a 0)) ∧ Below w.heap.size w w' := by
  obtain ⟨rfl, rfl, rfl, rfl⟩ := ha
  have HB : Hid _ := fun w => isBelow_any a (wd_self a) h0 h1 w
  have Q4 := quad_eq
  rcases Int.lt_trichotomy a 0 with h | h | h
  · have C : Hid (cmpI a 0 = -1) := by unfold Hid cmpI; rw [if_pos h]
    have D : decide (a < 0) = true := by simpa using h
    clear h0 h1
    go_enter Try.func36, Try.ntmps36
    go_wp2_with (go_at_call 55; refine (HB.out _).mono ?_; rw [D]; rintro e w' ⟨rfl, hb⟩)
    go_ret
    exact ⟨ret_int' C.out.symm, ((Below.refl _ _).alloc (Nat.le_refl _) _).trans (hb.mono (by simp))⟩
  · subst h
    have C : Hid (cmpI 0 0 = 0) := by unfold Hid; decide
    have D : decide ((0 : Int) < 0) = false := by decide
    have Z0 := qdg_0
    clear h0 h1
    go_enter Try.func36, Try.ntmps36
    go_wp2_with (go_at_call 55; refine (HB.out _).mono ?_; rw [D]; rintro e w' ⟨rfl, hb⟩; obtain ⟨hc, hf⟩ := bcell hb)
    go_ret
    exact ⟨ret_int' C.out.symm, ((Below.refl _ _).alloc (Nat.le_refl _) _).trans (hb.mono (by simp))⟩
  · have C : Hid (cmpI a 0 = 1) := by unfold Hid cmpI; rw [if_neg (by omega), if_pos h]
    have D : decide (a < 0) = false := by simp; omega
    have N : (q.dg a 0 == 0 && (q.dg a 1 == 0 && (q.dg a 2 == 0 && q.dg a 3 == 0))) = false := by
      rw [Bool.eq_false_iff]
      intro h'
      simp at h'
      have := split4 a
      omega
    have Q5 := fun w => (Q4 (q.dg a 0) (q.dg a 1) (q.dg a 2) (q.dg a 3) 0 0 0 0 w).trans (by rw [N])
    clear h0 h1 N Q4
    go_enter Try.func36, Try.ntmps36
    go_wp2_with (go_at_call 55; refine (HB.out _).mono ?_; rw [D]; rintro e w' ⟨rfl, hb⟩; obtain ⟨hc, hf⟩ := bcell hb)
    go_ret
    exact ⟨ret_int' C.out.symm, ((Below.refl _ _).alloc (Nat.le_refl _) _).trans (hb.mono (by simp))⟩

theorem cmpI64_any (x y : Int) (w : World) :
    Calls Try.prog 56 #[.int .i64 x, .int .i64 y] w fun e w' => e = .returned (.int .i64 (cmpI x y)) ∧ w' = w := by
  unfold cmpI
  go_enter Try.func56, Try.ntmps56
  go_wp2
  all_goals (go_ret; exact ⟨rfl, rfl⟩)
theorem cmpU64_any (x y : Int) (w : World) :
    Calls Try.prog 64 #[.int .u64 x, .int .u64 y] w fun e w' => e = .returned (.int .i64 (cmpI x y)) ∧ w' = w := by
  unfold cmpI
  go_enter Try.func64, Try.ntmps64
  go_wp2
  all_goals (go_ret; exact ⟨rfl, rfl⟩)
end Go.Proofs.Ytnemailhijkemaa.lq

namespace Go.Proofs.Ytnemailhijkemaa
open Go.RowKit
set_option linter.unusedVariables false

/-- The sign of the circle's determinant, as it is told: nought, if a point can't be. -/
def ciP (a1 a2 b1 b2 c1 c2 d1 d2 : Int) : Int := if canAll [(a1, a2), (b1, b2), (c1, c2), (d1, d2)] then (detP a1 a2 b1 b2 c1 c2 d1 d2).sign else 0
theorem det_sum (a1 a2 b1 b2 c1 c2 d1 d2 : Int) : detP a1 a2 b1 b2 c1 c2 d1 d2 = distP a1 a2 d1 d2 * areaP d1 d2 b1 b2 c1 c2 + distP b1 b2 d1 d2 * areaP d1 d2 c1 c2 a1 a2 + distP c1 c2 d1 d2 * areaP d1 d2 a1 a2 b1 b2 := by
  rw [det_areas]
  have e : areaP d1 d2 c1 c2 a1 a2 = -areaP d1 d2 a1 a2 c1 c2 := by unfold areaP; grind
  rw [e, Int.mul_neg]
  omega
theorem det_small {a1 a2 b1 b2 c1 c2 d1 d2 : Int} (ha : canC a1 a2 = true) (hb : canC b1 b2 = true) (hc : canC c1 c2 = true) (hd : canC d1 d2 = true) : -57896044618658097711785492504343953926634992332820282019728792003956564819968 ≤ detP a1 a2 b1 b2 c1 c2 d1 d2 ∧ detP a1 a2 b1 b2 c1 c2 d1 d2 < 57896044618658097711785492504343953926634992332820282019728792003956564819968 := by
  have h := det_abs (D := 2199023255552) (can_diff (canC_true.1 ha).1 (canC_true.1 hd).1) (can_diff (canC_true.1 ha).2 (canC_true.1 hd).2) (can_diff (canC_true.1 hb).1 (canC_true.1 hd).1) (can_diff (canC_true.1 hb).2 (canC_true.1 hd).2) (can_diff (canC_true.1 hc).1 (canC_true.1 hd).1) (can_diff (canC_true.1 hc).2 (canC_true.1 hd).2)
  have e : 3 * (2 * (2199023255552 * 2199023255552) * (2 * (2199023255552 * 2199023255552))) = 280608314367533360295107487881526339773939048251392 := by decide
  rw [e] at h
  omega
/-- A product and a sum of words, under names. -/
theorem qmulW {ah al bh bl : Int} (a b : Int) (ha : ah = lw.hi a) (hal : al = lw.lo a) (hb : bh = lw.hi b) (hbl : bl = lw.lo b) (ra : -10000000000000000000000000 ≤ a ∧ a ≤ 10000000000000000000000000) (rb : -10000000000000000000000000 ≤ b ∧ b ≤ 10000000000000000000000000) (w : World) {q0 q1 q2 q3 : Int} (hq : lq.Wd (a * b) q0 q1 q2 q3) :
    Calls Try.prog 32 #[.agg #[.int .i64 ah, .int .u64 al], .agg #[.int .i64 bh, .int .u64 bl]] w fun e w' => e = .returned (.agg #[.int .u64 q0, .int .u64 q1, .int .u64 q2, .int .u64 q3]) ∧ Below w.heap.size w w' := by
  obtain ⟨rfl, rfl, rfl, rfl⟩ := hq
  exact lq.qmul_any a b ha hal hb hbl (by omega) (by omega) (by omega) (by omega) w
theorem qaddW {a0 a1 a2 a3 b0 b1 b2 b3 : Int} (a b : Int) (ha : lq.Wd a a0 a1 a2 a3) (hb : lq.Wd b b0 b1 b2 b3) (w : World) {q0 q1 q2 q3 : Int} (hq : lq.Wd (a + b) q0 q1 q2 q3) :
    Calls Try.prog 35 #[.agg #[.int .u64 a0, .int .u64 a1, .int .u64 a2, .int .u64 a3], .agg #[.int .u64 b0, .int .u64 b1, .int .u64 b2, .int .u64 b3]] w fun e w' => e = .returned (.agg #[.int .u64 q0, .int .u64 q1, .int .u64 q2, .int .u64 q3]) ∧ Below w.heap.size w w' := by
  obtain ⟨rfl, rfl, rfl, rfl⟩ := hq
  exact lq.qadd_any a b ha hb w
def SpC (m0 m1 m2 m3 s1 t1 u1 v1 : Int) : Nat → Value → (World → Prop) → (Nat → Prop) → Prop
  | 0 => ValIs (.agg #[.int .i64 u1, .int .u64 v1])
  | 1 => ValIs (.agg #[.int .i64 s1, .int .u64 t1])
  | 2 => ValIs (.agg #[.int .u64 m0, .int .u64 m1, .int .u64 m2, .int .u64 m3])
  | _ => ValIs undef
theorem SpC_good (m0 m1 m2 m3 s1 t1 u1 v1 : Int) : GoodSp (SpC m0 m1 m2 m3 s1 t1 u1 v1) := fun j x R A h => match j with
  | 0 => valIs_good h
  | 1 => valIs_good h
  | 2 => valIs_good h
  | k + 3 => valIs_good h
def SpCZ : Nat → List Value
  | 0 => [.int .u64 0, .int .u64 0, .int .u64 0, .int .u64 0]
  | _ => []
theorem fuel_SpC_b0 {bD eD : Nat → Bool} {f : Nat} (hf : f = 1 + (nb (bD 0) + nb (bD 1) + nb (bD 2) + nb (eD 0))) (h : bD 0 = false) : f - 1 = 1 + (nb (upd bD 0 true 0) + nb (upd bD 0 true 1) + nb (upd bD 0 true 2) + nb (eD 0)) := by
  have h1 : nb (bD 0) = 1 := by rw [h]; rfl
  have h2 : nb (upd bD 0 true 0) = 0 := rfl
  have q1 : nb (upd bD 0 true 1) = nb (bD 1) := rfl
  have q2 : nb (upd bD 0 true 2) = nb (bD 2) := rfl
  omega
theorem fuel_SpC_b1 {bD eD : Nat → Bool} {f : Nat} (hf : f = 1 + (nb (bD 0) + nb (bD 1) + nb (bD 2) + nb (eD 0))) (h : bD 1 = false) : f - 1 = 1 + (nb (upd bD 1 true 0) + nb (upd bD 1 true 1) + nb (upd bD 1 true 2) + nb (eD 0)) := by
  have h1 : nb (bD 1) = 1 := by rw [h]; rfl
  have h2 : nb (upd bD 1 true 1) = 0 := rfl
  have q0 : nb (upd bD 1 true 0) = nb (bD 0) := rfl
  have q2 : nb (upd bD 1 true 2) = nb (bD 2) := rfl
  omega
theorem fuel_SpC_b2 {bD eD : Nat → Bool} {f : Nat} (hf : f = 1 + (nb (bD 0) + nb (bD 1) + nb (bD 2) + nb (eD 0))) (h : bD 2 = false) : f - 1 = 1 + (nb (upd bD 2 true 0) + nb (upd bD 2 true 1) + nb (upd bD 2 true 2) + nb (eD 0)) := by
  have h1 : nb (bD 2) = 1 := by rw [h]; rfl
  have h2 : nb (upd bD 2 true 2) = 0 := rfl
  have q0 : nb (upd bD 2 true 0) = nb (bD 0) := rfl
  have q1 : nb (upd bD 2 true 1) = nb (bD 1) := rfl
  omega
theorem fuel_SpC_e0 {bD eD : Nat → Bool} {f : Nat} (hf : f = 1 + (nb (bD 0) + nb (bD 1) + nb (bD 2) + nb (eD 0))) (h : eD 0 = false) : f - 1 = 1 + (nb (bD 0) + nb (bD 1) + nb (bD 2) + nb (upd eD 0 true 0)) := by
  have h1 : nb (eD 0) = 1 := by rw [h]; rfl
  have h2 : nb (upd eD 0 true 0) = 0 := rfl
  omega
set_option maxRecDepth 100000 in
set_option maxHeartbeats 8000000 in
theorem pCircle (a1 a2 b1 b2 c1 c2 d1 d2 : Int) (w : World) {g : Int} (hg : g = ciP a1 a2 b1 b2 c1 c2 d1 d2) :
    Calls Try.prog 19 #[.agg #[.int .i64 a1, .int .i64 a2], .agg #[.int .i64 b1, .int .i64 b2], .agg #[.int .i64 c1, .int .i64 c2], .agg #[.int .i64 d1, .int .i64 d2]] w fun e w' => e = .returned (.int .i64 g) ∧ Below w.heap.size w w' := by
  cases hq : canAll [(a1, a2), (b1, b2), (c1, c2), (d1, d2)]
  · skip
    obtain rfl : g = 0 := by rw [hg]; unfold ciP; rw [hq]; rfl
    clear hg
    have HQ : Hid _ := hq
    clear hq
    obtain ⟨W, hW, bW, x_a, x_b, x_c, x_d, sW⟩ := bs_2222 w (.int .i64 a1) (.int .i64 a2) (.int .i64 b1) (.int .i64 b2) (.int .i64 c1) (.int .i64 c2) (.int .i64 d1) (.int .i64 d2) 23 23 23 23
    have zbW := bW.size
    have BB := bW
    go_enter Try.func19, Try.ntmps19
    go_wp2_with (go_at_call 31; fail)
    have eV : W.heap.size = w.heap.size + 1 + 1 + 1 + 1 := by rw [hW]; simp
    rw [← hW]
    clear hW
    obtain ⟨V, hV⟩ : ∃ V, V = (W.alloc (.cells #[.int .i64 a1, .int .i64 a2, .int .i64 b1, .int .i64 b2, .int .i64 c1, .int .i64 c2, .int .i64 d1, .int .i64 d2] 23)) := ⟨_, rfl⟩
    rw [← hV]
    have bV : Below W.heap.size W V := by rw [hV]; exact (Below.refl _ _).alloc (Nat.le_refl _) _
    have rV : Row V W.heap.size [.int .i64 a1, .int .i64 a2, .int .i64 b1, .int .i64 b2, .int .i64 c1, .int .i64 c2, .int .i64 d1, .int .i64 d2] := by rw [hV]; exact Row.new _ _ _
    have lV : W.heap.size < V.heap.size := by rw [hV]; simp
    clear hV
    rw [eV] at rV lV
    have zbV := bV.size
    replace BB := also BB bV
    replace x_a := x_a.on bV
    replace x_b := x_b.on bV
    replace x_c := x_c.on bV
    replace x_d := x_d.on bV
    refine (pcan [(a1, a2), (b1, b2), (c1, c2), (d1, d2)] 4 _ V rfl (by decide) rV lV HQ.out.symm).mono ?_
    rintro e w1 ⟨rfl, bw1⟩
    have zbw1 := bw1.size
    replace BB := also BB bw1
    replace x_a := x_a.on bw1
    replace x_b := x_b.on bw1
    replace x_c := x_c.on bw1
    replace x_d := x_d.on bw1
    have ⟨x_a_0, x_a_1, x_a_2, x_a_3⟩ := x_a
    have ⟨x_b_0, x_b_1, x_b_2, x_b_3⟩ := x_b
    have ⟨x_c_0, x_c_1, x_c_2, x_c_3⟩ := x_c
    have ⟨x_d_0, x_d_1, x_d_2, x_d_3⟩ := x_d
    go_wp2
    go_ret
    exact ⟨rfl, BB⟩
  · skip
    obtain ⟨ha, hb, hc, hd⟩ := can4.1 hq
    replace hg : g = (detP a1 a2 b1 b2 c1 c2 d1 d2).sign := by rw [hg]; unfold ciP; rw [hq]; rfl
    have HB : Hid _ := det_small ha hb hc hd
    rw [det_sum] at hg HB
    rw [← lw_sign] at hg
    have HD1 : Hid _ := dist_wide ha hd
    have HA1 : Hid _ := area_wide hd hb hc
    obtain ⟨D1, eD1⟩ : ∃ D, D = distP a1 a2 d1 d2 := ⟨_, rfl⟩
    obtain ⟨A1, eA1⟩ : ∃ A, A = areaP d1 d2 b1 b2 c1 c2 := ⟨_, rfl⟩
    rw [← eD1] at hg HB HD1
    rw [← eA1] at hg HB HA1
    obtain ⟨u1, hu1⟩ : ∃ x, x = lw.hi D1 := ⟨_, rfl⟩
    have Eu1 : Hid (u1 = lw.hi (distP a1 a2 d1 d2)) := by unfold Hid; rw [← eD1]; exact hu1
    have Hu1 : Hid _ := hu1
    clear hu1
    obtain ⟨v1, hv1⟩ : ∃ x, x = lw.lo D1 := ⟨_, rfl⟩
    have Ev1 : Hid (v1 = lw.lo (distP a1 a2 d1 d2)) := by unfold Hid; rw [← eD1]; exact hv1
    have Hv1 : Hid _ := hv1
    clear hv1
    obtain ⟨s1, hs1⟩ : ∃ x, x = lw.hi A1 := ⟨_, rfl⟩
    have Es1 : Hid (s1 = lw.hi (areaP d1 d2 b1 b2 c1 c2)) := by unfold Hid; rw [← eA1]; exact hs1
    have Hs1 : Hid _ := hs1
    clear hs1
    obtain ⟨t1, ht1⟩ : ∃ x, x = lw.lo A1 := ⟨_, rfl⟩
    have Et1 : Hid (t1 = lw.lo (areaP d1 d2 b1 b2 c1 c2)) := by unfold Hid; rw [← eA1]; exact ht1
    have Ht1 : Hid _ := ht1
    clear ht1
    clear eD1 eA1
    have HD2 : Hid _ := dist_wide hb hd
    have HA2 : Hid _ := area_wide hd hc ha
    obtain ⟨D2, eD2⟩ : ∃ D, D = distP b1 b2 d1 d2 := ⟨_, rfl⟩
    obtain ⟨A2, eA2⟩ : ∃ A, A = areaP d1 d2 c1 c2 a1 a2 := ⟨_, rfl⟩
    rw [← eD2] at hg HB HD2
    rw [← eA2] at hg HB HA2
    obtain ⟨u2, hu2⟩ : ∃ x, x = lw.hi D2 := ⟨_, rfl⟩
    have Eu2 : Hid (u2 = lw.hi (distP b1 b2 d1 d2)) := by unfold Hid; rw [← eD2]; exact hu2
    have Hu2 : Hid _ := hu2
    clear hu2
    obtain ⟨v2, hv2⟩ : ∃ x, x = lw.lo D2 := ⟨_, rfl⟩
    have Ev2 : Hid (v2 = lw.lo (distP b1 b2 d1 d2)) := by unfold Hid; rw [← eD2]; exact hv2
    have Hv2 : Hid _ := hv2
    clear hv2
    obtain ⟨s2, hs2⟩ : ∃ x, x = lw.hi A2 := ⟨_, rfl⟩
    have Es2 : Hid (s2 = lw.hi (areaP d1 d2 c1 c2 a1 a2)) := by unfold Hid; rw [← eA2]; exact hs2
    have Hs2 : Hid _ := hs2
    clear hs2
    obtain ⟨t2, ht2⟩ : ∃ x, x = lw.lo A2 := ⟨_, rfl⟩
    have Et2 : Hid (t2 = lw.lo (areaP d1 d2 c1 c2 a1 a2)) := by unfold Hid; rw [← eA2]; exact ht2
    have Ht2 : Hid _ := ht2
    clear ht2
    clear eD2 eA2
    have HD3 : Hid _ := dist_wide hc hd
    have HA3 : Hid _ := area_wide hd ha hb
    obtain ⟨D3, eD3⟩ : ∃ D, D = distP c1 c2 d1 d2 := ⟨_, rfl⟩
    obtain ⟨A3, eA3⟩ : ∃ A, A = areaP d1 d2 a1 a2 b1 b2 := ⟨_, rfl⟩
    rw [← eD3] at hg HB HD3
    rw [← eA3] at hg HB HA3
    obtain ⟨u3, hu3⟩ : ∃ x, x = lw.hi D3 := ⟨_, rfl⟩
    have Eu3 : Hid (u3 = lw.hi (distP c1 c2 d1 d2)) := by unfold Hid; rw [← eD3]; exact hu3
    have Hu3 : Hid _ := hu3
    clear hu3
    obtain ⟨v3, hv3⟩ : ∃ x, x = lw.lo D3 := ⟨_, rfl⟩
    have Ev3 : Hid (v3 = lw.lo (distP c1 c2 d1 d2)) := by unfold Hid; rw [← eD3]; exact hv3
    have Hv3 : Hid _ := hv3
    clear hv3
    obtain ⟨s3, hs3⟩ : ∃ x, x = lw.hi A3 := ⟨_, rfl⟩
    have Es3 : Hid (s3 = lw.hi (areaP d1 d2 a1 a2 b1 b2)) := by unfold Hid; rw [← eA3]; exact hs3
    have Hs3 : Hid _ := hs3
    clear hs3
    obtain ⟨t3, ht3⟩ : ∃ x, x = lw.lo A3 := ⟨_, rfl⟩
    have Et3 : Hid (t3 = lw.lo (areaP d1 d2 a1 a2 b1 b2)) := by unfold Hid; rw [← eA3]; exact ht3
    have Ht3 : Hid _ := ht3
    clear ht3
    clear eD3 eA3
    obtain ⟨m0, m1, m2, m3, hm⟩ : ∃ q0 q1 q2 q3, lq.Wd (D1 * A1) q0 q1 q2 q3 := ⟨_, _, _, _, lq.wd_self _⟩
    have Hm : Hid _ := hm
    clear hm
    obtain ⟨n0, n1, n2, n3, hn⟩ : ∃ q0 q1 q2 q3, lq.Wd (D2 * A2) q0 q1 q2 q3 := ⟨_, _, _, _, lq.wd_self _⟩
    have Hn : Hid _ := hn
    clear hn
    obtain ⟨x0, x1, x2, x3, hx⟩ : ∃ q0 q1 q2 q3, lq.Wd (D1 * A1 + D2 * A2) q0 q1 q2 q3 := ⟨_, _, _, _, lq.wd_self _⟩
    have Hx : Hid _ := hx
    clear hx
    obtain ⟨y0, y1, y2, y3, hy⟩ : ∃ q0 q1 q2 q3, lq.Wd (D3 * A3) q0 q1 q2 q3 := ⟨_, _, _, _, lq.wd_self _⟩
    have Hy : Hid _ := hy
    clear hy
    obtain ⟨z0, z1, z2, z3, hz⟩ : ∃ q0 q1 q2 q3, lq.Wd (D1 * A1 + D2 * A2 + D3 * A3) q0 q1 q2 q3 := ⟨_, _, _, _, lq.wd_self _⟩
    have Hz : Hid _ := hz
    clear hz
    have HG : Hid _ := hg
    clear hg
    have HQ : Hid _ := hq
    clear hq
    obtain ⟨W, hW, bW, x_a, x_b, x_c, x_d, sW⟩ := bs_2222 w (.int .i64 a1) (.int .i64 a2) (.int .i64 b1) (.int .i64 b2) (.int .i64 c1) (.int .i64 c2) (.int .i64 d1) (.int .i64 d2) 23 23 23 23
    have zbW := bW.size
    have BB := bW
    go_enter Try.func19, Try.ntmps19
    go_wp2_with (go_at_call 31; fail)
    have eV : W.heap.size = w.heap.size + 1 + 1 + 1 + 1 := by rw [hW]; simp
    rw [← hW]
    clear hW
    obtain ⟨V, hV⟩ : ∃ V, V = (W.alloc (.cells #[.int .i64 a1, .int .i64 a2, .int .i64 b1, .int .i64 b2, .int .i64 c1, .int .i64 c2, .int .i64 d1, .int .i64 d2] 23)) := ⟨_, rfl⟩
    rw [← hV]
    have bV : Below W.heap.size W V := by rw [hV]; exact (Below.refl _ _).alloc (Nat.le_refl _) _
    have rV : Row V W.heap.size [.int .i64 a1, .int .i64 a2, .int .i64 b1, .int .i64 b2, .int .i64 c1, .int .i64 c2, .int .i64 d1, .int .i64 d2] := by rw [hV]; exact Row.new _ _ _
    have lV : W.heap.size < V.heap.size := by rw [hV]; simp
    clear hV
    rw [eV] at rV lV
    have zbV := bV.size
    replace BB := also BB bV
    replace x_a := x_a.on bV
    replace x_b := x_b.on bV
    replace x_c := x_c.on bV
    replace x_d := x_d.on bV
    refine (pcan [(a1, a2), (b1, b2), (c1, c2), (d1, d2)] 4 _ V rfl (by decide) rV lV HQ.out.symm).mono ?_
    rintro e w1 ⟨rfl, bw1⟩
    have zbw1 := bw1.size
    replace BB := also BB bw1
    replace x_a := x_a.on bw1
    replace x_b := x_b.on bw1
    replace x_c := x_c.on bw1
    replace x_d := x_d.on bw1
    have ⟨x_a_0, x_a_1, x_a_2, x_a_3⟩ := x_a
    have ⟨x_b_0, x_b_1, x_b_2, x_b_3⟩ := x_b
    have ⟨x_c_0, x_c_1, x_c_2, x_c_3⟩ := x_c
    have ⟨x_d_0, x_d_1, x_d_2, x_d_3⟩ := x_d
    go_wp2
    clear x_a_0 x_a_1 x_a_2 x_a_3 x_b_0 x_b_1 x_b_2 x_b_3 x_c_0 x_c_1 x_c_2 x_c_3 x_d_0 x_d_1 x_d_2 x_d_3
    obtain ⟨QQ, hQQ⟩ : ∃ QQ : Exit → Act → World → Prop, QQ = fun e act wr => e = .normal ∧ ∃ (pma0 : Nat) , act = ⟨#[.agg #[.int .i64 a1, .int .i64 a2], .agg #[.int .i64 b1, .int .i64 b2], .agg #[.int .i64 c1, .int .i64 c2], .agg #[.int .i64 d1, .int .i64 d2], .pointer (some ⟨w.heap.size, 0, none⟩), .pointer (some ⟨w.heap.size + 1, 0, none⟩), .pointer (some ⟨w.heap.size + 1 + 1, 0, none⟩), .pointer (some ⟨w.heap.size + 1 + 1 + 1, 0, none⟩), .int .i64 0, .pointer (some ⟨pma0, 0, none⟩), .agg #[.int .i64 a1, .int .i64 a2], .agg #[.int .i64 b1, .int .i64 b2], .agg #[.int .i64 c1, .int .i64 c2], .agg #[.int .i64 d1, .int .i64 d2], .slice (some ⟨w.heap.size + 1 + 1 + 1 + 1, 0, none⟩) 4 4, .bool true, .bool false, .agg #[.int .i64 a1, .int .i64 a2], .agg #[.int .i64 d1, .int .i64 d2], .agg #[.int .i64 u1, .int .u64 v1], .agg #[.int .i64 d1, .int .i64 d2], .agg #[.int .i64 b1, .int .i64 b2], .agg #[.int .i64 c1, .int .i64 c2], .agg #[.int .i64 s1, .int .u64 t1], .agg #[.int .u64 m0, .int .u64 m1, .int .u64 m2, .int .u64 m3], undef, undef, undef, undef, undef, undef, undef, undef, undef, undef, undef, undef, undef, undef, undef, undef, undef, undef, undef, undef, undef, undef], []⟩ ∧ Bx wr (w.heap.size) (.int .i64 a1) (.int .i64 a2) ∧ Bx wr (w.heap.size + 1) (.int .i64 b1) (.int .i64 b2) ∧ Bx wr (w.heap.size + 1 + 1) (.int .i64 c1) (.int .i64 c2) ∧ Bx wr (w.heap.size + 1 + 1 + 1) (.int .i64 d1) (.int .i64 d2) ∧ B4 wr pma0 (.int .u64 m0) (.int .u64 m1) (.int .u64 m2) (.int .u64 m3) ∧ Below w.heap.size w wr ∧ w1.heap.size ≤ wr.heap.size ∧ (w1.heap.size ≤ pma0 ∧ pma0 < wr.heap.size) := ⟨_, rfl⟩
    have HQQ : Hid _ := hQQ
    clear hQQ
    refine wp_mono (Q := QQ) ?_ ?_
    · refine wp_region_held_drew (S := (fun w' => w'.cell? ⟨w.heap.size, 0, none⟩ = some (.int .i64 a1) ∧ w'.cell? ⟨w.heap.size, 1, none⟩ = some (.int .i64 a2) ∧ w'.cell? ⟨w.heap.size + 1, 0, none⟩ = some (.int .i64 b1) ∧ w'.cell? ⟨w.heap.size + 1, 1, none⟩ = some (.int .i64 b2) ∧ w'.cell? ⟨w.heap.size + 1 + 1, 0, none⟩ = some (.int .i64 c1) ∧ w'.cell? ⟨w.heap.size + 1 + 1, 1, none⟩ = some (.int .i64 c2) ∧ w'.cell? ⟨w.heap.size + 1 + 1 + 1, 0, none⟩ = some (.int .i64 d1) ∧ w'.cell? ⟨w.heap.size + 1 + 1 + 1, 1, none⟩ = some (.int .i64 d2) ∧ Below w.heap.size w w')) (by kernel_rfl) ?_ (fun hHeld => ?_)
      · exact ⟨x_a.c0, x_a.c1, x_b.c0, x_b.c1, x_c.c0, x_c.c1, x_d.c0, x_d.c1, BB.drew⟩
      refine take_yes (i := 0) (v := ?vma0x1) rfl (by kernel_rfl) (by kernel_rfl) (by kernel_rfl) (fun _ _ _ h => by rw [HQQ.out] at h; exact Exit.noConfusion h.1) (by rfl) (by assumption) ?hyma0x1 ?restma0x1
      case hyma0x1 => (intro w hSw; (try dsimp only at hSw); first | (go_simp; done) | (go_simp; with_reducible rfl))
      simp only [Act.put, List.setIfInBounds_toArray, List.set_cons_zero, List.set_cons_succ]
      refine take_yes (i := 1) (v := ?vma1x2) rfl (by kernel_rfl) (by kernel_rfl) (by kernel_rfl) (fun _ _ _ h => by rw [HQQ.out] at h; exact Exit.noConfusion h.1) (by rfl) (by assumption) ?hyma1x2 ?restma1x2
      case hyma1x2 => (intro w hSw; (try dsimp only at hSw); first | (go_simp; done) | (go_simp; with_reducible rfl))
      simp only [Act.put, List.setIfInBounds_toArray, List.set_cons_zero, List.set_cons_succ]
      refine take_yes (i := 3) (v := ?vma3x3) rfl (by kernel_rfl) (by kernel_rfl) (by kernel_rfl) (fun _ _ _ h => by rw [HQQ.out] at h; exact Exit.noConfusion h.1) (by rfl) (by assumption) ?hyma3x3 ?restma3x3
      case hyma3x3 => (intro w hSw; (try dsimp only at hSw); first | (go_simp; done) | (go_simp; with_reducible rfl))
      simp only [Act.put, List.setIfInBounds_toArray, List.set_cons_zero, List.set_cons_succ]
      refine take_yes (i := 4) (v := ?vma4x4) rfl (by kernel_rfl) (by kernel_rfl) (by kernel_rfl) (fun _ _ _ h => by rw [HQQ.out] at h; exact Exit.noConfusion h.1) (by rfl) (by assumption) ?hyma4x4 ?restma4x4
      case hyma4x4 => (intro w hSw; (try dsimp only at hSw); first | (go_simp; done) | (go_simp; with_reducible rfl))
      simp only [Act.put, List.setIfInBounds_toArray, List.set_cons_zero, List.set_cons_succ]
      refine take_yes (i := 5) (v := ?vma5x5) rfl (by kernel_rfl) (by kernel_rfl) (by kernel_rfl) (fun _ _ _ h => by rw [HQQ.out] at h; exact Exit.noConfusion h.1) (by rfl) (by assumption) ?hyma5x5 ?restma5x5
      case hyma5x5 => (intro w hSw; (try dsimp only at hSw); first | (go_simp; done) | (go_simp; with_reducible rfl))
      simp only [Act.put, List.setIfInBounds_toArray, List.set_cons_zero, List.set_cons_succ]
      clear hHeld
      obtain ⟨INV, hINV⟩ : ∃ INV : Nat → Array Bool → Act → World → Prop, INV = fun f L act wr => ∃ (bD eD : Nat → Bool) (pD : Nat → Nat) (RD : Nat → World → Prop) (AD : Nat → Nat → Prop) (uD vD : Nat → Value), f = 1 + (nb (bD 0) + nb (bD 1) + nb (bD 2) + nb (eD 0)) ∧ L = #[true, true, bD 0, true, true, true, bD 1, bD 2, eD 0, false] ∧ act = ⟨#[.agg #[.int .i64 a1, .int .i64 a2], .agg #[.int .i64 b1, .int .i64 b2], .agg #[.int .i64 c1, .int .i64 c2], .agg #[.int .i64 d1, .int .i64 d2], .pointer (some ⟨w.heap.size, 0, none⟩), .pointer (some ⟨w.heap.size + 1, 0, none⟩), .pointer (some ⟨w.heap.size + 1 + 1, 0, none⟩), .pointer (some ⟨w.heap.size + 1 + 1 + 1, 0, none⟩), .int .i64 0, vD 0, .agg #[.int .i64 a1, .int .i64 a2], .agg #[.int .i64 b1, .int .i64 b2], .agg #[.int .i64 c1, .int .i64 c2], .agg #[.int .i64 d1, .int .i64 d2], .slice (some ⟨w.heap.size + 1 + 1 + 1 + 1, 0, none⟩) 4 4, .bool true, .bool false, .agg #[.int .i64 a1, .int .i64 a2], .agg #[.int .i64 d1, .int .i64 d2], uD 0, .agg #[.int .i64 d1, .int .i64 d2], .agg #[.int .i64 b1, .int .i64 b2], .agg #[.int .i64 c1, .int .i64 c2], uD 1, uD 2, undef, undef, undef, undef, undef, undef, undef, undef, undef, undef, undef, undef, undef, undef, undef, undef, undef, undef, undef, undef, undef, undef], []⟩ ∧ (bD 1 = true → bD 0 = true) ∧ (bD 2 = true → bD 1 = true) ∧ Mk w1 SpCZ (SpC m0 m1 m2 m3 s1 t1 u1 v1) bD eD pD RD AD uD vD wr := ⟨_, rfl⟩
      have HINV : Hid _ := hINV
      clear hINV
      refine phase INV ?stepma _ _ _ _ ?initma
      case initma => rw [HINV.out]; exact ⟨fun _ => false, fun _ => false, fun _ => 0, fun _ _ => True, fun _ _ => True, fun _ => undef, fun _ => undef, rfl, rfl, rfl, fun h => Bool.noConfusion h, fun h => Bool.noConfusion h, Mk.start _ _ _ (Below.refl _ _).drew⟩
      intro f L act wr hinv
      rw [HINV.out] at hinv
      obtain ⟨bD, eD, pD, RD, AD, uD, vD, hf, rfl, rfl, ch0, ch1, hm⟩ := hinv
      by_cases hall : bD 2 = true ∧ eD 0 = true
      · refine Or.inl ?_
        obtain ⟨hb2, he0⟩ := hall
        have hb1 := ch1 hb2
        have hb0 := ch0 hb1
        simp only [hb0, hb1, hb2, he0, nb] at hf
        subst hf
        rw [hb0, hb1, hb2, he0, hm.ptr 0 he0]
        obtain ⟨hu0, _, _⟩ : ValIs _ _ _ _ := hm.spec 0 hb0
        rw [hu0]
        obtain ⟨hu1, _, _⟩ : ValIs _ _ _ _ := hm.spec 1 hb1
        rw [hu1]
        obtain ⟨hu2, _, _⟩ : ValIs _ _ _ _ := hm.spec 2 hb2
        rw [hu2]
        have y_pma0 : B4 wr (pD 0) (.int .u64 0) (.int .u64 0) (.int .u64 0) (.int .u64 0) := b4_row (hm.blk 0 he0)
        have gpma0 := hm.old 0 he0
        have ltpma0 := hm.lt 0 he0
        have BU := hm.bel
        replace x_a := x_a.on BU
        replace x_b := x_b.on BU
        replace x_c := x_c.on BU
        replace x_d := x_d.on BU
        replace BB := also BB BU
        have hHeld : ((fun w' => w'.cell? ⟨w.heap.size, 0, none⟩ = some (.int .i64 a1) ∧ w'.cell? ⟨w.heap.size, 1, none⟩ = some (.int .i64 a2) ∧ w'.cell? ⟨w.heap.size + 1, 0, none⟩ = some (.int .i64 b1) ∧ w'.cell? ⟨w.heap.size + 1, 1, none⟩ = some (.int .i64 b2) ∧ w'.cell? ⟨w.heap.size + 1 + 1, 0, none⟩ = some (.int .i64 c1) ∧ w'.cell? ⟨w.heap.size + 1 + 1, 1, none⟩ = some (.int .i64 c2) ∧ w'.cell? ⟨w.heap.size + 1 + 1 + 1, 0, none⟩ = some (.int .i64 d1) ∧ w'.cell? ⟨w.heap.size + 1 + 1 + 1, 1, none⟩ = some (.int .i64 d2) ∧ Below w.heap.size w w')) wr := ⟨x_a.c0, x_a.c1, x_b.c0, x_b.c1, x_c.c0, x_c.c1, x_d.c0, x_d.c1, BB⟩
        clear hm HINV INV ch0 ch1
        generalize pD 0 = pma0 at *
        dsimp only at hHeld
        have ⟨c_pma0_0, c_pma0_1, c_pma0_2, c_pma0_3, c_pma0_4, c_pma0_5, c_pma0_6, c_pma0_7⟩ : B4 wr pma0 (.int .u64 0) (.int .u64 0) (.int .u64 0) (.int .u64 0) := y_pma0
        refine take_call (i := 9) rfl (by kernel_rfl) (fun Kc hK => ?_)
        go_simp
        refine hK.out _ _ ⟨cell_put4 hHeld.1 (by omega) _ _ _ _, cell_put4 hHeld.2.1 (by omega) _ _ _ _, cell_put4 hHeld.2.2.1 (by omega) _ _ _ _, cell_put4 hHeld.2.2.2.1 (by omega) _ _ _ _, cell_put4 hHeld.2.2.2.2.1 (by omega) _ _ _ _, cell_put4 hHeld.2.2.2.2.2.1 (by omega) _ _ _ _, cell_put4 hHeld.2.2.2.2.2.2.1 (by omega) _ _ _ _, cell_put4 hHeld.2.2.2.2.2.2.2.1 (by omega) _ _ _ _, below_put4 hHeld.2.2.2.2.2.2.2.2 (by omega) _ _ _ _⟩ (fun hHeld => ?_)
        clear hK Kc
        refine wpAnyH_done (by kernel_rfl) ?_ _
        rw [HQQ.out]
        exact ⟨rfl, pma0, rfl, ((((x_a.put (by omega)).put (by omega)).put (by omega)).put (by omega)), ((((x_b.put (by omega)).put (by omega)).put (by omega)).put (by omega)), ((((x_c.put (by omega)).put (by omega)).put (by omega)).put (by omega)), ((((x_d.put (by omega)).put (by omega)).put (by omega)).put (by omega)), y_pma0.set, (below_put4 BB (by omega) _ _ _ _), by have := BU.size; simp only [World.size_setCell]; omega, ⟨gpma0, by simp only [World.size_setCell]; omega⟩⟩
      · refine Or.inr ⟨f - 1, by omega, ?nema, ?opsma⟩
        case nema =>
          cases he0 : eD 0
          · exact ready_ne (i := 8) (by decide) (by kernel_rfl)
          cases hb0 : bD 0
          · exact ready_ne (i := 2) (by decide) (by kernel_rfl)
          cases hb1 : bD 1
          · exact ready_ne (i := 6) (by decide) (by kernel_rfl)
          cases hb2 : bD 2
          · exact ready_ne (i := 7) (by decide) (by kernel_rfl)
          exact absurd ⟨hb2, he0⟩ hall
        case opsma =>
          intro i hi
          obtain ⟨hlt, hnot, hdep⟩ := ready_at hi
          replace hlt : i < 10 := hlt
          obtain rfl | rfl | rfl | rfl | rfl | rfl | rfl | rfl | rfl | rfl : i = 0 ∨ i = 1 ∨ i = 2 ∨ i = 3 ∨ i = 4 ∨ i = 5 ∨ i = 6 ∨ i = 7 ∨ i = 8 ∨ i = 9 := by omega
          · skip
            exact Bool.noConfusion (show true = false from hnot)
          · skip
            exact Bool.noConfusion (show true = false from hnot)
          · skip
            have hbj : bD 0 = false := hnot
            refine ⟨_, rfl, fun K' hK => ?_⟩
            go_simp
            (go_at_call 33; refine (pdist a1 a2 d1 d2 _ ha hd Eu1.out Ev1.out).mono ?_; rintro e' X ⟨rfl, bX⟩)
            have hm' := hm.call (SpC_good m0 m1 m2 m3 s1 t1 u1 v1) 0 bX (.agg #[.int .i64 u1, .int .u64 v1]) (fun _ => True) (fun _ => True) ⟨rfl, rfl, rfl⟩ trivial (fun i hi => trivial)
            refine hK.out _ _ ⟨cell_on hm'.bel x_a.c0, cell_on hm'.bel x_a.c1, cell_on hm'.bel x_b.c0, cell_on hm'.bel x_b.c1, cell_on hm'.bel x_c.c0, cell_on hm'.bel x_c.c1, cell_on hm'.bel x_d.c0, cell_on hm'.bel x_d.c1, also BB hm'.bel⟩ ?_
            rw [HINV.out]
            exact ⟨upd bD 0 true, eD, pD, upd RD 0 (fun _ => True), upd AD 0 (fun _ => True), upd uD 0 (.agg #[.int .i64 u1, .int .u64 v1]), vD, fuel_SpC_b0 hf hbj, rfl, rfl, fun _ => rfl, ch1, hm'⟩
          · skip
            exact Bool.noConfusion (show true = false from hnot)
          · skip
            exact Bool.noConfusion (show true = false from hnot)
          · skip
            exact Bool.noConfusion (show true = false from hnot)
          · skip
            have hbj : bD 1 = false := hnot
            have hprev : bD 0 = true := hdep _ rfl 3 _ rfl rfl
            refine ⟨_, rfl, fun K' hK => ?_⟩
            go_simp
            (go_at_call 34; refine (parea d1 d2 b1 b2 c1 c2 _ hd hb hc Es1.out Et1.out).mono ?_; rintro e' X ⟨rfl, bX⟩)
            have hm' := hm.call (SpC_good m0 m1 m2 m3 s1 t1 u1 v1) 1 bX (.agg #[.int .i64 s1, .int .u64 t1]) (fun _ => True) (fun _ => True) ⟨rfl, rfl, rfl⟩ trivial (fun i hi => trivial)
            refine hK.out _ _ ⟨cell_on hm'.bel x_a.c0, cell_on hm'.bel x_a.c1, cell_on hm'.bel x_b.c0, cell_on hm'.bel x_b.c1, cell_on hm'.bel x_c.c0, cell_on hm'.bel x_c.c1, cell_on hm'.bel x_d.c0, cell_on hm'.bel x_d.c1, also BB hm'.bel⟩ ?_
            rw [HINV.out]
            exact ⟨upd bD 1 true, eD, pD, upd RD 1 (fun _ => True), upd AD 1 (fun _ => True), upd uD 1 (.agg #[.int .i64 s1, .int .u64 t1]), vD, fuel_SpC_b1 hf hbj, rfl, rfl, fun _ => hprev, fun _ => rfl, hm'⟩
          · skip
            have hbj : bD 2 = false := hnot
            have hprev : bD 1 = true := hdep _ rfl 2 _ rfl rfl
            have hq0 : bD 0 = true := ch0 hprev
            refine ⟨_, rfl, fun K' hK => ?_⟩
            obtain ⟨hu0, _, _⟩ : ValIs _ _ _ _ := hm.spec 0 hq0
            rw [hu0]
            obtain ⟨hu1, _, _⟩ : ValIs _ _ _ _ := hm.spec 1 hprev
            rw [hu1]
            go_simp
            (go_at_call 32; refine (qmulW D1 A1 Hu1.out Hv1.out Hs1.out Ht1.out ⟨Int.le_trans (by decide) HD1.out.1, HD1.out.2⟩ HA1.out _ Hm.out).mono ?_; rintro e' X ⟨rfl, bX⟩)
            have hm' := hm.call (SpC_good m0 m1 m2 m3 s1 t1 u1 v1) 2 bX (.agg #[.int .u64 m0, .int .u64 m1, .int .u64 m2, .int .u64 m3]) (fun _ => True) (fun _ => True) ⟨rfl, rfl, rfl⟩ trivial (fun i hi => trivial)
            refine hK.out _ _ ⟨cell_on hm'.bel x_a.c0, cell_on hm'.bel x_a.c1, cell_on hm'.bel x_b.c0, cell_on hm'.bel x_b.c1, cell_on hm'.bel x_c.c0, cell_on hm'.bel x_c.c1, cell_on hm'.bel x_d.c0, cell_on hm'.bel x_d.c1, also BB hm'.bel⟩ ?_
            rw [HINV.out]
            exact ⟨upd bD 2 true, eD, pD, upd RD 2 (fun _ => True), upd AD 2 (fun _ => True), upd uD 2 (.agg #[.int .u64 m0, .int .u64 m1, .int .u64 m2, .int .u64 m3]), vD, fuel_SpC_b2 hf hbj, rfl, (by rw [show upd uD 2 (.agg #[.int .u64 m0, .int .u64 m1, .int .u64 m2, .int .u64 m3]) 0 = .agg #[.int .i64 u1, .int .u64 v1] from hu0, show upd uD 2 (.agg #[.int .u64 m0, .int .u64 m1, .int .u64 m2, .int .u64 m3]) 1 = .agg #[.int .i64 s1, .int .u64 t1] from hu1] <;> rfl), ch0, fun _ => hprev, hm'⟩
          · skip
            have hei : eD 0 = false := hnot
            refine ⟨_, rfl, fun K' hK => ?_⟩
            go_simp
            have hm' := hm.alloc (SpC_good m0 m1 m2 m3 s1 t1 u1 v1) 0 54 hei
            refine hK.out _ _ ⟨cell_on hm'.bel x_a.c0, cell_on hm'.bel x_a.c1, cell_on hm'.bel x_b.c0, cell_on hm'.bel x_b.c1, cell_on hm'.bel x_c.c0, cell_on hm'.bel x_c.c1, cell_on hm'.bel x_d.c0, cell_on hm'.bel x_d.c1, also BB hm'.bel⟩ ?_
            rw [HINV.out]
            exact ⟨bD, upd eD 0 true, upd pD 0 wr.heap.size, RD, AD, uD, upd vD 0 (.pointer (some ⟨wr.heap.size, 0, none⟩)), fuel_SpC_e0 hf hei, rfl, rfl, ch0, ch1, hm'⟩
          · skip
            exact absurd ⟨hdep _ rfl 1 _ rfl rfl, hdep _ rfl 0 _ rfl rfl⟩ hall
    rw [HQQ.out]
    rintro e act Y1 ⟨rfl, pma0, rfl, x_a, x_b, x_c, x_d, x_m, BB, z_Y1, z_Y1_pma0⟩
    clear HQQ QQ
    try dsimp only
    go_wp2
    have dd1 : Below Y1.heap.size Y1 Y1.drew := (Below.refl _ _).drew
    have zdd1 := dd1.size
    replace BB := also BB dd1
    replace x_a := x_a.on dd1
    replace x_b := x_b.on dd1
    replace x_c := x_c.on dd1
    replace x_d := x_d.on dd1
    replace x_m := x_m.on dd1
    refine regionL 10 (S := (fun w' => w'.cell? ⟨w.heap.size, 0, none⟩ = some (.int .i64 a1) ∧ w'.cell? ⟨w.heap.size, 1, none⟩ = some (.int .i64 a2) ∧ w'.cell? ⟨w.heap.size + 1, 0, none⟩ = some (.int .i64 b1) ∧ w'.cell? ⟨w.heap.size + 1, 1, none⟩ = some (.int .i64 b2) ∧ w'.cell? ⟨w.heap.size + 1 + 1, 0, none⟩ = some (.int .i64 c1) ∧ w'.cell? ⟨w.heap.size + 1 + 1, 1, none⟩ = some (.int .i64 c2) ∧ w'.cell? ⟨w.heap.size + 1 + 1 + 1, 0, none⟩ = some (.int .i64 d1) ∧ w'.cell? ⟨w.heap.size + 1 + 1 + 1, 1, none⟩ = some (.int .i64 d2) ∧ w'.cell? ⟨pma0, 0, none⟩ = some (.int .u64 m0) ∧ w'.cell? ⟨pma0, 1, none⟩ = some (.int .u64 m1) ∧ w'.cell? ⟨pma0, 2, none⟩ = some (.int .u64 m2) ∧ w'.cell? ⟨pma0, 3, none⟩ = some (.int .u64 m3) ∧ Below w.heap.size w w')) (by kernel_rfl) ?_ (fun hHeld => ?_)
    · exact ⟨x_a.c0, x_a.c1, x_b.c0, x_b.c1, x_c.c0, x_c.c1, x_d.c0, x_d.c1, x_m.c0, x_m.c1, x_m.c2, x_m.c3, BB⟩
    refine takeL_yes (i := 0) (v := ?vsa0) rfl (by kernel_rfl) (by kernel_rfl) (by kernel_rfl) (by kernel_rfl) (by decide) (fun _ _ _ h => h) (by rfl) (by assumption) ?hysa0 ?restsa0
    case hysa0 => (intro w hSw; (try dsimp only at hSw); first | (go_simp; done) | (go_simp; with_reducible rfl))
    simp only [Act.put, List.setIfInBounds_toArray, List.set_cons_zero, List.set_cons_succ]
    refine takeL_yes (i := 1) (v := ?vsa1) rfl (by kernel_rfl) (by kernel_rfl) (by kernel_rfl) (by kernel_rfl) (by decide) (fun _ _ _ h => h) (by rfl) (by assumption) ?hysa1 ?restsa1
    case hysa1 => (intro w hSw; (try dsimp only at hSw); first | (go_simp; done) | (go_simp; with_reducible rfl))
    simp only [Act.put, List.setIfInBounds_toArray, List.set_cons_zero, List.set_cons_succ]
    refine takeL_yes (i := 2) (v := ?vsa2) rfl (by kernel_rfl) (by kernel_rfl) (by kernel_rfl) (by kernel_rfl) (by decide) (fun _ _ _ h => h) (by rfl) (by assumption) ?hysa2 ?restsa2
    case hysa2 => (intro w hSw; (try dsimp only at hSw); first | (go_simp; done) | (go_simp; with_reducible rfl))
    simp only [Act.put, List.setIfInBounds_toArray, List.set_cons_zero, List.set_cons_succ]
    refine takeL_yes (i := 4) (v := ?vsa4) rfl (by kernel_rfl) (by kernel_rfl) (by kernel_rfl) (by kernel_rfl) (by decide) (fun _ _ _ h => h) (by rfl) (by assumption) ?hysa4 ?restsa4
    case hysa4 => (intro w hSw; (try dsimp only at hSw); first | (go_simp; done) | (go_simp; with_reducible rfl))
    simp only [Act.put, List.setIfInBounds_toArray, List.set_cons_zero, List.set_cons_succ]
    refine takeL_yes (i := 5) (v := ?vsa5) rfl (by kernel_rfl) (by kernel_rfl) (by kernel_rfl) (by kernel_rfl) (by decide) (fun _ _ _ h => h) (by rfl) (by assumption) ?hysa5 ?restsa5
    case hysa5 => (intro w hSw; (try dsimp only at hSw); first | (go_simp; done) | (go_simp; with_reducible rfl))
    simp only [Act.put, List.setIfInBounds_toArray, List.set_cons_zero, List.set_cons_succ]
    refine takeL_yes (i := 6) (v := ?vsa6) rfl (by kernel_rfl) (by kernel_rfl) (by kernel_rfl) (by kernel_rfl) (by decide) (fun _ _ _ h => h) (by rfl) (by assumption) ?hysa6 ?restsa6
    case hysa6 => (intro w hSw; (try dsimp only at hSw); first | (go_simp; done) | (go_simp; with_reducible rfl))
    simp only [Act.put, List.setIfInBounds_toArray, List.set_cons_zero, List.set_cons_succ]
    refine takeL_call (i := 3) rfl (by kernel_rfl) (fun Kc hK => ?_)
    go_simp
    (go_at_call 33; refine (pdist b1 b2 d1 d2 _ hb hd Eu2.out Ev2.out).mono ?_; rintro e waa ⟨rfl, bwaa⟩)
    refine hK.out _ _ ?_ (fun hHeld => ?_)
    · exact ⟨cell_on bwaa hHeld.1, cell_on bwaa hHeld.2.1, cell_on bwaa hHeld.2.2.1, cell_on bwaa hHeld.2.2.2.1, cell_on bwaa hHeld.2.2.2.2.1, cell_on bwaa hHeld.2.2.2.2.2.1, cell_on bwaa hHeld.2.2.2.2.2.2.1, cell_on bwaa hHeld.2.2.2.2.2.2.2.1, cell_on bwaa hHeld.2.2.2.2.2.2.2.2.1, cell_on bwaa hHeld.2.2.2.2.2.2.2.2.2.1, cell_on bwaa hHeld.2.2.2.2.2.2.2.2.2.2.1, cell_on bwaa hHeld.2.2.2.2.2.2.2.2.2.2.2.1, also hHeld.2.2.2.2.2.2.2.2.2.2.2.2 bwaa⟩
    clear hK Kc
    have zbwaa := bwaa.size
    replace BB := also BB bwaa
    replace x_a := x_a.on bwaa
    replace x_b := x_b.on bwaa
    replace x_c := x_c.on bwaa
    replace x_d := x_d.on bwaa
    replace x_m := x_m.on bwaa
    refine takeL_call (i := 7) rfl (by kernel_rfl) (fun Kc hK => ?_)
    go_simp
    (go_at_call 34; refine (parea d1 d2 c1 c2 a1 a2 _ hd hc ha Es2.out Et2.out).mono ?_; rintro e wab ⟨rfl, bwab⟩)
    refine hK.out _ _ ?_ (fun hHeld => ?_)
    · exact ⟨cell_on bwab hHeld.1, cell_on bwab hHeld.2.1, cell_on bwab hHeld.2.2.1, cell_on bwab hHeld.2.2.2.1, cell_on bwab hHeld.2.2.2.2.1, cell_on bwab hHeld.2.2.2.2.2.1, cell_on bwab hHeld.2.2.2.2.2.2.1, cell_on bwab hHeld.2.2.2.2.2.2.2.1, cell_on bwab hHeld.2.2.2.2.2.2.2.2.1, cell_on bwab hHeld.2.2.2.2.2.2.2.2.2.1, cell_on bwab hHeld.2.2.2.2.2.2.2.2.2.2.1, cell_on bwab hHeld.2.2.2.2.2.2.2.2.2.2.2.1, also hHeld.2.2.2.2.2.2.2.2.2.2.2.2 bwab⟩
    clear hK Kc
    have zbwab := bwab.size
    replace BB := also BB bwab
    replace x_a := x_a.on bwab
    replace x_b := x_b.on bwab
    replace x_c := x_c.on bwab
    replace x_d := x_d.on bwab
    replace x_m := x_m.on bwab
    refine takeL_call (i := 8) rfl (by kernel_rfl) (fun Kc hK => ?_)
    go_simp
    (go_at_call 32; refine (qmulW D2 A2 Hu2.out Hv2.out Hs2.out Ht2.out ⟨Int.le_trans (by decide) HD2.out.1, HD2.out.2⟩ HA2.out _ Hn.out).mono ?_; rintro e wac ⟨rfl, bwac⟩)
    refine hK.out _ _ ?_ (fun hHeld => ?_)
    · exact ⟨cell_on bwac hHeld.1, cell_on bwac hHeld.2.1, cell_on bwac hHeld.2.2.1, cell_on bwac hHeld.2.2.2.1, cell_on bwac hHeld.2.2.2.2.1, cell_on bwac hHeld.2.2.2.2.2.1, cell_on bwac hHeld.2.2.2.2.2.2.1, cell_on bwac hHeld.2.2.2.2.2.2.2.1, cell_on bwac hHeld.2.2.2.2.2.2.2.2.1, cell_on bwac hHeld.2.2.2.2.2.2.2.2.2.1, cell_on bwac hHeld.2.2.2.2.2.2.2.2.2.2.1, cell_on bwac hHeld.2.2.2.2.2.2.2.2.2.2.2.1, also hHeld.2.2.2.2.2.2.2.2.2.2.2.2 bwac⟩
    clear hK Kc
    have zbwac := bwac.size
    replace BB := also BB bwac
    replace x_a := x_a.on bwac
    replace x_b := x_b.on bwac
    replace x_c := x_c.on bwac
    replace x_d := x_d.on bwac
    replace x_m := x_m.on bwac
    refine takeL_call (i := 9) rfl (by kernel_rfl) (fun Kc hK => ?_)
    go_simp
    (go_at_call 35; refine (qaddW _ _ Hm.out Hn.out _ Hx.out).mono ?_; rintro e wad ⟨rfl, bwad⟩)
    refine hK.out _ _ ?_ (fun hHeld => ?_)
    · exact ⟨cell_on bwad hHeld.1, cell_on bwad hHeld.2.1, cell_on bwad hHeld.2.2.1, cell_on bwad hHeld.2.2.2.1, cell_on bwad hHeld.2.2.2.2.1, cell_on bwad hHeld.2.2.2.2.2.1, cell_on bwad hHeld.2.2.2.2.2.2.1, cell_on bwad hHeld.2.2.2.2.2.2.2.1, cell_on bwad hHeld.2.2.2.2.2.2.2.2.1, cell_on bwad hHeld.2.2.2.2.2.2.2.2.2.1, cell_on bwad hHeld.2.2.2.2.2.2.2.2.2.2.1, cell_on bwad hHeld.2.2.2.2.2.2.2.2.2.2.2.1, also hHeld.2.2.2.2.2.2.2.2.2.2.2.2 bwad⟩
    clear hK Kc
    have zbwad := bwad.size
    replace BB := also BB bwad
    replace x_a := x_a.on bwad
    replace x_b := x_b.on bwad
    replace x_c := x_c.on bwad
    replace x_d := x_d.on bwad
    replace x_m := x_m.on bwad
    have ⟨x_m_0, x_m_1, x_m_2, x_m_3, x_m_4, x_m_5, x_m_6, x_m_7⟩ := x_m
    refine takeL_last rfl (by kernel_rfl) (fun Kc hK => ?_)
    go_simp
    refine hK.out _ _ ?_
    clear hK Kc
    refine anyL_done (by kernel_rfl) ?_ _
    clear x_m_0 x_m_1 x_m_2 x_m_3 x_m_4 x_m_5 x_m_6 x_m_7
    obtain ⟨Y2, hY2⟩ : ∃ Y2, Y2 = ((((wad.setCell ⟨pma0, 0, none⟩ (.int .u64 x0)).setCell ⟨pma0, 1, none⟩ (.int .u64 x1)).setCell ⟨pma0, 2, none⟩ (.int .u64 x2)).setCell ⟨pma0, 3, none⟩ (.int .u64 x3)) := ⟨_, rfl⟩
    have zY2 : Y2.heap.size = wad.heap.size := by rw [hY2]; simp
    replace BB : Below w.heap.size w Y2 := by rw [hY2]; exact below_put4 BB (by omega) _ _ _ _
    replace x_a : Bx Y2 (w.heap.size) (.int .i64 a1) (.int .i64 a2) := by rw [hY2]; exact ((((x_a.put (by omega)).put (by omega)).put (by omega)).put (by omega))
    replace x_b : Bx Y2 (w.heap.size + 1) (.int .i64 b1) (.int .i64 b2) := by rw [hY2]; exact ((((x_b.put (by omega)).put (by omega)).put (by omega)).put (by omega))
    replace x_c : Bx Y2 (w.heap.size + 1 + 1) (.int .i64 c1) (.int .i64 c2) := by rw [hY2]; exact ((((x_c.put (by omega)).put (by omega)).put (by omega)).put (by omega))
    replace x_d : Bx Y2 (w.heap.size + 1 + 1 + 1) (.int .i64 d1) (.int .i64 d2) := by rw [hY2]; exact ((((x_d.put (by omega)).put (by omega)).put (by omega)).put (by omega))
    replace x_m : B4 Y2 (pma0) (.int .u64 x0) (.int .u64 x1) (.int .u64 x2) (.int .u64 x3) := by rw [hY2]; exact x_m.set
    rw [← hY2]
    clear hY2
    go_wp2
    have dd2 : Below Y2.heap.size Y2 Y2.drew := (Below.refl _ _).drew
    have zdd2 := dd2.size
    replace BB := also BB dd2
    replace x_a := x_a.on dd2
    replace x_b := x_b.on dd2
    replace x_c := x_c.on dd2
    replace x_d := x_d.on dd2
    replace x_m := x_m.on dd2
    refine regionL 10 (S := (fun w' => w'.cell? ⟨w.heap.size, 0, none⟩ = some (.int .i64 a1) ∧ w'.cell? ⟨w.heap.size, 1, none⟩ = some (.int .i64 a2) ∧ w'.cell? ⟨w.heap.size + 1, 0, none⟩ = some (.int .i64 b1) ∧ w'.cell? ⟨w.heap.size + 1, 1, none⟩ = some (.int .i64 b2) ∧ w'.cell? ⟨w.heap.size + 1 + 1, 0, none⟩ = some (.int .i64 c1) ∧ w'.cell? ⟨w.heap.size + 1 + 1, 1, none⟩ = some (.int .i64 c2) ∧ w'.cell? ⟨w.heap.size + 1 + 1 + 1, 0, none⟩ = some (.int .i64 d1) ∧ w'.cell? ⟨w.heap.size + 1 + 1 + 1, 1, none⟩ = some (.int .i64 d2) ∧ w'.cell? ⟨pma0, 0, none⟩ = some (.int .u64 x0) ∧ w'.cell? ⟨pma0, 1, none⟩ = some (.int .u64 x1) ∧ w'.cell? ⟨pma0, 2, none⟩ = some (.int .u64 x2) ∧ w'.cell? ⟨pma0, 3, none⟩ = some (.int .u64 x3) ∧ Below w.heap.size w w')) (by kernel_rfl) ?_ (fun hHeld => ?_)
    · exact ⟨x_a.c0, x_a.c1, x_b.c0, x_b.c1, x_c.c0, x_c.c1, x_d.c0, x_d.c1, x_m.c0, x_m.c1, x_m.c2, x_m.c3, BB⟩
    refine takeL_yes (i := 0) (v := ?vsb0) rfl (by kernel_rfl) (by kernel_rfl) (by kernel_rfl) (by kernel_rfl) (by decide) (fun _ _ _ h => h) (by rfl) (by assumption) ?hysb0 ?restsb0
    case hysb0 => (intro w hSw; (try dsimp only at hSw); first | (go_simp; done) | (go_simp; with_reducible rfl))
    simp only [Act.put, List.setIfInBounds_toArray, List.set_cons_zero, List.set_cons_succ]
    refine takeL_yes (i := 1) (v := ?vsb1) rfl (by kernel_rfl) (by kernel_rfl) (by kernel_rfl) (by kernel_rfl) (by decide) (fun _ _ _ h => h) (by rfl) (by assumption) ?hysb1 ?restsb1
    case hysb1 => (intro w hSw; (try dsimp only at hSw); first | (go_simp; done) | (go_simp; with_reducible rfl))
    simp only [Act.put, List.setIfInBounds_toArray, List.set_cons_zero, List.set_cons_succ]
    refine takeL_yes (i := 2) (v := ?vsb2) rfl (by kernel_rfl) (by kernel_rfl) (by kernel_rfl) (by kernel_rfl) (by decide) (fun _ _ _ h => h) (by rfl) (by assumption) ?hysb2 ?restsb2
    case hysb2 => (intro w hSw; (try dsimp only at hSw); first | (go_simp; done) | (go_simp; with_reducible rfl))
    simp only [Act.put, List.setIfInBounds_toArray, List.set_cons_zero, List.set_cons_succ]
    refine takeL_yes (i := 4) (v := ?vsb4) rfl (by kernel_rfl) (by kernel_rfl) (by kernel_rfl) (by kernel_rfl) (by decide) (fun _ _ _ h => h) (by rfl) (by assumption) ?hysb4 ?restsb4
    case hysb4 => (intro w hSw; (try dsimp only at hSw); first | (go_simp; done) | (go_simp; with_reducible rfl))
    simp only [Act.put, List.setIfInBounds_toArray, List.set_cons_zero, List.set_cons_succ]
    refine takeL_yes (i := 5) (v := ?vsb5) rfl (by kernel_rfl) (by kernel_rfl) (by kernel_rfl) (by kernel_rfl) (by decide) (fun _ _ _ h => h) (by rfl) (by assumption) ?hysb5 ?restsb5
    case hysb5 => (intro w hSw; (try dsimp only at hSw); first | (go_simp; done) | (go_simp; with_reducible rfl))
    simp only [Act.put, List.setIfInBounds_toArray, List.set_cons_zero, List.set_cons_succ]
    refine takeL_yes (i := 6) (v := ?vsb6) rfl (by kernel_rfl) (by kernel_rfl) (by kernel_rfl) (by kernel_rfl) (by decide) (fun _ _ _ h => h) (by rfl) (by assumption) ?hysb6 ?restsb6
    case hysb6 => (intro w hSw; (try dsimp only at hSw); first | (go_simp; done) | (go_simp; with_reducible rfl))
    simp only [Act.put, List.setIfInBounds_toArray, List.set_cons_zero, List.set_cons_succ]
    refine takeL_call (i := 3) rfl (by kernel_rfl) (fun Kc hK => ?_)
    go_simp
    (go_at_call 33; refine (pdist c1 c2 d1 d2 _ hc hd Eu3.out Ev3.out).mono ?_; rintro e wba ⟨rfl, bwba⟩)
    refine hK.out _ _ ?_ (fun hHeld => ?_)
    · exact ⟨cell_on bwba hHeld.1, cell_on bwba hHeld.2.1, cell_on bwba hHeld.2.2.1, cell_on bwba hHeld.2.2.2.1, cell_on bwba hHeld.2.2.2.2.1, cell_on bwba hHeld.2.2.2.2.2.1, cell_on bwba hHeld.2.2.2.2.2.2.1, cell_on bwba hHeld.2.2.2.2.2.2.2.1, cell_on bwba hHeld.2.2.2.2.2.2.2.2.1, cell_on bwba hHeld.2.2.2.2.2.2.2.2.2.1, cell_on bwba hHeld.2.2.2.2.2.2.2.2.2.2.1, cell_on bwba hHeld.2.2.2.2.2.2.2.2.2.2.2.1, also hHeld.2.2.2.2.2.2.2.2.2.2.2.2 bwba⟩
    clear hK Kc
    have zbwba := bwba.size
    replace BB := also BB bwba
    replace x_a := x_a.on bwba
    replace x_b := x_b.on bwba
    replace x_c := x_c.on bwba
    replace x_d := x_d.on bwba
    replace x_m := x_m.on bwba
    refine takeL_call (i := 7) rfl (by kernel_rfl) (fun Kc hK => ?_)
    go_simp
    (go_at_call 34; refine (parea d1 d2 a1 a2 b1 b2 _ hd ha hb Es3.out Et3.out).mono ?_; rintro e wbb ⟨rfl, bwbb⟩)
    refine hK.out _ _ ?_ (fun hHeld => ?_)
    · exact ⟨cell_on bwbb hHeld.1, cell_on bwbb hHeld.2.1, cell_on bwbb hHeld.2.2.1, cell_on bwbb hHeld.2.2.2.1, cell_on bwbb hHeld.2.2.2.2.1, cell_on bwbb hHeld.2.2.2.2.2.1, cell_on bwbb hHeld.2.2.2.2.2.2.1, cell_on bwbb hHeld.2.2.2.2.2.2.2.1, cell_on bwbb hHeld.2.2.2.2.2.2.2.2.1, cell_on bwbb hHeld.2.2.2.2.2.2.2.2.2.1, cell_on bwbb hHeld.2.2.2.2.2.2.2.2.2.2.1, cell_on bwbb hHeld.2.2.2.2.2.2.2.2.2.2.2.1, also hHeld.2.2.2.2.2.2.2.2.2.2.2.2 bwbb⟩
    clear hK Kc
    have zbwbb := bwbb.size
    replace BB := also BB bwbb
    replace x_a := x_a.on bwbb
    replace x_b := x_b.on bwbb
    replace x_c := x_c.on bwbb
    replace x_d := x_d.on bwbb
    replace x_m := x_m.on bwbb
    refine takeL_call (i := 8) rfl (by kernel_rfl) (fun Kc hK => ?_)
    go_simp
    (go_at_call 32; refine (qmulW D3 A3 Hu3.out Hv3.out Hs3.out Ht3.out ⟨Int.le_trans (by decide) HD3.out.1, HD3.out.2⟩ HA3.out _ Hy.out).mono ?_; rintro e wbc ⟨rfl, bwbc⟩)
    refine hK.out _ _ ?_ (fun hHeld => ?_)
    · exact ⟨cell_on bwbc hHeld.1, cell_on bwbc hHeld.2.1, cell_on bwbc hHeld.2.2.1, cell_on bwbc hHeld.2.2.2.1, cell_on bwbc hHeld.2.2.2.2.1, cell_on bwbc hHeld.2.2.2.2.2.1, cell_on bwbc hHeld.2.2.2.2.2.2.1, cell_on bwbc hHeld.2.2.2.2.2.2.2.1, cell_on bwbc hHeld.2.2.2.2.2.2.2.2.1, cell_on bwbc hHeld.2.2.2.2.2.2.2.2.2.1, cell_on bwbc hHeld.2.2.2.2.2.2.2.2.2.2.1, cell_on bwbc hHeld.2.2.2.2.2.2.2.2.2.2.2.1, also hHeld.2.2.2.2.2.2.2.2.2.2.2.2 bwbc⟩
    clear hK Kc
    have zbwbc := bwbc.size
    replace BB := also BB bwbc
    replace x_a := x_a.on bwbc
    replace x_b := x_b.on bwbc
    replace x_c := x_c.on bwbc
    replace x_d := x_d.on bwbc
    replace x_m := x_m.on bwbc
    refine takeL_call (i := 9) rfl (by kernel_rfl) (fun Kc hK => ?_)
    go_simp
    (go_at_call 35; refine (qaddW _ _ Hx.out Hy.out _ Hz.out).mono ?_; rintro e wbd ⟨rfl, bwbd⟩)
    refine hK.out _ _ ?_ (fun hHeld => ?_)
    · exact ⟨cell_on bwbd hHeld.1, cell_on bwbd hHeld.2.1, cell_on bwbd hHeld.2.2.1, cell_on bwbd hHeld.2.2.2.1, cell_on bwbd hHeld.2.2.2.2.1, cell_on bwbd hHeld.2.2.2.2.2.1, cell_on bwbd hHeld.2.2.2.2.2.2.1, cell_on bwbd hHeld.2.2.2.2.2.2.2.1, cell_on bwbd hHeld.2.2.2.2.2.2.2.2.1, cell_on bwbd hHeld.2.2.2.2.2.2.2.2.2.1, cell_on bwbd hHeld.2.2.2.2.2.2.2.2.2.2.1, cell_on bwbd hHeld.2.2.2.2.2.2.2.2.2.2.2.1, also hHeld.2.2.2.2.2.2.2.2.2.2.2.2 bwbd⟩
    clear hK Kc
    have zbwbd := bwbd.size
    replace BB := also BB bwbd
    replace x_a := x_a.on bwbd
    replace x_b := x_b.on bwbd
    replace x_c := x_c.on bwbd
    replace x_d := x_d.on bwbd
    replace x_m := x_m.on bwbd
    have ⟨x_m_0, x_m_1, x_m_2, x_m_3, x_m_4, x_m_5, x_m_6, x_m_7⟩ := x_m
    refine takeL_last rfl (by kernel_rfl) (fun Kc hK => ?_)
    go_simp
    refine hK.out _ _ ?_
    clear hK Kc
    refine anyL_done (by kernel_rfl) ?_ _
    clear x_m_0 x_m_1 x_m_2 x_m_3 x_m_4 x_m_5 x_m_6 x_m_7
    obtain ⟨Y3, hY3⟩ : ∃ Y3, Y3 = ((((wbd.setCell ⟨pma0, 0, none⟩ (.int .u64 z0)).setCell ⟨pma0, 1, none⟩ (.int .u64 z1)).setCell ⟨pma0, 2, none⟩ (.int .u64 z2)).setCell ⟨pma0, 3, none⟩ (.int .u64 z3)) := ⟨_, rfl⟩
    have zY3 : Y3.heap.size = wbd.heap.size := by rw [hY3]; simp
    replace BB : Below w.heap.size w Y3 := by rw [hY3]; exact below_put4 BB (by omega) _ _ _ _
    replace x_a : Bx Y3 (w.heap.size) (.int .i64 a1) (.int .i64 a2) := by rw [hY3]; exact ((((x_a.put (by omega)).put (by omega)).put (by omega)).put (by omega))
    replace x_b : Bx Y3 (w.heap.size + 1) (.int .i64 b1) (.int .i64 b2) := by rw [hY3]; exact ((((x_b.put (by omega)).put (by omega)).put (by omega)).put (by omega))
    replace x_c : Bx Y3 (w.heap.size + 1 + 1) (.int .i64 c1) (.int .i64 c2) := by rw [hY3]; exact ((((x_c.put (by omega)).put (by omega)).put (by omega)).put (by omega))
    replace x_d : Bx Y3 (w.heap.size + 1 + 1 + 1) (.int .i64 d1) (.int .i64 d2) := by rw [hY3]; exact ((((x_d.put (by omega)).put (by omega)).put (by omega)).put (by omega))
    replace x_m : B4 Y3 (pma0) (.int .u64 z0) (.int .u64 z1) (.int .u64 z2) (.int .u64 z3) := by rw [hY3]; exact x_m.set
    rw [← hY3]
    clear hY3
    have ⟨x_m_0, x_m_1, x_m_2, x_m_3, x_m_4, x_m_5, x_m_6, x_m_7⟩ := x_m
    go_wp2_with (go_at_call 36; fail)
    refine (lq.qsign_any _ Hz.out HB.out.1 HB.out.2 Y3).mono ?_
    rintro e w9 ⟨rfl, bw9⟩
    clear x_m_0 x_m_1 x_m_2 x_m_3 x_m_4 x_m_5 x_m_6 x_m_7
    have zbw9 := bw9.size
    replace BB := also BB bw9
    replace x_a := x_a.on bw9
    replace x_b := x_b.on bw9
    replace x_c := x_c.on bw9
    replace x_d := x_d.on bw9
    replace x_m := x_m.on bw9
    go_wp2
    go_ret
    exact ⟨by rw [HG.out]; rfl, BB⟩
end Go.Proofs.Ytnemailhijkemaa

namespace Go.Proofs.Ytnemailhijkemaa
open Go.RowKit
set_option linter.unusedVariables false

/-- c lies to the left of the way from a to b, and all three can be. -/
def leftQ (a b c : Pt) : Bool := decide ((arP a.1 a.2 b.1 b.2 c.1 c.2).sign = 1)
/-- Whether d does away with a, b, c, as it is told. -/
def cfQ (a b c d : Pt) : Bool := if canC d.1 d.2 = true ∧ leftQ a b c = true ∧ d ≠ a ∧ d ≠ b ∧ d ≠ c then cirQ a b c d else false
theorem left_iff {a b c : Pt} : leftQ a b c = true ↔ (canC a.1 a.2 = true ∧ canC b.1 b.2 = true ∧ canC c.1 c.2 = true ∧ 0 < arQ a b c) := by
  unfold leftQ
  rw [decide_eq_true_iff]
  constructor
  · intro h
    cases hq : canAll [(a.1, a.2), (b.1, b.2), (c.1, c.2)]
    · unfold arP at h; rw [hq] at h; cases h
    · obtain ⟨h1, h2, h3⟩ := can3.1 hq
      unfold arP at h
      rw [hq] at h
      exact ⟨h1, h2, h3, Int.sign_eq_one_iff_pos.1 h⟩
  · rintro ⟨h1, h2, h3, h4⟩
    unfold arP
    rw [can3.2 ⟨h1, h2, h3⟩]
    exact Int.sign_eq_one_iff_pos.2 h4
theorem left_can {a b c : Pt} (h1 : canC a.1 a.2 = true) (h2 : canC b.1 b.2 = true) (h3 : canC c.1 c.2 = true) : leftQ a b c = decide (0 < arQ a b c) := by
  rw [Bool.eq_iff_iff, left_iff, decide_eq_true_iff]
  exact ⟨fun h => h.2.2.2, fun h => ⟨h1, h2, h3, h⟩⟩
theorem left_turn (a b c : Pt) : leftQ b c a = leftQ a b c := by
  rw [Bool.eq_iff_iff, left_iff, left_iff, ar_turnQ]
  exact ⟨fun h => ⟨h.2.2.1, h.1, h.2.1, h.2.2.2⟩, fun h => ⟨h.2.1, h.2.2.1, h.1, h.2.2.2⟩⟩
theorem cf_yes {a b c d : Pt} (h1 : canC d.1 d.2 = true) (h2 : leftQ a b c = true) (h3 : d ≠ a) (h4 : d ≠ b) (h5 : d ≠ c) : cfQ a b c d = cirQ a b c d := by
  unfold cfQ; exact if_pos ⟨h1, h2, h3, h4, h5⟩
theorem cf_no {a b c d : Pt} (h : ¬(canC d.1 d.2 = true ∧ leftQ a b c = true ∧ d ≠ a ∧ d ≠ b ∧ d ≠ c)) : cfQ a b c d = false := by
  unfold cfQ; exact if_neg h
/-- Four points on a circle, as the program tells it. -/
def ocQ (a b c d : Pt) : Bool :=
  if ltQ (if ltQ a b then b else a) c then (if ltQ c d then false else leftQ a b d)
  else if ltQ a b then (if ltQ b d then false else leftQ a d c) else (if ltQ a d then false else leftQ d b c)
theorem oc_tie {a b c d : Pt} (ha : canC a.1 a.2 = true) (hb : canC b.1 b.2 = true) (hc : canC c.1 c.2 = true) (hd : canC d.1 d.2 = true) (h : 0 < arQ a b c) (da : d ≠ a) (db : d ≠ b) (dc : d ≠ c) : ocQ a b c d = tieQ a b c d := by
  obtain ⟨ab, ac, bc⟩ := ar_ne h
  unfold ocQ tieQ lastQ
  rw [left_can ha hb hd, left_can ha hd hc, left_can hd hb hc]
  rcases one_last ab ac bc da db dc with ⟨h1, h2, h3, h4, h5, h6⟩ | ⟨h1, h2, h3, h4, h5, h6⟩ | ⟨h1, h2, h3, h4, h5, h6⟩ | ⟨h1, h2, h3, h4, h5, h6⟩ <;> rcases lt_tri ab with ⟨k1, k2⟩ | ⟨k1, k2⟩ <;> simp_all
theorem cf_turn (a b c d : Pt) : cfQ b c a d = cfQ a b c d := by
  by_cases h : canC d.1 d.2 = true ∧ leftQ a b c = true ∧ d ≠ a ∧ d ≠ b ∧ d ≠ c
  · obtain ⟨h1, h2, h3, h4, h5⟩ := h
    rw [cf_yes h1 h2 h3 h4 h5, cf_yes h1 ((left_turn a b c).trans h2) h4 h5 h3, cir_turn (left_iff.1 h2).2.2.2 h3 h4 h5]
  · rw [cf_no h, cf_no]
    rintro ⟨h1, h2, h3, h4, h5⟩
    exact h ⟨h1, (left_turn a b c).symm.trans h2, h5, h3, h4⟩
theorem cf_diag {a b c d : Pt} (h1 : leftQ a b c = true) (h2 : leftQ b c d = true) (h3 : leftQ c d a = true) (h4 : leftQ d a b = true) : cfQ c d a b = cfQ a b c d ∧ cfQ b c d a = !cfQ a b c d ∧ cfQ d a b c = !cfQ a b c d := by
  obtain ⟨qa, qb, qc, p1⟩ := left_iff.1 h1
  obtain ⟨_, _, qd, p2⟩ := left_iff.1 h2
  obtain ⟨_, _, _, p3⟩ := left_iff.1 h3
  obtain ⟨_, _, _, p4⟩ := left_iff.1 h4
  obtain ⟨ab, ac, bc⟩ := ar_ne p1
  obtain ⟨_, bd, cd⟩ := ar_ne p2
  obtain ⟨_, ca, da⟩ := ar_ne p3
  rw [cf_yes qd h1 da bd.symm cd.symm, cf_yes qb h3 bc bd ab.symm, cf_yes qa h2 ab ac da.symm, cf_yes qc h4 cd ca bc.symm]
  exact cir_diag p1 p2 p3 p4
theorem mv_ne {s p q : Pt} (h : p ≠ q) : mvQ s p ≠ mvQ s q := by
  intro e
  have e1 : p.1 + s.1 = q.1 + s.1 := congrArg Prod.fst e
  have e2 : p.2 + s.2 = q.2 + s.2 := congrArg Prod.snd e
  exact h (Prod.ext (by omega) (by omega))
theorem cf_mv {s a b c d : Pt} (ha : canC a.1 a.2 = true) (hb : canC b.1 b.2 = true) (hc : canC c.1 c.2 = true) (hd : canC d.1 d.2 = true) (ka : canC (mvQ s a).1 (mvQ s a).2 = true) (kb : canC (mvQ s b).1 (mvQ s b).2 = true) (kc : canC (mvQ s c).1 (mvQ s c).2 = true) (kd : canC (mvQ s d).1 (mvQ s d).2 = true) :
    cfQ (mvQ s a) (mvQ s b) (mvQ s c) (mvQ s d) = cfQ a b c d := by
  have e : leftQ (mvQ s a) (mvQ s b) (mvQ s c) = leftQ a b c := by rw [left_can ka kb kc, left_can ha hb hc, ar_mv]
  by_cases h : canC d.1 d.2 = true ∧ leftQ a b c = true ∧ d ≠ a ∧ d ≠ b ∧ d ≠ c
  · obtain ⟨h1, h2, h3, h4, h5⟩ := h
    rw [cf_yes h1 h2 h3 h4 h5, cf_yes kd (e.trans h2) (mv_ne h3) (mv_ne h4) (mv_ne h5), cir_mv]
  · rw [cf_no h, cf_no]
    rintro ⟨h1, h2, h3, h4, h5⟩
    exact h ⟨hd, e.symm.trans h2, fun k => h3 (by rw [k]), fun k => h4 (by rw [k]), fun k => h5 (by rw [k])⟩
theorem cf_beat {a b c d : Pt} (hc : leftQ a b c = true) (hd : leftQ a b d = true) : cfQ a b c d = beatQ a b c d := by
  obtain ⟨_, _, qd, p⟩ := left_iff.1 hd
  obtain ⟨ab, ad, bd⟩ := ar_ne p
  unfold beatQ
  by_cases h : d = c
  · subst h; rw [cf_no (fun k => k.2.2.2.2 rfl)]; simp
  · rw [cf_yes qd hc ad.symm bd.symm h]; simp [h]
/-- The best one of the first k points, as the program tells it. -/
def bstQ (a b : Pt) (L : List Pt) : Nat → Int
  | 0 => -1
  | k + 1 => if leftQ a b (L.getD k (0, 0)) && (decide (bstQ a b L k < 0) || cfQ a b (L.getD (bstQ a b L k).toNat (0, 0)) (L.getD k (0, 0))) then (k : Int) else bstQ a b L k
/-- What the document asks of a point of the list. -/
def okQ (a b : Pt) (L : List Pt) (c : Pt) : Bool := leftQ a b c && L.all fun d => !leftQ a b d || !cfQ a b c d
/-- The best one: the first that is so. -/
def rbQ (a b : Pt) (L : List Pt) : Int := match L.findIdx? (okQ a b L) with
  | some i => (i : Int)
  | none => -1
theorem bst_range (a b : Pt) (L : List Pt) : ∀ k, -1 ≤ bstQ a b L k ∧ bstQ a b L k < (k : Int) ∨ bstQ a b L k = -1
  | 0 => Or.inr rfl
  | k + 1 => by
    unfold bstQ
    split
    · left; omega
    · rcases bst_range a b L k with h | h
      · left; omega
      · right; exact h
theorem getD_of {L : List Pt} {k : Nat} (hk : k < L.length) : L.getD k (0, 0) = L[k] := by rw [List.getD, List.getElem?_eq_getElem hk]; rfl
theorem bst_inv (a b : Pt) (L : List Pt) : ∀ k, k ≤ L.length → (bstQ a b L k = -1 ∧ ∀ j (hj : j < L.length), j < k → leftQ a b L[j] = false) ∨
    (∃ m, ∃ hm : m < L.length, m < k ∧ bstQ a b L k = (m : Int) ∧ leftQ a b L[m] = true ∧ (∀ j (hj : j < L.length), j < k → leftQ a b L[j] = true → beatQ a b L[m] L[j] = false) ∧ (∀ j (hj : j < L.length), j < m → leftQ a b L[j] = true → beatQ a b L[j] L[m] = true))
  | 0, _ => Or.inl ⟨rfl, fun j _ h => absurd h (Nat.not_lt_zero j)⟩
  | k + 1, hk => by
    have hlt : k < L.length := hk
    have hd := getD_of hlt
    rcases bst_inv a b L k (Nat.le_of_lt hlt) with ⟨e, h⟩ | ⟨m, hm, hmk, e, lm, hA, hB⟩
    · cases hl : leftQ a b L[k]
      · left
        refine ⟨?_, fun j hj h1 => ?_⟩
        · unfold bstQ; rw [hd, hl, e]; rfl
        · rcases Nat.lt_or_ge j k with h2 | h2
          · exact h j hj h2
          · obtain rfl : j = k := by omega
            exact hl
      · right
        refine ⟨k, hlt, by omega, ?_, hl, fun j hj h1 h2 => ?_, fun j hj h1 h2 => ?_⟩
        · unfold bstQ; rw [hd, hl, e]; rfl
        · rcases Nat.lt_or_ge j k with h3 | h3
          · rw [h j hj h3] at h2; cases h2
          · obtain rfl : j = k := by omega
            exact beat_irr a b _
        · rw [h j hj h1] at h2; cases h2
    · have hmd := getD_of hm
      have hstep : bstQ a b L (k + 1) = if leftQ a b L[k] && cfQ a b L[m] L[k] then (k : Int) else (m : Int) := by
        conv => lhs; unfold bstQ
        rw [hd, e, Int.toNat_natCast, hmd, decide_eq_false (by omega : ¬ (m : Int) < 0), Bool.false_or]
      cases hl : leftQ a b L[k]
      · right
        refine ⟨m, hm, by omega, by rw [hstep, hl]; rfl, lm, fun j hj h1 h2 => ?_, hB⟩
        rcases Nat.lt_or_ge j k with h3 | h3
        · exact hA j hj h3 h2
        · obtain rfl : j = k := by omega
          rw [hl] at h2; cases h2
      · have pm := (left_iff.1 lm).2.2.2
        have pk := (left_iff.1 hl).2.2.2
        have hcb := cf_beat lm hl
        cases hc : cfQ a b L[m] L[k]
        · right
          refine ⟨m, hm, by omega, by rw [hstep, hl, hc]; rfl, lm, fun j hj h1 h2 => ?_, hB⟩
          rcases Nat.lt_or_ge j k with h3 | h3
          · exact hA j hj h3 h2
          · obtain rfl : j = k := by omega
            rw [← hcb]; exact hc
        · right
          rw [hcb] at hc
          refine ⟨k, hlt, by omega, by rw [hstep, hl, hcb, hc]; rfl, hl, fun j hj h1 h2 => ?_, fun j hj h1 h2 => ?_⟩
          · rcases Nat.lt_or_ge j k with h3 | h3
            · cases hq : beatQ a b L[k] L[j]
              · rfl
              · have := beat_trans pm pk (left_iff.1 h2).2.2.2 hc hq
                rw [hA j hj h3 h2] at this
                cases this
            · obtain rfl : j = k := by omega
              exact beat_irr a b _
          · have pj := (left_iff.1 h2).2.2.2
            by_cases hjm : L[j] = L[m]
            · rw [hjm]; exact hc
            · rcases beat_total pm pj hjm with h3 | h3
              · rw [hA j hj h1 h2] at h3; cases h3
              · exact beat_trans pj pm pk h3 hc
theorem ok_iff {a b : Pt} {L : List Pt} {c : Pt} : okQ a b L c = true ↔ (leftQ a b c = true ∧ ∀ d ∈ L, leftQ a b d = true → beatQ a b c d = false) := by
  unfold okQ
  rw [Bool.and_eq_true_iff, List.all_eq_true]
  constructor
  · rintro ⟨h1, h2⟩
    refine ⟨h1, fun d hd hl => ?_⟩
    have := h2 d hd
    rw [hl, cf_beat h1 hl] at this
    simpa using this
  · rintro ⟨h1, h2⟩
    refine ⟨h1, fun d hd => ?_⟩
    cases hl : leftQ a b d
    · rfl
    · rw [cf_beat h1 hl, h2 d hd hl]; rfl
theorem rb_at {a b : Pt} {L : List Pt} {i : Nat} (hi : i < L.length) (h1 : okQ a b L L[i] = true) (h2 : ∀ j (hj : j < L.length), j < i → okQ a b L L[j] = false) : rbQ a b L = (i : Int) := by
  unfold rbQ
  rw [List.findIdx?_eq_some_iff_getElem.2 ⟨hi, h1, fun j hj => by rw [h2 j (Nat.lt_trans hj hi) hj]; simp⟩]
theorem rb_none {a b : Pt} {L : List Pt} (h : ∀ j (hj : j < L.length), okQ a b L L[j] = false) : rbQ a b L = -1 := by
  unfold rbQ
  rw [List.findIdx?_eq_none_iff.2 (fun x hx => by obtain ⟨j, hj, rfl⟩ := List.getElem_of_mem hx; exact h j hj)]
/-- The program's best one is the document's, and there is one just if one lies to the left. -/
theorem best_same (a b : Pt) (L : List Pt) : bstQ a b L L.length = rbQ a b L ∧ decide (0 ≤ rbQ a b L) = L.any (leftQ a b) := by
  rcases bst_inv a b L L.length (Nat.le_refl _) with ⟨e, h⟩ | ⟨m, hm, _, e, lm, hA, hB⟩
  · have hr : rbQ a b L = -1 := rb_none fun j hj => by
      cases hq : okQ a b L L[j]
      · rfl
      · have := (ok_iff.1 hq).1
        rw [h j hj hj] at this
        cases this
    refine ⟨by rw [e, hr], ?_⟩
    rw [hr]
    have : L.any (leftQ a b) = false := by
      rw [List.any_eq_false]
      intro x hx
      obtain ⟨j, hj, rfl⟩ := List.getElem_of_mem hx
      rw [h j hj hj]
      simp
    rw [this]
    rfl
  · have hr : rbQ a b L = (m : Int) := rb_at hm (ok_iff.2 ⟨lm, fun d hd hl => by
        obtain ⟨j, hj, rfl⟩ := List.getElem_of_mem hd
        exact hA j hj hj hl⟩) (fun j hj hjm => by
      cases hq : okQ a b L L[j]
      · rfl
      · obtain ⟨h1, h2⟩ := ok_iff.1 hq
        have := h2 L[m] (List.getElem_mem hm) lm
        rw [hB j hj hjm h1] at this
        cases this)
    refine ⟨by rw [e, hr], ?_⟩
    rw [hr, decide_eq_true (by omega : 0 ≤ (m : Int))]
    symm
    rw [List.any_eq_true]
    exact ⟨L[m], List.getElem_mem hm, lm⟩
end Go.Proofs.Ytnemailhijkemaa
