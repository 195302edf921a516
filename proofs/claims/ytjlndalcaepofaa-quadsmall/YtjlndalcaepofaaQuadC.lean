/-
  What package quad's product answers, as words.
-/
import Derived.Test.YtjlndalcaepofaaQuadB
import Derived.Deep.RegionWith
namespace Go.Proofs.Ytjlndalcaepofaa
open Go.RowKit
set_option linter.unusedVariables false

theorem pw1 : (18446744073709551616 : Int) ^ 1 = 18446744073709551616 := rfl
theorem pw2 : (18446744073709551616 : Int) ^ 2 = 340282366920938463463374607431768211456 := rfl
theorem pw3 : (18446744073709551616 : Int) ^ 3 = 6277101735386680763835789423207666416102355444464034512896 := rfl
theorem qdg0 (a : Int) : q.dg a 0 = a % 18446744073709551616 := by simp [q.dg]
theorem qdg1 (a : Int) : q.dg a 1 = a / 18446744073709551616 % 18446744073709551616 := by unfold q.dg; rw [pw1]
theorem qdg2 (a : Int) : q.dg a 2 = a / 340282366920938463463374607431768211456 % 18446744073709551616 := by unfold q.dg; rw [pw2]
theorem qdg3 (a : Int) : q.dg a 3 = a / 6277101735386680763835789423207666416102355444464034512896 % 18446744073709551616 := by unfold q.dg; rw [pw3]
theorem lo_q (a : Int) : lo a = q.dg a 0 := by rw [qdg0]; rfl
theorem hi_q (a : Int) : IntKind.u64.wrap (hi a) = q.dg a 1 := by rw [qdg1, IntKind.wrap_u64]; unfold hi; omega
theorem sign_q2 (a : Int) (h0 : -170141183460469231731687303715884105728 ≤ a) (h1 : a < 170141183460469231731687303715884105728) : IntKind.u64.wrap (hi a / 9223372036854775808) = q.dg a 2 := by rw [qdg2, IntKind.wrap_u64]; unfold hi; omega
theorem sign_q3 (a : Int) (h0 : -170141183460469231731687303715884105728 ≤ a) (h1 : a < 170141183460469231731687303715884105728) : IntKind.u64.wrap (hi a / 9223372036854775808) = q.dg a 3 := by
  have e : hi a = a / 18446744073709551616 := by unfold hi; omega
  rw [qdg3, IntKind.wrap_u64, e]
  rcases Int.lt_or_le a 0 with h | h
  · have e1 : a / 6277101735386680763835789423207666416102355444464034512896 = -1 := by omega
    have e2 : a / 18446744073709551616 / 9223372036854775808 = -1 := by omega
    rw [e1, e2]
  · have e1 : a / 6277101735386680763835789423207666416102355444464034512896 = 0 := by omega
    have e2 : a / 18446744073709551616 / 9223372036854775808 = 0 := by omega
    rw [e1, e2]
theorem ret_quad {a0 a1 a2 a3 b0 b1 b2 b3 : Int} (h0 : a0 = b0) (h1 : a1 = b1) (h2 : a2 = b2) (h3 : a3 = b3) : Value.agg #[.int .u64 a0, .int .u64 a1, .int .u64 a2, .int .u64 a3] = .agg #[.int .u64 b0, .int .u64 b1, .int .u64 b2, .int .u64 b3] := by rw [h0, h1, h2, h3]

theorem qof_any {ah al : Int} (a : Int) (ha : ah = hi a) (hl : al = lo a) (h0 : -170141183460469231731687303715884105728 ≤ a) (h1 : a < 170141183460469231731687303715884105728) (w : World) :
    Calls Try.prog 18 #[.agg #[.int .i64 ah, .int .u64 al]] w fun e w' => e = .returned (.agg #[.int .u64 (q.dg (a) 0), .int .u64 (q.dg (a) 1), .int .u64 (q.dg (a) 2), .int .u64 (q.dg (a) 3)]) ∧ Below w.heap.size w w' := by
  subst ha hl
  have R := ret_quad (lo_q a) (hi_q a) (sign_q2 a h0 h1) (sign_q3 a h0 h1)
  rw [← R]
  clear R
  go_enter Try.func18, Try.ntmps18
  go_wp2
  refine bodyPost_ret (v := .agg #[.int .u64 (lo a), .int .u64 (IntKind.u64.wrap (hi a)), .int .u64 (IntKind.u64.wrap (hi a / 9223372036854775808)), .int .u64 (IntKind.u64.wrap (hi a / 9223372036854775808))]) (by simp [results, Try.results18, go_sem]) rfl ⟨rfl, ?_⟩
  exact ((Below.refl _ _).alloc (Nat.le_refl _) _).alloc (by simp) _

theorem up_q0 (a : Int) : (0 : Int) = q.dg (a * 340282366920938463463374607431768211456) 0 := by rw [qdg0]; omega
theorem up_q1 (a : Int) : (0 : Int) = q.dg (a * 340282366920938463463374607431768211456) 1 := by rw [qdg1]; omega
theorem up_q2 (a : Int) : lo a = q.dg (a * 340282366920938463463374607431768211456) 2 := by rw [qdg2]; unfold lo; omega
theorem up_q3 (a : Int) : IntKind.u64.wrap (hi a) = q.dg (a * 340282366920938463463374607431768211456) 3 := by rw [qdg3, IntKind.wrap_u64]; unfold hi; omega
theorem upper_any {ah al : Int} (a : Int) (ha : ah = hi a) (hl : al = lo a) (w : World) :
    Calls Try.prog 33 #[.agg #[.int .i64 ah, .int .u64 al]] w fun e w' => e = .returned (.agg #[.int .u64 (q.dg (a * 340282366920938463463374607431768211456) 0), .int .u64 (q.dg (a * 340282366920938463463374607431768211456) 1), .int .u64 (q.dg (a * 340282366920938463463374607431768211456) 2), .int .u64 (q.dg (a * 340282366920938463463374607431768211456) 3)]) ∧ Below w.heap.size w w' := by
  subst ha hl
  have R := ret_quad (up_q0 a) (up_q1 a) (up_q2 a) (up_q3 a)
  rw [← R]
  clear R
  go_enter Try.func33, Try.ntmps33
  go_wp2
  refine bodyPost_ret (v := .agg #[.int .u64 0, .int .u64 0, .int .u64 (lo a), .int .u64 (IntKind.u64.wrap (hi a))]) (by simp [results, Try.results33, go_sem]) rfl ⟨rfl, ?_⟩
  exact ((Below.refl _ _).alloc (Nat.le_refl _) _).alloc (by simp) _

theorem mul64_any (x y : Int) (x0 : 0 ≤ x) (x1 : x < 18446744073709551616) (y0 : 0 ≤ y) (y1 : y < 18446744073709551616) (w : World) :
    Calls Try.prog 42 #[.int .u64 x, .int .u64 y] w fun e w' => e = .returned (.tuple #[.int .u64 (x * y / 18446744073709551616), .int .u64 (x * y % 18446744073709551616)]) ∧ w' = w := by
  go_enter Try.func42, Try.ntmps42
  go_wp2
  go_ret2
  exact ⟨ret_tup2 (mul64_hi x y x0 x1 y0 y1) (IntKind.wrap_u64 _), rfl⟩
theorem prod_range (x y : Int) (x0 : 0 ≤ x) (x1 : x < 18446744073709551616) (y0 : 0 ≤ y) (y1 : y < 18446744073709551616) : 0 ≤ x * y ∧ x * y ≤ 340282366920938463426481119284349108225 := by
  refine ⟨Int.mul_nonneg x0 y0, ?_⟩
  have := Int.mul_le_mul (show x ≤ 18446744073709551615 by omega) (show y ≤ 18446744073709551615 by omega) y0 (by decide)
  omega
theorem mulAdd_hi (p m c : Int) (p0 : 0 ≤ p) (p1 : p ≤ 340282366920938463426481119284349108225) (m0 : 0 ≤ m) (m1 : m < 18446744073709551616) (c0 : 0 ≤ c) (c1 : c < 18446744073709551616) :
    (p / 18446744073709551616 + (p % 18446744073709551616 + m) / 18446744073709551616 + ((p + m) % 18446744073709551616 + c) / 18446744073709551616) = (p + m + c) / 18446744073709551616 := by omega
set_option maxHeartbeats 1000000 in
theorem mulAdd_any (x y m c : Int) (x0 : 0 ≤ x) (x1 : x < 18446744073709551616) (y0 : 0 ≤ y) (y1 : y < 18446744073709551616) (m0 : 0 ≤ m) (m1 : m < 18446744073709551616) (c0 : 0 ≤ c) (c1 : c < 18446744073709551616) (w : World) :
    Calls Try.prog 39 #[.int .u64 x, .int .u64 y, .int .u64 m, .int .u64 c] w fun e w' => e = .returned (.tuple #[.int .u64 ((x * y + m + c) / 18446744073709551616), .int .u64 ((x * y + m + c) % 18446744073709551616)]) ∧ w' = w := by
  obtain ⟨p0, p1⟩ := prod_range x y x0 x1 y0 y1
  have E : Hid _ := mulAdd_hi (x * y) m c p0 p1 m0 m1 c0 c1
  have k0 : 0 ≤ x * y % 18446744073709551616 := by omega
  have k1 : 0 ≤ (x * y + m) % 18446744073709551616 := by omega
  go_enter Try.func39, Try.ntmps39
  go_wp2_with (first
    | (go_at_call 42; refine (mul64_any x y x0 x1 y0 y1 _).mono ?_; rintro e w' ⟨rfl, hw⟩; have hw := hw.symm; subst hw)
    | simp only [add64_0 _ _ k0 m0] | simp only [add64_0 _ _ k1 c0])
  go_ret2
  exact ⟨ret_tup2 E.out rfl, rfl⟩

theorem qdg_high {v : Int} {n j : Nat} (h0 : 0 ≤ v) (h1 : v < 18446744073709551616 ^ n) (hj : n ≤ j) : q.dg v j = 0 := by
  unfold q.dg
  have : v < (18446744073709551616 : Int) ^ j := by
    obtain ⟨d, rfl⟩ : ∃ d, j = n + d := ⟨j - n, by omega⟩
    rw [Int.pow_add]
    have hp := q.p256 n
    have hd := q.p256 d
    have := Int.mul_le_mul_of_nonneg_left (show (1 : Int) ≤ 18446744073709551616 ^ d by omega) (Int.le_of_lt hp)
    omega
  rw [Int.ediv_eq_zero_of_lt h0 this]
  rfl
theorem low_mul {X Y : Int} (i : Nat) (y0 : 0 ≤ Y) (y1 : Y < 340282366920938463463374607431768211456) : 0 ≤ X % 18446744073709551616 ^ i * Y ∧ X % 18446744073709551616 ^ i * Y < 18446744073709551616 ^ (i + 2) := by
  have hp := q.p256 i
  have a := Int.emod_nonneg X (Int.ne_of_gt hp)
  have a' := Int.emod_lt_of_pos X hp
  refine ⟨Int.mul_nonneg a y0, ?_⟩
  rw [Int.pow_add, pw2]
  have h1 := Int.mul_le_mul (show X % 18446744073709551616 ^ i ≤ 18446744073709551616 ^ i by omega) (Int.le_of_lt y1) y0 (Int.le_of_lt hp)
  rcases Int.lt_or_eq_of_le h1 with h | h
  · exact h
  · exfalso
    have h2 := Int.mul_lt_mul_of_pos_left y1 hp
    have h3 := Int.mul_le_mul_of_nonneg_right (show X % 18446744073709551616 ^ i ≤ 18446744073709551616 ^ i by omega) y0
    omega
/-- The last carry of a round is the digit over the round's digits. -/
theorem cy_last {X Y : Int} (i : Nat) (y0 : 0 ≤ Y) (y1 : Y < 340282366920938463463374607431768211456) :
    q.cy (X % 18446744073709551616 ^ i * Y) (q.dg X i) Y i 2 = q.dg (X % 18446744073709551616 ^ i * Y + q.dg X i * 18446744073709551616 ^ i * Y) (i + 2) := by
  obtain ⟨o0, o1⟩ := low_mul (X := X) i y0 y1
  obtain ⟨d0, d1⟩ := q.dg_range X i
  obtain ⟨r0, r1⟩ := q.cy_range (X % 18446744073709551616 ^ i * Y) (q.dg X i) Y i 2 d0 d1
  unfold q.cy q.tk at r0 r1 ⊢
  rw [Int.emod_eq_of_lt o0 o1, Int.emod_eq_of_lt (b := 18446744073709551616 ^ 2) y0 (by rw [pw2]; exact y1)] at r0 r1 ⊢
  generalize hV : X % 18446744073709551616 ^ i * Y + q.dg X i * 18446744073709551616 ^ i * Y = V at *
  show V / 18446744073709551616 ^ (i + 2) = V / 18446744073709551616 ^ (i + 2) % 18446744073709551616
  omega
theorem mix_done {X Y : Int} (i : Nat) (hi : i < 2) (y0 : 0 ≤ Y) (y1 : Y < 340282366920938463463374607431768211456) :
    (q.mix 4 (i + 2) (X % 18446744073709551616 ^ i * Y + q.dg X i * 18446744073709551616 ^ i * Y) (X % 18446744073709551616 ^ i * Y)).set (i + 2) (.int .u64 (q.cy (X % 18446744073709551616 ^ i * Y) (q.dg X i) Y i 2)) = q.dcells 4 (X % 18446744073709551616 ^ (i + 1) * Y) := by
  rw [cy_last i y0 y1, q.mix_set, q.mul_next, ← q.mix_full 4 _ 0]
  obtain ⟨o0, o1⟩ := low_mul (X := X) i y0 y1
  obtain ⟨s0, s1⟩ := low_mul (X := X) (i + 1) y0 y1
  refine q.fill_congr fun j hj => ?_
  by_cases h : j < i + 2 + 1
  · simp [h, hj]
  · simp [h, hj]
    rw [qdg_high o0 o1 (by omega), qdg_high s0 s1 (by omega)]

/-- What holds at the head of each round of both loops of the product: both factors' words in blocks of their own, and a row at the product's. -/
structure MulRel (w : World) (X Y : Int) (bx by' : Nat) (cs : List Value) (wr : World) : Prop where
  rx : Row wr bx (q.dcells 2 X)
  ry : Row wr by' (q.dcells 2 Y)
  rz : Row wr (w.heap.size + 1 + 1) (q.dcells 4 0)
  rp : Row wr (w.heap.size + 1 + 1 + 1 + 1 + 1) cs
  bel : Below w.heap.size w wr
  size : w.heap.size + 1 + 1 + 1 + 1 + 1 < wr.heap.size
theorem MulRel.set {w wr : World} {X Y : Int} {bx by' : Nat} {cs : List Value} (h : MulRel w X Y bx by' cs wr) (hx : bx ≠ w.heap.size + 1 + 1 + 1 + 1 + 1) (hy : by' ≠ w.heap.size + 1 + 1 + 1 + 1 + 1) (i : Nat) (hi : i < cs.length) (v : Value) :
    MulRel w X Y bx by' (cs.set i v) (wr.setCell ⟨w.heap.size + 1 + 1 + 1 + 1 + 1, i, none⟩ v) :=
  ⟨h.rx.other _ (Ne.symm hx), h.ry.other _ (Ne.symm hy), h.rz.other _ (by omega), h.rp.set i v hi, h.bel.setCell (by show _ ≤ w.heap.size + 1 + 1 + 1 + 1 + 1; omega) _, by simpa using h.size⟩
theorem MulRel.drewN {w wr : World} {X Y : Int} {bx by' : Nat} {cs : List Value} (h : MulRel w X Y bx by' cs wr) (n : Nat) : MulRel w X Y bx by' cs (wr.drewN n) :=
  ⟨h.rx.drewN n, h.ry.drewN n, h.rz.drewN n, h.rp.drewN n, below_drewN h.bel n, h.size⟩

end Go.Proofs.Ytjlndalcaepofaa
