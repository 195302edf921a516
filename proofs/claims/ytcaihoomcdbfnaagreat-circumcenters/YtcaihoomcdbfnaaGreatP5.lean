/-
  Joined texts, part 5:
  wide.Mul, Cmp, Sign, and the product whose text every law of this layer looks at.
  What package pred's can, area2, dist2, turn, Area2, Orient and Dist2 answer.
  What package pred's turn, Area2, Orient and Dist2 answer.
  What zelligeref03's Cmp, Add and Sub answer.
  What zelligeref03's Mul answers.
  What zelligeref03 answers, with letters for the lengths.
  What zelligeref03 answers, with letters for the lengths, apart from all that was there before.
-/
import Derived.Test.YtcaihoomcdbfnaaGreatP4
namespace Go.Proofs.YtcaihoomcdbfnaaGreat.lw
open Go.RowKit
set_option linter.unusedVariables false
set_option maxRecDepth 100000

theorem u_neg (a : Int) (h0 : a < 0) (h1 : -9223372036854775808 ≤ a) : IntKind.u64.wrap a = a + 18446744073709551616 := by rw [IntKind.wrap_u64]; omega
theorem mul_pp (a b : Int) : wrap64 (a * b / 18446744073709551616) = hi (a * b) := by unfold wrap64 hi; omega
theorem mul_np (a b : Int) (a0 : a < 0) (a1 : -9223372036854775808 ≤ a) : wrap64 (IntKind.u64.wrap (IntKind.u64.wrap a * b / 18446744073709551616 - b)) = hi (a * b) := by
  rw [u_neg a a0 a1, Int.add_mul, IntKind.wrap_u64]; unfold wrap64 hi; omega
theorem mul_pn (a b : Int) (b0 : b < 0) (b1 : -9223372036854775808 ≤ b) : wrap64 (IntKind.u64.wrap (a * IntKind.u64.wrap b / 18446744073709551616 - a)) = hi (a * b) := by
  rw [u_neg b b0 b1, Int.mul_add, IntKind.wrap_u64]; unfold wrap64 hi; omega
theorem mul_nn (a b : Int) (a0 : a < 0) (a1 : -9223372036854775808 ≤ a) (b0 : b < 0) (b1 : -9223372036854775808 ≤ b) : wrap64 (IntKind.u64.wrap (IntKind.u64.wrap (IntKind.u64.wrap a * IntKind.u64.wrap b / 18446744073709551616 - IntKind.u64.wrap b) - IntKind.u64.wrap a)) = hi (a * b) := by
  rw [u_neg a a0 a1, u_neg b b0 b1, Int.add_mul, Int.mul_add, Int.mul_add, IntKind.wrap_u64, IntKind.wrap_u64]; unfold wrap64 hi; omega
theorem lo_pp (a b : Int) : a * b % 18446744073709551616 = lo (a * b) := rfl
theorem lo_np (a b : Int) : IntKind.u64.wrap a * b % 18446744073709551616 = lo (a * b) := by rw [IntKind.wrap_u64]; unfold lo; rw [Int.mul_emod, Int.emod_emod, ← Int.mul_emod]
theorem lo_pn (a b : Int) : a * IntKind.u64.wrap b % 18446744073709551616 = lo (a * b) := by rw [IntKind.wrap_u64]; unfold lo; rw [Int.mul_emod, Int.emod_emod, ← Int.mul_emod]

theorem mul_any_pp (a b : Int) (a0 : -9223372036854775808 ≤ a) (a1 : a ≤ 9223372036854775807) (b0 : -9223372036854775808 ≤ b) (b1 : b ≤ 9223372036854775807) (ha : 0 ≤ a) (hb : 0 ≤ b) (w : World) :
    Calls Tryz.prog 104 #[.int .i64 a, .int .i64 b] w fun e w' => e = .returned (.agg #[.int .i64 (hi (a * b)), .int .u64 (lo (a * b))]) ∧ Below w.heap.size w w' := by
  have va : IntKind.u64.wrap a < 18446744073709551616 := by rw [IntKind.wrap_u64]; omega
  have vb : IntKind.u64.wrap b < 18446744073709551616 := by rw [IntKind.wrap_u64]; omega
  go_enter Tryz.func104, Tryz.ntmps104
  go_wp2_with (go_at_call 110; refine (mul64_any _ _ ha (by omega) hb (by omega) _).mono ?_; rintro e w' ⟨rfl, rfl⟩)
  exact bodyPost_ret (v := .agg #[.int .i64 (hi (a * b)), .int .u64 (lo (a * b))]) (by simp [results, Tryz.results104, go_sem, lo_pp, mul_pp]) rfl ⟨rfl, (Below.refl _ _).alloc (Nat.le_refl _) _⟩
theorem mul_any_np (a b : Int) (a0 : -9223372036854775808 ≤ a) (a1 : a ≤ 9223372036854775807) (b0 : -9223372036854775808 ≤ b) (b1 : b ≤ 9223372036854775807) (ha : a < 0) (hb : 0 ≤ b) (w : World) :
    Calls Tryz.prog 104 #[.int .i64 a, .int .i64 b] w fun e w' => e = .returned (.agg #[.int .i64 (hi (a * b)), .int .u64 (lo (a * b))]) ∧ Below w.heap.size w w' := by
  have va : IntKind.u64.wrap a < 18446744073709551616 := by rw [IntKind.wrap_u64]; omega
  have vb : IntKind.u64.wrap b < 18446744073709551616 := by rw [IntKind.wrap_u64]; omega
  go_enter Tryz.func104, Tryz.ntmps104
  go_wp2_with (go_at_call 110; refine (mul64_any _ _ (wrap_u64_nonneg a) va hb (by omega) _).mono ?_; rintro e w' ⟨rfl, rfl⟩)
  exact bodyPost_ret (v := .agg #[.int .i64 (hi (a * b)), .int .u64 (lo (a * b))]) (by simp [results, Tryz.results104, go_sem, lo_np, mul_np a b ha a0]) rfl ⟨rfl, (Below.refl _ _).alloc (Nat.le_refl _) _⟩
theorem mul_any_pn (a b : Int) (a0 : -9223372036854775808 ≤ a) (a1 : a ≤ 9223372036854775807) (b0 : -9223372036854775808 ≤ b) (b1 : b ≤ 9223372036854775807) (ha : 0 ≤ a) (hb : b < 0) (w : World) :
    Calls Tryz.prog 104 #[.int .i64 a, .int .i64 b] w fun e w' => e = .returned (.agg #[.int .i64 (hi (a * b)), .int .u64 (lo (a * b))]) ∧ Below w.heap.size w w' := by
  have va : IntKind.u64.wrap a < 18446744073709551616 := by rw [IntKind.wrap_u64]; omega
  have vb : IntKind.u64.wrap b < 18446744073709551616 := by rw [IntKind.wrap_u64]; omega
  go_enter Tryz.func104, Tryz.ntmps104
  go_wp2_with (go_at_call 110; refine (mul64_any _ _ ha (by omega) (wrap_u64_nonneg b) vb _).mono ?_; rintro e w' ⟨rfl, rfl⟩)
  exact bodyPost_ret (v := .agg #[.int .i64 (hi (a * b)), .int .u64 (lo (a * b))]) (by simp [results, Tryz.results104, go_sem, lo_pn, mul_pn a b hb b0]) rfl ⟨rfl, (Below.refl _ _).alloc (Nat.le_refl _) _⟩
theorem mul_any_nn (a b : Int) (a0 : -9223372036854775808 ≤ a) (a1 : a ≤ 9223372036854775807) (b0 : -9223372036854775808 ≤ b) (b1 : b ≤ 9223372036854775807) (ha : a < 0) (hb : b < 0) (w : World) :
    Calls Tryz.prog 104 #[.int .i64 a, .int .i64 b] w fun e w' => e = .returned (.agg #[.int .i64 (hi (a * b)), .int .u64 (lo (a * b))]) ∧ Below w.heap.size w w' := by
  have va : IntKind.u64.wrap a < 18446744073709551616 := by rw [IntKind.wrap_u64]; omega
  have vb : IntKind.u64.wrap b < 18446744073709551616 := by rw [IntKind.wrap_u64]; omega
  go_enter Tryz.func104, Tryz.ntmps104
  go_wp2_with (go_at_call 110; refine (mul64_any _ _ (wrap_u64_nonneg a) va (wrap_u64_nonneg b) vb _).mono ?_; rintro e w' ⟨rfl, rfl⟩)
  exact bodyPost_ret (v := .agg #[.int .i64 (hi (a * b)), .int .u64 (lo (a * b))]) (by simp [results, Tryz.results104, go_sem, mul_lo, mul_nn a b ha a0 hb b0]) rfl ⟨rfl, (Below.refl _ _).alloc (Nat.le_refl _) _⟩
theorem mul_any (a b : Int) (a0 : -9223372036854775808 ≤ a) (a1 : a ≤ 9223372036854775807) (b0 : -9223372036854775808 ≤ b) (b1 : b ≤ 9223372036854775807) (w : World) :
    Calls Tryz.prog 104 #[.int .i64 a, .int .i64 b] w fun e w' => e = .returned (.agg #[.int .i64 (hi (a * b)), .int .u64 (lo (a * b))]) ∧ Below w.heap.size w w' := by
  rcases Int.lt_or_le a 0 with ha | ha <;> rcases Int.lt_or_le b 0 with hb | hb
  · exact mul_any_nn a b a0 a1 b0 b1 ha hb w
  · exact mul_any_np a b a0 a1 b0 b1 ha hb w
  · exact mul_any_pn a b a0 a1 b0 b1 ha hb w
  · exact mul_any_pp a b a0 a1 b0 b1 ha hb w

theorem cmp_hi (a b : Int) (a0 : -170141183460469231731687303715884105728 ≤ a) (a1 : a < 170141183460469231731687303715884105728) (b0 : -170141183460469231731687303715884105728 ≤ b) (b1 : b < 170141183460469231731687303715884105728) (h : hi a ≠ hi b) : cmpI (hi a) (hi b) = cmpI a b := by
  have e : hi a = a / 18446744073709551616 := by unfold hi; omega
  have e' : hi b = b / 18446744073709551616 := by unfold hi; omega
  rw [e, e'] at h ⊢; unfold cmpI; split <;> split <;> (try split) <;> (try split) <;> omega
theorem cmp_lo (a b : Int) (a0 : -170141183460469231731687303715884105728 ≤ a) (a1 : a < 170141183460469231731687303715884105728) (b0 : -170141183460469231731687303715884105728 ≤ b) (b1 : b < 170141183460469231731687303715884105728) (h : hi a = hi b) : cmpI (lo a) (lo b) = cmpI a b := by
  have e : hi a = a / 18446744073709551616 := by unfold hi; omega
  have e' : hi b = b / 18446744073709551616 := by unfold hi; omega
  rw [e, e'] at h; unfold cmpI lo; split <;> split <;> (try split) <;> (try split) <;> omega
theorem cmp_any {ah al bh bl : Int} (a b : Int) (ha : ah = hi a) (hl : al = lo a) (hb : bh = hi b) (hm : bl = lo b) (a0 : -170141183460469231731687303715884105728 ≤ a) (a1 : a < 170141183460469231731687303715884105728) (b0 : -170141183460469231731687303715884105728 ≤ b) (b1 : b < 170141183460469231731687303715884105728) (w : World) :
    Calls Tryz.prog 86 #[.agg #[.int .i64 ah, .int .u64 al], .agg #[.int .i64 bh, .int .u64 bl]] w fun e w' => e = .returned (.int .i64 (cmpI a b)) ∧ Below w.heap.size w w' := by
  subst ha hl hb hm
  by_cases g : hi a = hi b
  · have E : Hid _ := cmp_lo a b a0 a1 b0 b1 g
    have g' : (hi a == hi b) = true := by simpa using g
    clear g
    go_enter Tryz.func86, Tryz.ntmps86
    go_wp2_with (go_at_call 78; refine (cmpU64_any _ _ _).mono ?_; rintro e w' ⟨rfl, rfl⟩)
    go_ret
    exact ⟨ret_int E.out, ((Below.refl _ _).alloc (Nat.le_refl _) _).alloc (by simp) _⟩
  · have E : Hid _ := cmp_hi a b a0 a1 b0 b1 g
    have g' : (hi a == hi b) = false := by simpa using g
    clear g
    go_enter Tryz.func86, Tryz.ntmps86
    go_wp2_with (go_at_call 77; refine (cmpI64_any _ _ _).mono ?_; rintro e w' ⟨rfl, rfl⟩)
    go_ret
    exact ⟨ret_int E.out, ((Below.refl _ _).alloc (Nat.le_refl _) _).alloc (by simp) _⟩
theorem sign_any {ah al : Int} (a : Int) (ha : ah = hi a) (hl : al = lo a) (a0 : -170141183460469231731687303715884105728 ≤ a) (a1 : a < 170141183460469231731687303715884105728) (w : World) :
    Calls Tryz.prog 50 #[.agg #[.int .i64 ah, .int .u64 al]] w fun e w' => e = .returned (.int .i64 (cmpI a 0)) ∧ Below w.heap.size w w' := by
  subst ha hl
  go_enter Tryz.func50, Tryz.ntmps50
  go_wp2_with (go_at_call 86; refine (cmp_any a 0 rfl rfl hi_0 lo_0 a0 a1 (by decide) (by decide) _).mono ?_; rintro e w' ⟨rfl, hb⟩)
  go_ret
  exact ⟨rfl, ((Below.refl _ _).alloc (Nat.le_refl _) _).trans (hb.mono (by simp))⟩
end Go.Proofs.YtcaihoomcdbfnaaGreat.lw

namespace Go.Proofs.YtcaihoomcdbfnaaGreat
open Go.RowKit
set_option linter.unusedVariables false

/-- The cells of points, one behind the other. -/
def pcells : List (Int × Int) → List Value
  | [] => []
  | p :: l => .int .i64 p.1 :: .int .i64 p.2 :: pcells l
theorem pcells_at : ∀ (L : List (Int × Int)) (k : Nat) (x y : Int), L[k]? = some (x, y) → (pcells L)[k * 2]? = some (.int .i64 x) ∧ (pcells L)[k * 2 + 1]? = some (.int .i64 y)
  | [], k, x, y, h => by simp at h
  | p :: l, 0, x, y, h => by simp at h; subst h; exact ⟨rfl, rfl⟩
  | p :: l, k + 1, x, y, h => by
    have h' : l[k]? = some (x, y) := by simpa using h
    have := pcells_at l k x y h'
    have e1 : (k + 1) * 2 = k * 2 + 1 + 1 := by omega
    rw [e1]
    exact ⟨this.1, this.2⟩
/-- Whether all points can be. -/
def canAll (L : List (Int × Int)) : Bool := L.all fun p => canC p.1 p.2
theorem canAll_drop {L : List (Int × Int)} {k : Nat} {x y : Int} (h : L[k]? = some (x, y)) : canAll (L.drop k) = (canC x y && canAll (L.drop (k + 1))) := by
  obtain ⟨hk, he⟩ := List.getElem?_eq_some_iff.1 h
  rw [List.drop_eq_getElem_cons hk, he]
  rfl
theorem lw_sign (x : Int) : lw.cmpI x 0 = x.sign := cmp_sign x
set_option maxRecDepth 100000 in
theorem pcan (L : List (Int × Int)) (n b : Nat) (w : World) (hn : n = L.length) (hs : n ≤ 1000) (hr : Row w b (pcells L)) (hb : b < w.heap.size) {r : Bool} (hres : r = canAll L) : Calls Tryz.prog 84 #[.slice (some ⟨b, 0, none⟩) n n] w fun e w' => e = .returned (.bool r) ∧ Below w.heap.size w w' := by
  subst hn
  have HR : Hid _ := hres
  clear hres
  go_enter Tryz.func84, Tryz.ntmps84
  go_wp2
  go_loopw [7] (fun i wr => ∃ k : Nat, k ≤ L.length ∧ i = .int .i64 (k : Int) ∧ canAll L = canAll (L.drop k) ∧ Below w.heap.size w wr) (fun i _ => L.length - (intOf i).toNat)
  case atStart => exact ⟨0, by omega, rfl, rfl, Below.refl _ _⟩
  case round =>
    obtain ⟨k, hk, rfl, hd, bel⟩ := hrel
    by_cases hlt : k < L.length
    · obtain ⟨x, y, hxy⟩ : ∃ x y, L[k]? = some (x, y) := ⟨L[k].1, L[k].2, by rw [List.getElem?_eq_getElem hlt]⟩
      obtain ⟨c1, c2⟩ := pcells_at L k x y hxy
      have hr' := hr.below bel hb
      have q1 := hr'.cell _ _ c1
      have q2 := hr'.cell _ _ c2
      rw [canAll_drop hxy] at hd
      have HD : Hid _ := hd
      clear hr hr' hxy c1 c2 hd
      obtain ⟨V, hV, bV, x_p, sV⟩ := bs_2 wr (.int .i64 x) (.int .i64 y) 23
      cases hc : canC x y
      · go_wp2_with (go_at_call 102; fail)
        rw [← hV]
        clear hV
        refine (lCan x y V hc.symm).mono ?_
        rintro e w1 ⟨rfl, b1⟩
        go_wp2
        go_ret
        exact ⟨by rw [HR.out, HD.out, hc]; rfl, also (also bel bV) b1⟩
      · go_wp2_with (go_at_call 102; fail)
        rw [← hV]
        clear hV
        refine (lCan x y V hc.symm).mono ?_
        rintro e w1 ⟨rfl, b1⟩
        have hw : wrap64 ((k : Int) + 1) = (k : Int) + 1 := wrap_in (by omega) (by omega)
        go_wp2
        go_roundw
        case rel => exact ⟨k + 1, by omega, by simp, by rw [HD.out, hc]; rfl, also (also bel bV) b1⟩
        case measure => simp [intOf]; omega
    · obtain rfl : k = L.length := by omega
      go_wp2
      go_ret
      exact ⟨by rw [HR.out, hd, List.drop_length]; rfl, bel⟩
theorem can3 {a1 a2 b1 b2 c1 c2 : Int} : canAll [(a1, a2), (b1, b2), (c1, c2)] = true ↔ (canC a1 a2 = true ∧ canC b1 b2 = true ∧ canC c1 c2 = true) := by simp [canAll]
theorem can2 {a1 a2 b1 b2 : Int} : canAll [(a1, a2), (b1, b2)] = true ↔ (canC a1 a2 = true ∧ canC b1 b2 = true) := by simp [canAll]
/-- Differences of points that can be. -/
theorem can_sub {x y : Int} (hx : inC x = true) (hy : inC y = true) : wrap64 (x - y) = x - y ∧ -9223372036854775808 ≤ x - y ∧ x - y ≤ 9223372036854775807 := by
  have h := can_diff hx hy
  exact ⟨wrap_in (by omega) (by omega), by omega, by omega⟩
/-- Twice the area, the square of the distance, as they are told: nought, if a point can't be. -/
def arP (a1 a2 b1 b2 c1 c2 : Int) : Int := if canAll [(a1, a2), (b1, b2), (c1, c2)] then areaP a1 a2 b1 b2 c1 c2 else 0
def diP (a1 a2 b1 b2 : Int) : Int := if canAll [(a1, a2), (b1, b2)] then distP a1 a2 b1 b2 else 0
theorem area_wide {a1 a2 b1 b2 c1 c2 : Int} (ha : canC a1 a2 = true) (hb : canC b1 b2 = true) (hc : canC c1 c2 = true) : -10000000000000000000000000 ≤ areaP a1 a2 b1 b2 c1 c2 ∧ areaP a1 a2 b1 b2 c1 c2 ≤ 10000000000000000000000000 := by
  have h := area_abs (D := 2199023255552) (can_diff (canC_true.1 hb).1 (canC_true.1 ha).1) (can_diff (canC_true.1 hb).2 (canC_true.1 ha).2) (can_diff (canC_true.1 hc).1 (canC_true.1 ha).1) (can_diff (canC_true.1 hc).2 (canC_true.1 ha).2)
  omega
theorem dist_wide {a1 a2 b1 b2 : Int} (ha : canC a1 a2 = true) (hb : canC b1 b2 = true) : 0 ≤ distP a1 a2 b1 b2 ∧ distP a1 a2 b1 b2 ≤ 10000000000000000000000000 := by
  have h := dist_abs (D := 2199023255552) (can_diff (canC_true.1 hb).1 (canC_true.1 ha).1) (can_diff (canC_true.1 hb).2 (canC_true.1 ha).2)
  have := dist_nonneg a1 a2 b1 b2
  omega
set_option maxRecDepth 100000 in
set_option maxHeartbeats 4000000 in
theorem parea (a1 a2 b1 b2 c1 c2 : Int) (w : World) (ha : canC a1 a2 = true) (hb : canC b1 b2 = true) (hc : canC c1 c2 = true) {u v : Int} (hu : u = lw.hi (areaP a1 a2 b1 b2 c1 c2)) (hv : v = lw.lo (areaP a1 a2 b1 b2 c1 c2)) :
    Calls Tryz.prog 85 #[.agg #[.int .i64 a1, .int .i64 a2], .agg #[.int .i64 b1, .int .i64 b2], .agg #[.int .i64 c1, .int .i64 c2]] w fun e w' => e = .returned (.agg #[.int .i64 u, .int .u64 v]) ∧ Below w.heap.size w w' := by
  obtain ⟨x, hx⟩ : ∃ x, x = b1 - a1 := ⟨_, rfl⟩
  have c_x := can_sub (canC_true.1 hb).1 (canC_true.1 ha).1
  rw [← hx] at c_x
  have w_x : wrap64 (b1 - a1) = x := by rw [← hx]; exact c_x.1
  have v_x : IntKind.i64.wrap (b1 - a1) = x := (wrap_i64 _).trans w_x
  have R_x : Hid _ := c_x.2
  have E_x : Hid _ := hx
  clear c_x hx
  obtain ⟨y, hy⟩ : ∃ y, y = c2 - a2 := ⟨_, rfl⟩
  have c_y := can_sub (canC_true.1 hc).2 (canC_true.1 ha).2
  rw [← hy] at c_y
  have w_y : wrap64 (c2 - a2) = y := by rw [← hy]; exact c_y.1
  have v_y : IntKind.i64.wrap (c2 - a2) = y := (wrap_i64 _).trans w_y
  have R_y : Hid _ := c_y.2
  have E_y : Hid _ := hy
  clear c_y hy
  obtain ⟨z, hz⟩ : ∃ z, z = b2 - a2 := ⟨_, rfl⟩
  have c_z := can_sub (canC_true.1 hb).2 (canC_true.1 ha).2
  rw [← hz] at c_z
  have w_z : wrap64 (b2 - a2) = z := by rw [← hz]; exact c_z.1
  have v_z : IntKind.i64.wrap (b2 - a2) = z := (wrap_i64 _).trans w_z
  have R_z : Hid _ := c_z.2
  have E_z : Hid _ := hz
  clear c_z hz
  obtain ⟨t, ht⟩ : ∃ t, t = c1 - a1 := ⟨_, rfl⟩
  have c_t := can_sub (canC_true.1 hc).1 (canC_true.1 ha).1
  rw [← ht] at c_t
  have w_t : wrap64 (c1 - a1) = t := by rw [← ht]; exact c_t.1
  have v_t : IntKind.i64.wrap (c1 - a1) = t := (wrap_i64 _).trans w_t
  have R_t : Hid _ := c_t.2
  have E_t : Hid _ := ht
  clear c_t ht
  have HU : Hid (u = lw.hi (x * y - z * t)) := by unfold Hid; rw [hu, E_x.out, E_y.out, E_z.out, E_t.out]; rfl
  have HV : Hid (v = lw.lo (x * y - z * t)) := by unfold Hid; rw [hv, E_x.out, E_y.out, E_z.out, E_t.out]; rfl
  clear hu hv ha hb hc
  obtain ⟨W, hW, bW, x_a, x_b, x_c, x_r, sW⟩ := bs_2222 w (.int .i64 a1) (.int .i64 a2) (.int .i64 b1) (.int .i64 b2) (.int .i64 c1) (.int .i64 c2) (.int .i64 0) (.int .u64 0) 23 23 23 61
  have zbW := bW.size
  have BB := bW
  go_enter Tryz.func85, Tryz.ntmps85
  go_wp2
  rw [← hW]
  clear hW
  have dd1 : Below W.heap.size W W.drew := (Below.refl _ _).drew
  have zdd1 := dd1.size
  replace BB := also BB dd1
  replace x_a := x_a.on dd1
  replace x_b := x_b.on dd1
  replace x_c := x_c.on dd1
  replace x_r := x_r.on dd1
  refine wp_region_held_drew (S := (fun w' => w'.cell? ⟨w.heap.size, 0, none⟩ = some (.int .i64 a1) ∧ w'.cell? ⟨w.heap.size, 1, none⟩ = some (.int .i64 a2) ∧ w'.cell? ⟨w.heap.size + 1, 0, none⟩ = some (.int .i64 b1) ∧ w'.cell? ⟨w.heap.size + 1, 1, none⟩ = some (.int .i64 b2) ∧ w'.cell? ⟨w.heap.size + 1 + 1, 0, none⟩ = some (.int .i64 c1) ∧ w'.cell? ⟨w.heap.size + 1 + 1, 1, none⟩ = some (.int .i64 c2) ∧ Below w.heap.size w w')) (by kernel_rfl) ?_ (fun hHeld => ?_)
  · exact ⟨x_a.c0, x_a.c1, x_b.c0, x_b.c1, x_c.c0, x_c.c1, BB⟩
  refine take_yes (i := 0) (v := ?vs0) rfl (by kernel_rfl) (by kernel_rfl) (by kernel_rfl) (fun _ _ _ h => h) (by rfl) (by assumption) ?hys0 ?rests0
  case hys0 => (intro w hSw; (try dsimp only at hSw); first | (go_simp; done) | (go_simp; with_reducible rfl))
  simp only [Act.put, List.setIfInBounds_toArray, List.set_cons_zero, List.set_cons_succ]
  refine take_yes (i := 1) (v := ?vs1) rfl (by kernel_rfl) (by kernel_rfl) (by kernel_rfl) (fun _ _ _ h => h) (by rfl) (by assumption) ?hys1 ?rests1
  case hys1 => (intro w hSw; (try dsimp only at hSw); first | (go_simp; done) | (go_simp; with_reducible rfl))
  simp only [Act.put, List.setIfInBounds_toArray, List.set_cons_zero, List.set_cons_succ]
  refine take_yes (i := 2) (v := ?vs2) rfl (by kernel_rfl) (by kernel_rfl) (by kernel_rfl) (fun _ _ _ h => h) (by rfl) (by assumption) ?hys2 ?rests2
  case hys2 => (intro w hSw; (try dsimp only at hSw); first | (go_simp; done) | (go_simp; with_reducible rfl))
  simp only [Act.put, List.setIfInBounds_toArray, List.set_cons_zero, List.set_cons_succ]
  refine take_yes (i := 3) (v := ?vs3) rfl (by kernel_rfl) (by kernel_rfl) (by kernel_rfl) (fun _ _ _ h => h) (by rfl) (by assumption) ?hys3 ?rests3
  case hys3 => (intro w hSw; (try dsimp only at hSw); first | (go_simp; done) | (go_simp; with_reducible rfl))
  simp only [Act.put, List.setIfInBounds_toArray, List.set_cons_zero, List.set_cons_succ]
  refine take_yes (i := 4) (v := ?vs4) rfl (by kernel_rfl) (by kernel_rfl) (by kernel_rfl) (fun _ _ _ h => h) (by rfl) (by assumption) ?hys4 ?rests4
  case hys4 => (intro w hSw; (try dsimp only at hSw); first | (go_simp; done) | (go_simp; with_reducible rfl))
  simp only [Act.put, List.setIfInBounds_toArray, List.set_cons_zero, List.set_cons_succ]
  refine take_yes (i := 5) (v := ?vs5) rfl (by kernel_rfl) (by kernel_rfl) (by kernel_rfl) (fun _ _ _ h => h) (by rfl) (by assumption) ?hys5 ?rests5
  case hys5 => (intro w hSw; (try dsimp only at hSw); first | (go_simp; done) | (go_simp; with_reducible rfl))
  simp only [Act.put, List.setIfInBounds_toArray, List.set_cons_zero, List.set_cons_succ]
  refine take_yes (i := 6) (v := ?vs6) rfl (by kernel_rfl) (by kernel_rfl) (by kernel_rfl) (fun _ _ _ h => h) (by rfl) (by assumption) ?hys6 ?rests6
  case hys6 => (intro w hSw; (try dsimp only at hSw); first | (go_simp; done) | (go_simp; with_reducible rfl))
  simp only [Act.put, List.setIfInBounds_toArray, List.set_cons_zero, List.set_cons_succ]
  refine take_yes (i := 7) (v := ?vs7) rfl (by kernel_rfl) (by kernel_rfl) (by kernel_rfl) (fun _ _ _ h => h) (by rfl) (by assumption) ?hys7 ?rests7
  case hys7 => (intro w hSw; (try dsimp only at hSw); first | (go_simp; done) | (go_simp; with_reducible rfl))
  simp only [Act.put, List.setIfInBounds_toArray, List.set_cons_zero, List.set_cons_succ]
  refine take_yes (i := 8) (v := ?vs8) rfl (by kernel_rfl) (by kernel_rfl) (by kernel_rfl) (fun _ _ _ h => h) (by rfl) (by assumption) ?hys8 ?rests8
  case hys8 => (intro w hSw; (try dsimp only at hSw); first | (go_simp; done) | (go_simp; with_reducible rfl))
  simp only [Act.put, List.setIfInBounds_toArray, List.set_cons_zero, List.set_cons_succ]
  refine take_yes (i := 9) (v := ?vs9) rfl (by kernel_rfl) (by kernel_rfl) (by kernel_rfl) (fun _ _ _ h => h) (by rfl) (by assumption) ?hys9 ?rests9
  case hys9 => (intro w hSw; (try dsimp only at hSw); first | (go_simp; done) | (go_simp; with_reducible rfl))
  simp only [Act.put, List.setIfInBounds_toArray, List.set_cons_zero, List.set_cons_succ]
  refine take_yes (i := 11) (v := ?vs11) rfl (by kernel_rfl) (by kernel_rfl) (by kernel_rfl) (fun _ _ _ h => h) (by rfl) (by assumption) ?hys11 ?rests11
  case hys11 => (intro w hSw; (try dsimp only at hSw); first | (go_simp; done) | (go_simp; with_reducible rfl))
  simp only [Act.put, List.setIfInBounds_toArray, List.set_cons_zero, List.set_cons_succ]
  refine take_yes (i := 12) (v := ?vs12) rfl (by kernel_rfl) (by kernel_rfl) (by kernel_rfl) (fun _ _ _ h => h) (by rfl) (by assumption) ?hys12 ?rests12
  case hys12 => (intro w hSw; (try dsimp only at hSw); first | (go_simp; done) | (go_simp; with_reducible rfl))
  simp only [Act.put, List.setIfInBounds_toArray, List.set_cons_zero, List.set_cons_succ]
  refine take_yes (i := 13) (v := ?vs13) rfl (by kernel_rfl) (by kernel_rfl) (by kernel_rfl) (fun _ _ _ h => h) (by rfl) (by assumption) ?hys13 ?rests13
  case hys13 => (intro w hSw; (try dsimp only at hSw); first | (go_simp; done) | (go_simp; with_reducible rfl))
  simp only [Act.put, List.setIfInBounds_toArray, List.set_cons_zero, List.set_cons_succ]
  refine take_yes (i := 14) (v := ?vs14) rfl (by kernel_rfl) (by kernel_rfl) (by kernel_rfl) (fun _ _ _ h => h) (by rfl) (by assumption) ?hys14 ?rests14
  case hys14 => (intro w hSw; (try dsimp only at hSw); first | (go_simp; done) | (go_simp; with_reducible rfl))
  simp only [Act.put, List.setIfInBounds_toArray, List.set_cons_zero, List.set_cons_succ]
  refine take_yes (i := 15) (v := ?vs15) rfl (by kernel_rfl) (by kernel_rfl) (by kernel_rfl) (fun _ _ _ h => h) (by rfl) (by assumption) ?hys15 ?rests15
  case hys15 => (intro w hSw; (try dsimp only at hSw); first | (go_simp; done) | (go_simp; with_reducible rfl))
  simp only [Act.put, List.setIfInBounds_toArray, List.set_cons_zero, List.set_cons_succ]
  refine take_yes (i := 16) (v := ?vs16) rfl (by kernel_rfl) (by kernel_rfl) (by kernel_rfl) (fun _ _ _ h => h) (by rfl) (by assumption) ?hys16 ?rests16
  case hys16 => (intro w hSw; (try dsimp only at hSw); first | (go_simp; done) | (go_simp; with_reducible rfl))
  simp only [Act.put, List.setIfInBounds_toArray, List.set_cons_zero, List.set_cons_succ]
  refine take_yes (i := 17) (v := ?vs17) rfl (by kernel_rfl) (by kernel_rfl) (by kernel_rfl) (fun _ _ _ h => h) (by rfl) (by assumption) ?hys17 ?rests17
  case hys17 => (intro w hSw; (try dsimp only at hSw); first | (go_simp; done) | (go_simp; with_reducible rfl))
  simp only [Act.put, List.setIfInBounds_toArray, List.set_cons_zero, List.set_cons_succ]
  refine take_yes (i := 18) (v := ?vs18) rfl (by kernel_rfl) (by kernel_rfl) (by kernel_rfl) (fun _ _ _ h => h) (by rfl) (by assumption) ?hys18 ?rests18
  case hys18 => (intro w hSw; (try dsimp only at hSw); first | (go_simp; done) | (go_simp; with_reducible rfl))
  simp only [Act.put, List.setIfInBounds_toArray, List.set_cons_zero, List.set_cons_succ]
  refine take_yes (i := 19) (v := ?vs19) rfl (by kernel_rfl) (by kernel_rfl) (by kernel_rfl) (fun _ _ _ h => h) (by rfl) (by assumption) ?hys19 ?rests19
  case hys19 => (intro w hSw; (try dsimp only at hSw); first | (go_simp; done) | (go_simp; with_reducible rfl))
  simp only [Act.put, List.setIfInBounds_toArray, List.set_cons_zero, List.set_cons_succ]
  refine take_yes (i := 20) (v := ?vs20) rfl (by kernel_rfl) (by kernel_rfl) (by kernel_rfl) (fun _ _ _ h => h) (by rfl) (by assumption) ?hys20 ?rests20
  case hys20 => (intro w hSw; (try dsimp only at hSw); first | (go_simp; done) | (go_simp; with_reducible rfl))
  simp only [Act.put, List.setIfInBounds_toArray, List.set_cons_zero, List.set_cons_succ]
  refine take_call (i := 10) rfl (by kernel_rfl) (fun Kc hK => ?_)
  go_simp
  (go_at_call 104; refine (lw.mul_any x y R_x.out.1 R_x.out.2 R_y.out.1 R_y.out.2 _).mono ?_; rintro e w1 ⟨rfl, bw1⟩)
  refine hK.out _ _ ?_ (fun hHeld => ?_)
  · exact ⟨cell_on bw1 hHeld.1, cell_on bw1 hHeld.2.1, cell_on bw1 hHeld.2.2.1, cell_on bw1 hHeld.2.2.2.1, cell_on bw1 hHeld.2.2.2.2.1, cell_on bw1 hHeld.2.2.2.2.2.1, also hHeld.2.2.2.2.2.2 bw1⟩
  clear hK Kc
  have zbw1 := bw1.size
  replace BB := also BB bw1
  replace x_a := x_a.on bw1
  replace x_b := x_b.on bw1
  replace x_c := x_c.on bw1
  replace x_r := x_r.on bw1
  refine take_call (i := 21) rfl (by kernel_rfl) (fun Kc hK => ?_)
  go_simp
  (go_at_call 104; refine (lw.mul_any z t R_z.out.1 R_z.out.2 R_t.out.1 R_t.out.2 _).mono ?_; rintro e w2 ⟨rfl, bw2⟩)
  refine hK.out _ _ ?_ (fun hHeld => ?_)
  · exact ⟨cell_on bw2 hHeld.1, cell_on bw2 hHeld.2.1, cell_on bw2 hHeld.2.2.1, cell_on bw2 hHeld.2.2.2.1, cell_on bw2 hHeld.2.2.2.2.1, cell_on bw2 hHeld.2.2.2.2.2.1, also hHeld.2.2.2.2.2.2 bw2⟩
  clear hK Kc
  have zbw2 := bw2.size
  replace BB := also BB bw2
  replace x_a := x_a.on bw2
  replace x_b := x_b.on bw2
  replace x_c := x_c.on bw2
  replace x_r := x_r.on bw2
  refine take_call (i := 22) rfl (by kernel_rfl) (fun Kc hK => ?_)
  go_simp
  (go_at_call 103; refine (lw.sub_any (x * y) (z * t) rfl rfl rfl rfl _).mono ?_; rintro e w3 ⟨rfl, bw3⟩)
  refine hK.out _ _ ?_ (fun hHeld => ?_)
  · exact ⟨cell_on bw3 hHeld.1, cell_on bw3 hHeld.2.1, cell_on bw3 hHeld.2.2.1, cell_on bw3 hHeld.2.2.2.1, cell_on bw3 hHeld.2.2.2.2.1, cell_on bw3 hHeld.2.2.2.2.2.1, also hHeld.2.2.2.2.2.2 bw3⟩
  clear hK Kc
  have zbw3 := bw3.size
  replace BB := also BB bw3
  replace x_a := x_a.on bw3
  replace x_b := x_b.on bw3
  replace x_c := x_c.on bw3
  replace x_r := x_r.on bw3
  have ⟨x_r_0, x_r_1, x_r_2, x_r_3⟩ := x_r
  refine take_call (i := 23) rfl (by kernel_rfl) (fun Kc hK => ?_)
  go_simp
  refine hK.out _ _ ?_ (fun hHeld => ?_)
  · first | exact ⟨cell_put2 hHeld.1 (by omega) _ _, cell_put2 hHeld.2.1 (by omega) _ _, cell_put2 hHeld.2.2.1 (by omega) _ _, cell_put2 hHeld.2.2.2.1 (by omega) _ _, cell_put2 hHeld.2.2.2.2.1 (by omega) _ _, cell_put2 hHeld.2.2.2.2.2.1 (by omega) _ _, below_put2 hHeld.2.2.2.2.2.2 (by omega) _ _⟩ | exact ⟨x_a.c0, x_a.c1, x_b.c0, x_b.c1, x_c.c0, x_c.c1, BB⟩
  clear hK Kc
  refine wpAnyH_done (by kernel_rfl) ?_ _
  go_wp2
  exact bodyPost_ret (v := .agg #[.int .i64 (lw.hi (x * y - z * t)), .int .u64 (lw.lo (x * y - z * t))]) (by simp [results, Tryz.results85, go_sem, *]) rfl (⟨by rw [HU.out, HV.out], below_put2 BB (by omega) _ _⟩)
set_option maxRecDepth 100000 in
set_option maxHeartbeats 4000000 in
theorem pdist (a1 a2 b1 b2 : Int) (w : World) (ha : canC a1 a2 = true) (hb : canC b1 b2 = true) {u v : Int} (hu : u = lw.hi (distP a1 a2 b1 b2)) (hv : v = lw.lo (distP a1 a2 b1 b2)) :
    Calls Tryz.prog 87 #[.agg #[.int .i64 a1, .int .i64 a2], .agg #[.int .i64 b1, .int .i64 b2]] w fun e w' => e = .returned (.agg #[.int .i64 u, .int .u64 v]) ∧ Below w.heap.size w w' := by
  obtain ⟨x, hx⟩ : ∃ x, x = b1 - a1 := ⟨_, rfl⟩
  have c_x := can_sub (canC_true.1 hb).1 (canC_true.1 ha).1
  rw [← hx] at c_x
  have w_x : wrap64 (b1 - a1) = x := by rw [← hx]; exact c_x.1
  have v_x : IntKind.i64.wrap (b1 - a1) = x := (wrap_i64 _).trans w_x
  have R_x : Hid _ := c_x.2
  have E_x : Hid _ := hx
  clear c_x hx
  obtain ⟨y, hy⟩ : ∃ y, y = b2 - a2 := ⟨_, rfl⟩
  have c_y := can_sub (canC_true.1 hb).2 (canC_true.1 ha).2
  rw [← hy] at c_y
  have w_y : wrap64 (b2 - a2) = y := by rw [← hy]; exact c_y.1
  have v_y : IntKind.i64.wrap (b2 - a2) = y := (wrap_i64 _).trans w_y
  have R_y : Hid _ := c_y.2
  have E_y : Hid _ := hy
  clear c_y hy
  have HU : Hid (u = lw.hi (x * x + y * y)) := by unfold Hid; rw [hu, E_x.out, E_y.out]; rfl
  have HV : Hid (v = lw.lo (x * x + y * y)) := by unfold Hid; rw [hv, E_x.out, E_y.out]; rfl
  clear hu hv ha hb
  obtain ⟨W, hW, bW, x_a, x_b, x_r, sW⟩ := bs_222 w (.int .i64 a1) (.int .i64 a2) (.int .i64 b1) (.int .i64 b2) (.int .i64 0) (.int .u64 0) 23 23 61
  have zbW := bW.size
  have BB := bW
  go_enter Tryz.func87, Tryz.ntmps87
  go_wp2
  rw [← hW]
  clear hW
  have dd1 : Below W.heap.size W W.drew := (Below.refl _ _).drew
  have zdd1 := dd1.size
  replace BB := also BB dd1
  replace x_a := x_a.on dd1
  replace x_b := x_b.on dd1
  replace x_r := x_r.on dd1
  refine wp_region_held_drew (S := (fun w' => w'.cell? ⟨w.heap.size, 0, none⟩ = some (.int .i64 a1) ∧ w'.cell? ⟨w.heap.size, 1, none⟩ = some (.int .i64 a2) ∧ w'.cell? ⟨w.heap.size + 1, 0, none⟩ = some (.int .i64 b1) ∧ w'.cell? ⟨w.heap.size + 1, 1, none⟩ = some (.int .i64 b2) ∧ Below w.heap.size w w')) (by kernel_rfl) ?_ (fun hHeld => ?_)
  · exact ⟨x_a.c0, x_a.c1, x_b.c0, x_b.c1, BB⟩
  refine take_yes (i := 0) (v := ?vs0) rfl (by kernel_rfl) (by kernel_rfl) (by kernel_rfl) (fun _ _ _ h => h) (by rfl) (by assumption) ?hys0 ?rests0
  case hys0 => (intro w hSw; (try dsimp only at hSw); first | (go_simp; done) | (go_simp; with_reducible rfl))
  simp only [Act.put, List.setIfInBounds_toArray, List.set_cons_zero, List.set_cons_succ]
  refine take_yes (i := 1) (v := ?vs1) rfl (by kernel_rfl) (by kernel_rfl) (by kernel_rfl) (fun _ _ _ h => h) (by rfl) (by assumption) ?hys1 ?rests1
  case hys1 => (intro w hSw; (try dsimp only at hSw); first | (go_simp; done) | (go_simp; with_reducible rfl))
  simp only [Act.put, List.setIfInBounds_toArray, List.set_cons_zero, List.set_cons_succ]
  refine take_yes (i := 2) (v := ?vs2) rfl (by kernel_rfl) (by kernel_rfl) (by kernel_rfl) (fun _ _ _ h => h) (by rfl) (by assumption) ?hys2 ?rests2
  case hys2 => (intro w hSw; (try dsimp only at hSw); first | (go_simp; done) | (go_simp; with_reducible rfl))
  simp only [Act.put, List.setIfInBounds_toArray, List.set_cons_zero, List.set_cons_succ]
  refine take_yes (i := 3) (v := ?vs3) rfl (by kernel_rfl) (by kernel_rfl) (by kernel_rfl) (fun _ _ _ h => h) (by rfl) (by assumption) ?hys3 ?rests3
  case hys3 => (intro w hSw; (try dsimp only at hSw); first | (go_simp; done) | (go_simp; with_reducible rfl))
  simp only [Act.put, List.setIfInBounds_toArray, List.set_cons_zero, List.set_cons_succ]
  refine take_yes (i := 4) (v := ?vs4) rfl (by kernel_rfl) (by kernel_rfl) (by kernel_rfl) (fun _ _ _ h => h) (by rfl) (by assumption) ?hys4 ?rests4
  case hys4 => (intro w hSw; (try dsimp only at hSw); first | (go_simp; done) | (go_simp; with_reducible rfl))
  simp only [Act.put, List.setIfInBounds_toArray, List.set_cons_zero, List.set_cons_succ]
  refine take_yes (i := 5) (v := ?vs5) rfl (by kernel_rfl) (by kernel_rfl) (by kernel_rfl) (fun _ _ _ h => h) (by rfl) (by assumption) ?hys5 ?rests5
  case hys5 => (intro w hSw; (try dsimp only at hSw); first | (go_simp; done) | (go_simp; with_reducible rfl))
  simp only [Act.put, List.setIfInBounds_toArray, List.set_cons_zero, List.set_cons_succ]
  refine take_yes (i := 6) (v := ?vs6) rfl (by kernel_rfl) (by kernel_rfl) (by kernel_rfl) (fun _ _ _ h => h) (by rfl) (by assumption) ?hys6 ?rests6
  case hys6 => (intro w hSw; (try dsimp only at hSw); first | (go_simp; done) | (go_simp; with_reducible rfl))
  simp only [Act.put, List.setIfInBounds_toArray, List.set_cons_zero, List.set_cons_succ]
  refine take_yes (i := 7) (v := ?vs7) rfl (by kernel_rfl) (by kernel_rfl) (by kernel_rfl) (fun _ _ _ h => h) (by rfl) (by assumption) ?hys7 ?rests7
  case hys7 => (intro w hSw; (try dsimp only at hSw); first | (go_simp; done) | (go_simp; with_reducible rfl))
  simp only [Act.put, List.setIfInBounds_toArray, List.set_cons_zero, List.set_cons_succ]
  refine take_yes (i := 8) (v := ?vs8) rfl (by kernel_rfl) (by kernel_rfl) (by kernel_rfl) (fun _ _ _ h => h) (by rfl) (by assumption) ?hys8 ?rests8
  case hys8 => (intro w hSw; (try dsimp only at hSw); first | (go_simp; done) | (go_simp; with_reducible rfl))
  simp only [Act.put, List.setIfInBounds_toArray, List.set_cons_zero, List.set_cons_succ]
  refine take_yes (i := 9) (v := ?vs9) rfl (by kernel_rfl) (by kernel_rfl) (by kernel_rfl) (fun _ _ _ h => h) (by rfl) (by assumption) ?hys9 ?rests9
  case hys9 => (intro w hSw; (try dsimp only at hSw); first | (go_simp; done) | (go_simp; with_reducible rfl))
  simp only [Act.put, List.setIfInBounds_toArray, List.set_cons_zero, List.set_cons_succ]
  refine take_yes (i := 10) (v := ?vs10) rfl (by kernel_rfl) (by kernel_rfl) (by kernel_rfl) (fun _ _ _ h => h) (by rfl) (by assumption) ?hys10 ?rests10
  case hys10 => (intro w hSw; (try dsimp only at hSw); first | (go_simp; done) | (go_simp; with_reducible rfl))
  simp only [Act.put, List.setIfInBounds_toArray, List.set_cons_zero, List.set_cons_succ]
  refine take_yes (i := 11) (v := ?vs11) rfl (by kernel_rfl) (by kernel_rfl) (by kernel_rfl) (fun _ _ _ h => h) (by rfl) (by assumption) ?hys11 ?rests11
  case hys11 => (intro w hSw; (try dsimp only at hSw); first | (go_simp; done) | (go_simp; with_reducible rfl))
  simp only [Act.put, List.setIfInBounds_toArray, List.set_cons_zero, List.set_cons_succ]
  refine wpAnyH_done (by kernel_rfl) ?_ _
  go_wp2_with (go_at_call 104; fail)
  refine (lw.mul_any x x R_x.out.1 R_x.out.2 R_x.out.1 R_x.out.2 _).mono ?_
  rintro e w1 ⟨rfl, bw1⟩
  have zbw1 := bw1.size
  replace BB := also BB bw1
  replace x_a := x_a.on bw1
  replace x_b := x_b.on bw1
  replace x_r := x_r.on bw1
  go_wp2_with (go_at_call 104; fail)
  refine (lw.mul_any y y R_y.out.1 R_y.out.2 R_y.out.1 R_y.out.2 _).mono ?_
  rintro e w2 ⟨rfl, bw2⟩
  have zbw2 := bw2.size
  replace BB := also BB bw2
  replace x_a := x_a.on bw2
  replace x_b := x_b.on bw2
  replace x_r := x_r.on bw2
  go_wp2_with (go_at_call 24; fail)
  refine (lw.add_any (x * x) (y * y) rfl rfl rfl rfl _).mono ?_
  rintro e w3 ⟨rfl, bw3⟩
  have zbw3 := bw3.size
  replace BB := also BB bw3
  replace x_a := x_a.on bw3
  replace x_b := x_b.on bw3
  replace x_r := x_r.on bw3
  have ⟨x_r_0, x_r_1, x_r_2, x_r_3⟩ := x_r
  go_wp2
  exact bodyPost_ret (v := .agg #[.int .i64 (lw.hi (x * x + y * y)), .int .u64 (lw.lo (x * x + y * y))]) (by simp [results, Tryz.results87, go_sem, *]) rfl (⟨by rw [HU.out, HV.out], below_put2 BB (by omega) _ _⟩)
end Go.Proofs.YtcaihoomcdbfnaaGreat

namespace Go.Proofs.YtcaihoomcdbfnaaGreat
open Go.RowKit
set_option linter.unusedVariables false

set_option maxRecDepth 100000 in
set_option maxHeartbeats 4000000 in
theorem pArea (a1 a2 b1 b2 c1 c2 : Int) (w : World) {u v : Int} (hu : u = lw.hi (arP a1 a2 b1 b2 c1 c2)) (hv : v = lw.lo (arP a1 a2 b1 b2 c1 c2)) :
    Calls Tryz.prog 49 #[.agg #[.int .i64 a1, .int .i64 a2], .agg #[.int .i64 b1, .int .i64 b2], .agg #[.int .i64 c1, .int .i64 c2]] w fun e w' => e = .returned (.agg #[.int .i64 u, .int .u64 v]) ∧ Below w.heap.size w w' := by
  cases hq : canAll [(a1, a2), (b1, b2), (c1, c2)]
  · skip
    obtain rfl : u = 0 := by rw [hu]; unfold arP; rw [hq]; rfl
    obtain rfl : v = 0 := by rw [hv]; unfold arP; rw [hq]; rfl
    clear hu hv
    have HQ : Hid _ := hq
    clear hq
    obtain ⟨W, hW, bW, x_a, x_b, x_c, x_r, sW⟩ := bs_2222 w (.int .i64 a1) (.int .i64 a2) (.int .i64 b1) (.int .i64 b2) (.int .i64 c1) (.int .i64 c2) (.int .i64 0) (.int .u64 0) 23 23 23 61
    have zbW := bW.size
    have BB := bW
    go_enter Tryz.func49, Tryz.ntmps49
    go_wp2_with (go_at_call 84; fail)
    have eV : W.heap.size = w.heap.size + 1 + 1 + 1 + 1 := by rw [hW]; simp
    rw [← hW]
    clear hW
    obtain ⟨V, hV⟩ : ∃ V, V = (W.alloc (.cells #[.int .i64 a1, .int .i64 a2, .int .i64 b1, .int .i64 b2, .int .i64 c1, .int .i64 c2] 23)) := ⟨_, rfl⟩
    rw [← hV]
    have bV : Below W.heap.size W V := by rw [hV]; exact (Below.refl _ _).alloc (Nat.le_refl _) _
    have rV : Row V W.heap.size [.int .i64 a1, .int .i64 a2, .int .i64 b1, .int .i64 b2, .int .i64 c1, .int .i64 c2] := by rw [hV]; exact Row.new _ _ _
    have lV : W.heap.size < V.heap.size := by rw [hV]; simp
    clear hV
    rw [eV] at rV lV
    have zbV := bV.size
    replace BB := also BB bV
    replace x_a := x_a.on bV
    replace x_b := x_b.on bV
    replace x_c := x_c.on bV
    replace x_r := x_r.on bV
    refine (pcan [(a1, a2), (b1, b2), (c1, c2)] 3 _ V rfl (by decide) rV lV HQ.out.symm).mono ?_
    rintro e w1 ⟨rfl, bw1⟩
    have zbw1 := bw1.size
    replace BB := also BB bw1
    replace x_a := x_a.on bw1
    replace x_b := x_b.on bw1
    replace x_c := x_c.on bw1
    replace x_r := x_r.on bw1
    have ⟨x_a_0, x_a_1, x_a_2, x_a_3⟩ := x_a
    have ⟨x_b_0, x_b_1, x_b_2, x_b_3⟩ := x_b
    have ⟨x_c_0, x_c_1, x_c_2, x_c_3⟩ := x_c
    have ⟨x_r_0, x_r_1, x_r_2, x_r_3⟩ := x_r
    go_wp2
    exact bodyPost_ret (v := .agg #[.int .i64 0, .int .u64 0]) (by simp [results, Tryz.results49, go_sem, *]) rfl (⟨rfl, below_put2 BB (by omega) _ _⟩)
  · skip
    obtain ⟨ha, hb, hc⟩ := can3.1 hq
    have HU : Hid (u = lw.hi (areaP a1 a2 b1 b2 c1 c2)) := by unfold Hid; rw [hu]; unfold arP; rw [hq]; rfl
    have HV : Hid (v = lw.lo (areaP a1 a2 b1 b2 c1 c2)) := by unfold Hid; rw [hv]; unfold arP; rw [hq]; rfl
    clear hu hv
    have HQ : Hid _ := hq
    clear hq
    obtain ⟨W, hW, bW, x_a, x_b, x_c, x_r, sW⟩ := bs_2222 w (.int .i64 a1) (.int .i64 a2) (.int .i64 b1) (.int .i64 b2) (.int .i64 c1) (.int .i64 c2) (.int .i64 0) (.int .u64 0) 23 23 23 61
    have zbW := bW.size
    have BB := bW
    go_enter Tryz.func49, Tryz.ntmps49
    go_wp2_with (go_at_call 84; fail)
    have eV : W.heap.size = w.heap.size + 1 + 1 + 1 + 1 := by rw [hW]; simp
    rw [← hW]
    clear hW
    obtain ⟨V, hV⟩ : ∃ V, V = (W.alloc (.cells #[.int .i64 a1, .int .i64 a2, .int .i64 b1, .int .i64 b2, .int .i64 c1, .int .i64 c2] 23)) := ⟨_, rfl⟩
    rw [← hV]
    have bV : Below W.heap.size W V := by rw [hV]; exact (Below.refl _ _).alloc (Nat.le_refl _) _
    have rV : Row V W.heap.size [.int .i64 a1, .int .i64 a2, .int .i64 b1, .int .i64 b2, .int .i64 c1, .int .i64 c2] := by rw [hV]; exact Row.new _ _ _
    have lV : W.heap.size < V.heap.size := by rw [hV]; simp
    clear hV
    rw [eV] at rV lV
    have zbV := bV.size
    replace BB := also BB bV
    replace x_a := x_a.on bV
    replace x_b := x_b.on bV
    replace x_c := x_c.on bV
    replace x_r := x_r.on bV
    refine (pcan [(a1, a2), (b1, b2), (c1, c2)] 3 _ V rfl (by decide) rV lV HQ.out.symm).mono ?_
    rintro e w1 ⟨rfl, bw1⟩
    have zbw1 := bw1.size
    replace BB := also BB bw1
    replace x_a := x_a.on bw1
    replace x_b := x_b.on bw1
    replace x_c := x_c.on bw1
    replace x_r := x_r.on bw1
    have ⟨x_a_0, x_a_1, x_a_2, x_a_3⟩ := x_a
    have ⟨x_b_0, x_b_1, x_b_2, x_b_3⟩ := x_b
    have ⟨x_c_0, x_c_1, x_c_2, x_c_3⟩ := x_c
    have ⟨x_r_0, x_r_1, x_r_2, x_r_3⟩ := x_r
    go_wp2_with (go_at_call 85; fail)
    refine (parea a1 a2 b1 b2 c1 c2 w1 ha hb hc HU.out HV.out).mono ?_
    rintro e w2 ⟨rfl, bw2⟩
    clear x_a_0 x_a_1 x_a_2 x_a_3 x_b_0 x_b_1 x_b_2 x_b_3 x_c_0 x_c_1 x_c_2 x_c_3 x_r_0 x_r_1 x_r_2 x_r_3
    have zbw2 := bw2.size
    replace BB := also BB bw2
    replace x_a := x_a.on bw2
    replace x_b := x_b.on bw2
    replace x_c := x_c.on bw2
    replace x_r := x_r.on bw2
    have ⟨x_r_0, x_r_1, x_r_2, x_r_3⟩ := x_r
    go_wp2
    exact bodyPost_ret (v := .agg #[.int .i64 u, .int .u64 v]) (by simp [results, Tryz.results49, go_sem, *]) rfl (⟨rfl, below_put2 BB (by omega) _ _⟩)
set_option maxRecDepth 100000 in
set_option maxHeartbeats 4000000 in
theorem pDist (a1 a2 b1 b2 : Int) (w : World) {u v : Int} (hu : u = lw.hi (diP a1 a2 b1 b2)) (hv : v = lw.lo (diP a1 a2 b1 b2)) :
    Calls Tryz.prog 51 #[.agg #[.int .i64 a1, .int .i64 a2], .agg #[.int .i64 b1, .int .i64 b2]] w fun e w' => e = .returned (.agg #[.int .i64 u, .int .u64 v]) ∧ Below w.heap.size w w' := by
  cases hq : canAll [(a1, a2), (b1, b2)]
  · skip
    obtain rfl : u = 0 := by rw [hu]; unfold diP; rw [hq]; rfl
    obtain rfl : v = 0 := by rw [hv]; unfold diP; rw [hq]; rfl
    clear hu hv
    have HQ : Hid _ := hq
    clear hq
    obtain ⟨W, hW, bW, x_a, x_b, x_r, sW⟩ := bs_222 w (.int .i64 a1) (.int .i64 a2) (.int .i64 b1) (.int .i64 b2) (.int .i64 0) (.int .u64 0) 23 23 61
    have zbW := bW.size
    have BB := bW
    go_enter Tryz.func51, Tryz.ntmps51
    go_wp2_with (go_at_call 84; fail)
    have eV : W.heap.size = w.heap.size + 1 + 1 + 1 := by rw [hW]; simp
    rw [← hW]
    clear hW
    obtain ⟨V, hV⟩ : ∃ V, V = (W.alloc (.cells #[.int .i64 a1, .int .i64 a2, .int .i64 b1, .int .i64 b2] 23)) := ⟨_, rfl⟩
    rw [← hV]
    have bV : Below W.heap.size W V := by rw [hV]; exact (Below.refl _ _).alloc (Nat.le_refl _) _
    have rV : Row V W.heap.size [.int .i64 a1, .int .i64 a2, .int .i64 b1, .int .i64 b2] := by rw [hV]; exact Row.new _ _ _
    have lV : W.heap.size < V.heap.size := by rw [hV]; simp
    clear hV
    rw [eV] at rV lV
    have zbV := bV.size
    replace BB := also BB bV
    replace x_a := x_a.on bV
    replace x_b := x_b.on bV
    replace x_r := x_r.on bV
    refine (pcan [(a1, a2), (b1, b2)] 2 _ V rfl (by decide) rV lV HQ.out.symm).mono ?_
    rintro e w1 ⟨rfl, bw1⟩
    have zbw1 := bw1.size
    replace BB := also BB bw1
    replace x_a := x_a.on bw1
    replace x_b := x_b.on bw1
    replace x_r := x_r.on bw1
    have ⟨x_a_0, x_a_1, x_a_2, x_a_3⟩ := x_a
    have ⟨x_b_0, x_b_1, x_b_2, x_b_3⟩ := x_b
    have ⟨x_r_0, x_r_1, x_r_2, x_r_3⟩ := x_r
    go_wp2
    exact bodyPost_ret (v := .agg #[.int .i64 0, .int .u64 0]) (by simp [results, Tryz.results51, go_sem, *]) rfl (⟨rfl, below_put2 BB (by omega) _ _⟩)
  · skip
    obtain ⟨ha, hb⟩ := can2.1 hq
    have HU : Hid (u = lw.hi (distP a1 a2 b1 b2)) := by unfold Hid; rw [hu]; unfold diP; rw [hq]; rfl
    have HV : Hid (v = lw.lo (distP a1 a2 b1 b2)) := by unfold Hid; rw [hv]; unfold diP; rw [hq]; rfl
    clear hu hv
    have HQ : Hid _ := hq
    clear hq
    obtain ⟨W, hW, bW, x_a, x_b, x_r, sW⟩ := bs_222 w (.int .i64 a1) (.int .i64 a2) (.int .i64 b1) (.int .i64 b2) (.int .i64 0) (.int .u64 0) 23 23 61
    have zbW := bW.size
    have BB := bW
    go_enter Tryz.func51, Tryz.ntmps51
    go_wp2_with (go_at_call 84; fail)
    have eV : W.heap.size = w.heap.size + 1 + 1 + 1 := by rw [hW]; simp
    rw [← hW]
    clear hW
    obtain ⟨V, hV⟩ : ∃ V, V = (W.alloc (.cells #[.int .i64 a1, .int .i64 a2, .int .i64 b1, .int .i64 b2] 23)) := ⟨_, rfl⟩
    rw [← hV]
    have bV : Below W.heap.size W V := by rw [hV]; exact (Below.refl _ _).alloc (Nat.le_refl _) _
    have rV : Row V W.heap.size [.int .i64 a1, .int .i64 a2, .int .i64 b1, .int .i64 b2] := by rw [hV]; exact Row.new _ _ _
    have lV : W.heap.size < V.heap.size := by rw [hV]; simp
    clear hV
    rw [eV] at rV lV
    have zbV := bV.size
    replace BB := also BB bV
    replace x_a := x_a.on bV
    replace x_b := x_b.on bV
    replace x_r := x_r.on bV
    refine (pcan [(a1, a2), (b1, b2)] 2 _ V rfl (by decide) rV lV HQ.out.symm).mono ?_
    rintro e w1 ⟨rfl, bw1⟩
    have zbw1 := bw1.size
    replace BB := also BB bw1
    replace x_a := x_a.on bw1
    replace x_b := x_b.on bw1
    replace x_r := x_r.on bw1
    have ⟨x_a_0, x_a_1, x_a_2, x_a_3⟩ := x_a
    have ⟨x_b_0, x_b_1, x_b_2, x_b_3⟩ := x_b
    have ⟨x_r_0, x_r_1, x_r_2, x_r_3⟩ := x_r
    go_wp2_with (go_at_call 87; fail)
    refine (pdist a1 a2 b1 b2 w1 ha hb HU.out HV.out).mono ?_
    rintro e w2 ⟨rfl, bw2⟩
    clear x_a_0 x_a_1 x_a_2 x_a_3 x_b_0 x_b_1 x_b_2 x_b_3 x_r_0 x_r_1 x_r_2 x_r_3
    have zbw2 := bw2.size
    replace BB := also BB bw2
    replace x_a := x_a.on bw2
    replace x_b := x_b.on bw2
    replace x_r := x_r.on bw2
    have ⟨x_r_0, x_r_1, x_r_2, x_r_3⟩ := x_r
    go_wp2
    exact bodyPost_ret (v := .agg #[.int .i64 u, .int .u64 v]) (by simp [results, Tryz.results51, go_sem, *]) rfl (⟨rfl, below_put2 BB (by omega) _ _⟩)
end Go.Proofs.YtcaihoomcdbfnaaGreat

namespace Go.Proofs.YtcaihoomcdbfnaaGreat
open Go.RowKit
set_option linter.unusedVariables false

theorem hf_top_eq {u v m k : Nat} (hk : k ≤ m) (hu : u < 65536 ^ m) (hv : v < 65536 ^ m) (h : ∀ j, k ≤ j → j < m → hf.dg (u : Int) j = hf.dg (v : Int) j) : u / 65536 ^ k = v / 65536 ^ k := by
  have hlt : ∀ x : Nat, x < 65536 ^ m → x / 65536 ^ k < 65536 ^ (m - k) := fun x hx => by
    refine Nat.div_lt_of_lt_mul ?_
    rw [← Nat.pow_add, show k + (m - k) = m by omega]
    exact hx
  refine hf.eq_of_dcells (m - k) _ _ (hlt u hu) (hlt v hv) fun j hj => ?_
  rw [Int.natCast_ediv, Int.natCast_ediv, hf.pow_cast, hf.dg_div, hf.dg_div]
  exact h _ (by omega) (by omega)
theorem cmpI_lt {x y : Int} (h : x < y) : cmpI x y = -1 := by unfold cmpI; rw [if_pos h]
theorem cmpI_gt {x y : Int} (h : y < x) : cmpI x y = 1 := by unfold cmpI; rw [if_neg (by omega), if_pos h]

set_option maxRecDepth 100000 in
set_option maxHeartbeats 1000000 in
theorem rcmp_any (a b : Option Addr) (ca cb u v : Nat) (w : World) (ha : Sl w a (hf.nlen u) ca (hf.dcells (hf.nlen u) (u : Int))) (hb : Sl w b (hf.nlen v) cb (hf.dcells (hf.nlen v) (v : Int))) :
    Calls Tryz.prog 80 #[.slice a (hf.nlen u) ca, .slice b (hf.nlen v) cb] w fun e w' => e = .returned (.int .i64 (cmpI u v)) ∧ Below w.heap.size w w' := by
  have k1 := ha.big
  have k2 := ha.room
  have k3 := hb.big
  have k4 := hb.room
  unfold maxLen at k1 k3
  rcases Nat.lt_trichotomy (hf.nlen u) (hf.nlen v) with h | h | h
  · have HC : Hid (cmpI u v = -1) := cmpI_lt (by have := hf.lt_of_nlen h; omega)
    go_enter Tryz.func80, Tryz.ntmps80
    go_wp2
    go_ret
    exact ⟨by rw [HC.out]; rfl, (by first | exact Below.refl _ _ | exact below_drewN (Below.refl _ _) _ | exact below_drewN (below_drewN (Below.refl _ _) _) _ | exact below_drewN (below_drewN (below_drewN (Below.refl _ _) _) _) _)⟩
  · obtain ⟨m, hm⟩ : ∃ m, hf.nlen u = m := ⟨_, rfl⟩
    have hv := hf.nlen_lt v
    have hu := hf.nlen_lt u
    rw [← h] at hb hv k4 ⊢
    rw [hm] at ha hb hu hv k2 k4 ⊢
    have HU : Hid _ := hu
    have HV : Hid _ := hv
    clear hm hu hv h
    go_enter Tryz.func80, Tryz.ntmps80
    go_wp2
    go_loopw [5] (fun i wr => ∃ r : Nat, r ≤ m ∧ i = .int .i64 ((r : Int) - 1) ∧ Hid (∀ j, r ≤ j → j < m → hf.dg (u : Int) j = hf.dg (v : Int) j) ∧ ∃ n, wr = w.drewN n) (fun i _ => (intOf i + 1).toNat)
    case atStart => exact ⟨m, Nat.le_refl _, rfl, fun j h1 h2 => absurd h1 (by omega), 0, rfl⟩
    case round =>
      obtain ⟨r, hr, rfl, HR, n, rfl⟩ := hrel
      rcases r with _ | q
      · have HE : Hid (cmpI u v = 0) := by
          obtain rfl : u = v := hf.eq_of_dcells m u v HU.out HV.out (fun j hj => HR.out j (Nat.zero_le _) hj)
          exact cmpI_self _
        go_wp2
        go_ret
        exact ⟨by rw [HE.out]; rfl, (by first | exact Below.refl _ _ | exact below_drewN (Below.refl _ _) _ | exact below_drewN (below_drewN (Below.refl _ _) _) _ | exact below_drewN (below_drewN (below_drewN (Below.refl _ _) _) _) _)⟩
      · obtain ⟨ba, oa, rfl, hba, hsa⟩ := ha.at (by omega)
        obtain ⟨bb, ob, rfl, hbb, hsb⟩ := hb.at (by omega)
        have c1 : w.cell? ⟨ba, oa + q, none⟩ = some (.int .i64 (hf.dg u q)) := hsa.cell q _ (hf.dcells_at _ _ _ (by omega))
        have c2 : w.cell? ⟨bb, ob + q, none⟩ = some (.int .i64 (hf.dg v q)) := hsb.cell q _ (hf.dcells_at _ _ _ (by omega))
        have HT : Hid (u / 65536 ^ (q + 1) = v / 65536 ^ (q + 1)) := hf_top_eq (by omega) HU.out HV.out HR.out
        have e1 : ((q + 1 : Nat) : Int) - 1 = (q : Int) := by omega
        obtain ⟨X, hX⟩ : ∃ X, hf.dg (u : Int) q = X := ⟨_, rfl⟩
        obtain ⟨Y, hY⟩ : ∃ Y, hf.dg (v : Int) q = Y := ⟨_, rfl⟩
        rcases Int.lt_trichotomy X Y with l | l | l
        · have HC : Hid (cmpI u v = -1) := cmpI_lt (by have := hf.lt_of_top HT.out (by rw [hX, hY]; exact l); omega)
          rw [hX] at c1
          rw [hY] at c2
          clear hX hY
          go_wp2
          go_quiet (fail)
          go_wp2
          go_ret
          exact ⟨by rw [HC.out]; rfl, (by first | exact Below.refl _ _ | exact below_drewN (Below.refl _ _) _ | exact below_drewN (below_drewN (Below.refl _ _) _) _ | exact below_drewN (below_drewN (below_drewN (Below.refl _ _) _) _) _)⟩
        · have HQ : Hid (∀ j, q ≤ j → j < m → hf.dg (u : Int) j = hf.dg (v : Int) j) := fun j h1 h2 => by
            rcases Nat.lt_or_ge q j with h3 | h3
            · exact HR.out j h3 h2
            · obtain rfl : j = q := by omega
              rw [hX, hY, l]
          have l1 : ¬ X < Y := by omega
          have l2 : ¬ Y < X := by omega
          rw [hX] at c1
          rw [hY] at c2
          clear hX hY l
          go_wp2
          go_quiet (fail)
          go_wp2
          go_quiet (fail)
          go_wp2
          go_roundw
          case rel => exact ⟨q, by omega, by go_num, HQ.out, _, rfl⟩
          case measure => simp [intOf]
        · have HC : Hid (cmpI u v = 1) := cmpI_gt (by have := hf.lt_of_top HT.out.symm (by rw [hX, hY]; exact l); omega)
          have l1 : ¬ X < Y := by omega
          rw [hX] at c1
          rw [hY] at c2
          clear hX hY
          go_wp2
          go_quiet (fail)
          go_wp2
          go_quiet (fail)
          go_wp2
          go_ret
          exact ⟨by rw [HC.out]; rfl, (by first | exact Below.refl _ _ | exact below_drewN (Below.refl _ _) _ | exact below_drewN (below_drewN (Below.refl _ _) _) _ | exact below_drewN (below_drewN (below_drewN (Below.refl _ _) _) _) _)⟩
  · have HC : Hid (cmpI u v = 1) := cmpI_gt (by have := hf.lt_of_nlen h; omega)
    have h' : ¬ (hf.nlen u : Int) < hf.nlen v := by omega
    go_enter Tryz.func80, Tryz.ntmps80
    go_wp2
    go_ret
    exact ⟨by rw [HC.out]; rfl, (by first | exact Below.refl _ _ | exact below_drewN (Below.refl _ _) _ | exact below_drewN (below_drewN (Below.refl _ _) _) _ | exact below_drewN (below_drewN (below_drewN (Below.refl _ _) _) _) _)⟩

/-- One digit more behind those that one has. -/
theorem push_next {w wr w2 w4 : World} {k cap cap' g' : Nat} {a : Option Addr} {V x : Int} (hx : x = hf.dg V k) (hown : Own wr w.heap.size 3 a k cap (hf.dcells k V)) (hbel : Below w.heap.size w wr)
    (h4 : w4.ownsRow w.heap.size 3 1 (.slice (some ⟨g', 0, none⟩) (k + 1) cap') (k + 1) (hf.dcells k V ++ [.int .i64 x]))
    (h2 : Below wr.heap.size wr w2) (hgr : w2.grownBy w4 (Value.slice a k cap).ownBlock) : Own w4 w.heap.size 3 (some ⟨g', 0, none⟩) (k + 1) cap' (hf.dcells (k + 1) V) ∧ Below w.heap.size w w4 := by
  have hs := hbel.size
  refine ⟨?_, (hbel.trans (h2.mono hs)).grown hgr (by have := h2.size; omega) (fun k' hk' => (World.ownsRow.lt hown k' hk').1)⟩
  rw [hf.dcells_succ, ← hx]
  exact h4
/-- What holds at the head of each round of the sum's loop. -/
def RAddRel (w : World) (u v l : Nat) (o c i : Value) (wr : World) : Prop := ∃ (k cap : Nat) (ao : Option Addr), k ≤ l ∧ i = .int .i64 (k : Int) ∧ c = .int .i64 (hf.carry u v k) ∧ o = .slice ao k cap ∧ Own wr w.heap.size 3 ao k cap (hf.dcells k ((u : Int) + v)) ∧ Below w.heap.size w wr
theorem radd_next {w wr w2 w4 : World} {u v l k cap cap' g' : Nat} {ao : Option Addr} {x : Int} (hk : k < l) (hx : x = hf.carry u v k + hf.dg u k + hf.dg v k) (hown : Own wr w.heap.size 3 ao k cap (hf.dcells k ((u : Int) + v))) (hbel : Below w.heap.size w wr)
    (h4 : w4.ownsRow w.heap.size 3 1 (.slice (some ⟨g', 0, none⟩) (k + 1) cap') (k + 1) (hf.dcells k ((u : Int) + v) ++ [.int .i64 (x % 65536)]))
    (h2 : Below wr.heap.size wr w2) (hgr : w2.grownBy w4 (Value.slice ao k cap).ownBlock) : RAddRel w u v l (.slice (some ⟨g', 0, none⟩) (k + 1) cap') (.int .i64 (x / 65536)) (.int .i64 ((k : Int) + 1)) w4 := by
  obtain ⟨h5, h6⟩ := push_next (x := x % 65536) (by rw [hx, hf.add_digit]) hown hbel h4 h2 hgr
  exact ⟨k + 1, cap', _, hk, by simp, by rw [hf.carry_succ, hx], rfl, h5, h6⟩

set_option maxRecDepth 100000 in
set_option maxHeartbeats 2000000 in
theorem radd_any (a b : Option Addr) (ca cb u v : Nat) (w : World) (ha : Sl w a (hf.nlen u) ca (hf.dcells (hf.nlen u) (u : Int))) (hb : Sl w b (hf.nlen v) cb (hf.dcells (hf.nlen v) (v : Int))) (hlu : hf.nlen u ≤ 1000000000) (hlv : hf.nlen v ≤ 1000000000) :
    Calls Tryz.prog 79 #[.slice a (hf.nlen u) ca, .slice b (hf.nlen v) cb] w fun e w' => ∃ a' cap', e = .returned (.slice a' (hf.nlen (u + v)) cap') ∧ Own w' w.heap.size 3 a' (hf.nlen (u + v)) cap' (hf.dcells (hf.nlen (u + v)) ((u + v : Nat) : Int)) ∧ Below w.heap.size w w' := by
  obtain ⟨i0, hi0, hz0, hz1, hz2⟩ := info_parts infoInt
  have hown0 := own_empty w w.heap.size 3 (Nat.le_refl _)
  have hu := hf.nlen_lt u
  have hv := hf.nlen_lt v
  obtain ⟨lu, hlu'⟩ : ∃ l, hf.nlen u = l := ⟨_, rfl⟩
  obtain ⟨lv, hlv'⟩ : ∃ l, hf.nlen v = l := ⟨_, rfl⟩
  rw [hlu'] at ha hlu hu ⊢
  rw [hlv'] at hb hlv hv ⊢
  obtain ⟨L, hL1, hL2, hL3⟩ : ∃ L, lu ≤ L ∧ lv ≤ L ∧ (L ≤ lu ∨ L ≤ lv) := ⟨max lu lv, by omega, by omega, by omega⟩
  have HU : Hid (∀ k, lu ≤ k → hf.dg (u : Int) k = 0) := fun k hk => hf.dg_over (Nat.lt_of_lt_of_le hu (Nat.pow_le_pow_right (by decide) hk))
  have HV : Hid (∀ k, lv ≤ k → hf.dg (v : Int) k = 0) := fun k hk => hf.dg_over (Nat.lt_of_lt_of_le hv (Nat.pow_le_pow_right (by decide) hk))
  have HS : Hid (u + v < 65536 ^ (L + 1)) := by
    have h1 := Nat.pow_le_pow_right (n := 65536) (by decide) hL1
    have h2 := Nat.pow_le_pow_right (n := 65536) (by decide) hL2
    unfold Hid
    rw [Nat.pow_succ]; omega
  have HE : Hid ((u : Int) + v = ((u + v : Nat) : Int)) := by unfold Hid; omega
  clear hu hv hlu' hlv'
  go_enter Tryz.func79, Tryz.ntmps79
  go_wp2
  go_loopw [5, 6, 7] (fun o c i wr => RAddRel w u v L o c i wr) (fun _ _ i _ => L - (intOf i).toNat)
  case atStart => exact ⟨0, 0, _, by omega, rfl, by rw [hf.carry_zero], rfl, hown0, (Below.refl _ _).alloc (Nat.le_refl _) _⟩
  case round =>
    clear hown0
    obtain ⟨k, cap, ao, hk, rfl, rfl, rfl, hown, hbel⟩ := hrel
    have hsz := hbel.size
    obtain ⟨f0, f1⟩ := hf.carry_range u v k
    obtain ⟨d0, d1⟩ := hf.dg_range u k
    obtain ⟨e0, e1⟩ := hf.dg_range v k
    obtain ⟨C, hC⟩ : ∃ C, hf.carry (u : Int) v k = C := ⟨_, rfl⟩
    obtain ⟨X, hX⟩ : ∃ X, hf.dg (u : Int) k = X := ⟨_, rfl⟩
    obtain ⟨Y, hY⟩ : ∃ Y, hf.dg (v : Int) k = Y := ⟨_, rfl⟩
    rw [hC] at f0 f1
    rw [hX] at d0 d1
    rw [hY] at e0 e1
    by_cases h1 : k < lu
    · obtain ⟨ba, oa, rfl, hba, hsa⟩ := ha.at (by omega)
      have r1 := ha.room
      have c1 : wr.cell? ⟨ba, oa + k, none⟩ = some (.int .i64 X) := (hbel.cell (p := ⟨ba, oa + k, none⟩) hba).trans (by rw [← hX]; exact hsa.cell k _ (hf.dcells_at _ _ _ h1))
      by_cases h2 : k < lv
      · obtain ⟨bb, ob, rfl, hbb, hsb⟩ := hb.at (by omega)
        have r2 := hb.room
        have c2 : wr.cell? ⟨bb, ob + k, none⟩ = some (.int .i64 Y) := (hbel.cell (p := ⟨bb, ob + k, none⟩) hbb).trans (by rw [← hY]; exact hsb.cell k _ (hf.dcells_at _ _ _ h2))
        have HN : Hid _ := fun w2 w4 g' cap' => radd_next (l := L) (x := C + X + Y) (w2 := w2) (w4 := w4) (g' := g') (cap' := cap') (by omega) (by rw [hC, hX, hY]) hown hbel
        rw [hC]
        clear hC hX hY
        go_wp2_with (at_builtin; refine wpList_append_lies _ rfl (.tmp 41) (.tmp 44) 36 rfl w.heap.size 3 i0 (.int .i64 0) 1 8 Tryz.underlying36 hi0 hz0 hz1 hz2 rfl (by decide) (.slice ao k cap) (k) (hf.dcells k ((u : Int) + v)) rfl (World.ownsRow.alloc hown _) ⟨wr.heap.size, 0, none⟩ 1 1 [.int .i64 ((C + X + Y) % 65536)] rfl rfl (cell_one_new _ _ _) (ints_oneCell .i64 [(C + X + Y) % 65536]) (by decide) (by unfold maxLen; omega) (by omega) (by simp; omega) _ rfl ?_; intro g' cap' w4 hown4 hgrow4 hat4 hlt4)
        go_roundw
        case rel => exact HN.out _ w4 g' cap' hown4 ((Below.refl _ _).alloc (Nat.le_refl _) _) hgrow4
        case measure => simp [intOf]; omega
      · have HN : Hid _ := fun w2 w4 g' cap' => radd_next (l := L) (x := C + X) (w2 := w2) (w4 := w4) (g' := g') (cap' := cap') (by omega) (by rw [hC, hX, HV.out k (by omega)]; omega) hown hbel
        have h2' : ¬ (k : Int) < lv := by omega
        rw [hC]
        clear hC hX hY
        go_wp2_with (at_builtin; refine wpList_append_lies _ rfl (.tmp 41) (.tmp 44) 36 rfl w.heap.size 3 i0 (.int .i64 0) 1 8 Tryz.underlying36 hi0 hz0 hz1 hz2 rfl (by decide) (.slice ao k cap) (k) (hf.dcells k ((u : Int) + v)) rfl (World.ownsRow.alloc hown _) ⟨wr.heap.size, 0, none⟩ 1 1 [.int .i64 ((C + X) % 65536)] rfl rfl (cell_one_new _ _ _) (ints_oneCell .i64 [(C + X) % 65536]) (by decide) (by unfold maxLen; omega) (by omega) (by simp; omega) _ rfl ?_; intro g' cap' w4 hown4 hgrow4 hat4 hlt4)
        go_roundw
        case rel => exact HN.out _ w4 g' cap' hown4 ((Below.refl _ _).alloc (Nat.le_refl _) _) hgrow4
        case measure => simp [intOf]; omega
    · by_cases h2 : k < lv
      · obtain ⟨bb, ob, rfl, hbb, hsb⟩ := hb.at (by omega)
        have r2 := hb.room
        have c2 : wr.cell? ⟨bb, ob + k, none⟩ = some (.int .i64 Y) := (hbel.cell (p := ⟨bb, ob + k, none⟩) hbb).trans (by rw [← hY]; exact hsb.cell k _ (hf.dcells_at _ _ _ h2))
        have HN : Hid _ := fun w2 w4 g' cap' => radd_next (l := L) (x := C + Y) (w2 := w2) (w4 := w4) (g' := g') (cap' := cap') (by omega) (by rw [hC, hY, HU.out k (by omega)]; omega) hown hbel
        have h1' : ¬ (k : Int) < lu := by omega
        rw [hC]
        clear hC hX hY
        go_wp2_with (at_builtin; refine wpList_append_lies _ rfl (.tmp 41) (.tmp 44) 36 rfl w.heap.size 3 i0 (.int .i64 0) 1 8 Tryz.underlying36 hi0 hz0 hz1 hz2 rfl (by decide) (.slice ao k cap) (k) (hf.dcells k ((u : Int) + v)) rfl (World.ownsRow.alloc hown _) ⟨wr.heap.size, 0, none⟩ 1 1 [.int .i64 ((C + Y) % 65536)] rfl rfl (cell_one_new _ _ _) (ints_oneCell .i64 [(C + Y) % 65536]) (by decide) (by unfold maxLen; omega) (by omega) (by simp; omega) _ rfl ?_; intro g' cap' w4 hown4 hgrow4 hat4 hlt4)
        go_roundw
        case rel => exact HN.out _ w4 g' cap' hown4 ((Below.refl _ _).alloc (Nat.le_refl _) _) hgrow4
        case measure => simp [intOf]; omega
      · obtain rfl : k = L := by omega
        have HC2 : Hid (C = hf.dg ((u : Int) + v) k) := by
          have h := hf.add_digit u v k
          rw [hC, hX, hY] at h
          have hx0 := HU.out k (by omega)
          have hy0 := HV.out k (by omega)
          rw [hX] at hx0
          rw [hY] at hy0
          unfold Hid
          omega
        have h1' : ¬ (k : Int) < lu := by omega
        have h2' : ¬ (k : Int) < lv := by omega
        have HN : Hid _ := fun w2 w4 g' cap' => push_next (x := C) (w2 := w2) (w4 := w4) (g' := g') (cap' := cap') HC2.out hown hbel
        rw [hC]
        clear hC hX hY
        go_wp2_with (first
          | (at_builtin; refine wpList_append_lies _ rfl (.tmp 48) (.tmp 50) 36 rfl w.heap.size 3 i0 (.int .i64 0) 1 8 Tryz.underlying36 hi0 hz0 hz1 hz2 rfl (by decide) (.slice ao k cap) (k) (hf.dcells k ((u : Int) + v)) rfl (World.ownsRow.alloc hown _) ⟨wr.heap.size, 0, none⟩ 1 1 [.int .i64 (C)] rfl rfl (cell_one_new _ _ _) (ints_oneCell .i64 [C]) (by decide) (by unfold maxLen; omega) (by omega) (by simp; omega) _ rfl ?_; intro g' cap' w4 hown4 hgrow4 hat4 hlt4)
          | (go_at_call 74; have hnx := HN.out _ w4 g' cap' hown4 ((Below.refl _ _).alloc (Nat.le_refl _) _) hgrow4; rw [HE.out] at hnx; refine (rtrim_own _ _ _ (u + v) _ _ hnx.1 HS.out).mono ?_; rintro e w' ⟨rfl, hw, hown5⟩; subst hw))
        go_ret
        exact ⟨_, cap', rfl, hown5, hnx.2⟩

/-- What holds at the head of each round of the difference's loop. -/
def RSubRel (w : World) (u v l : Nat) (o c i : Value) (wr : World) : Prop := ∃ (k cap : Nat) (ao : Option Addr), k ≤ l ∧ i = .int .i64 (k : Int) ∧ c = .int .i64 (hf.bw u v k) ∧ o = .slice ao k cap ∧ Own wr w.heap.size 3 ao k cap (hf.dcells k ((u : Int) - v)) ∧ Below w.heap.size w wr
theorem rsub_next {w wr w2 w4 : World} {u v l k cap cap' g' : Nat} {ao : Option Addr} {x c : Int} (hk : k < l) (hx : (x = hf.dg u k - hf.dg v k - hf.bw u v k ∧ 0 ≤ x ∧ c = 0) ∨ (x = hf.dg u k - hf.dg v k - hf.bw u v k + 65536 ∧ x < 65536 ∧ c = 1)) (hown : Own wr w.heap.size 3 ao k cap (hf.dcells k ((u : Int) - v))) (hbel : Below w.heap.size w wr)
    (h4 : w4.ownsRow w.heap.size 3 1 (.slice (some ⟨g', 0, none⟩) (k + 1) cap') (k + 1) (hf.dcells k ((u : Int) - v) ++ [.int .i64 x]))
    (h2 : Below wr.heap.size wr w2) (hgr : w2.grownBy w4 (Value.slice ao k cap).ownBlock) : RSubRel w u v l (.slice (some ⟨g', 0, none⟩) (k + 1) cap') (.int .i64 c) (.int .i64 ((k : Int) + 1)) w4 := by
  have d := hf.dg_range u k
  have e := hf.dg_range v k
  have f := hf.bw_range u v k
  have hd := hf.sub_digit u v k
  have hb := hf.bw_succ u v k
  obtain ⟨h5, h6⟩ := push_next (x := x) (by rw [← hd]; omega) hown hbel h4 h2 hgr
  refine ⟨k + 1, cap', _, hk, by simp, ?_, rfl, h5, h6⟩
  rw [← hb]
  unfold hf.bor
  rcases hx with ⟨h, h0, rfl⟩ | ⟨h, h0, rfl⟩
  · rw [if_neg (by omega)]
  · rw [if_pos (by omega)]
set_option maxRecDepth 100000 in
set_option maxHeartbeats 2000000 in
theorem rsub_any (a b : Option Addr) (ca cb u v : Nat) (w : World) (ha : Sl w a (hf.nlen u) ca (hf.dcells (hf.nlen u) (u : Int))) (hb : Sl w b (hf.nlen v) cb (hf.dcells (hf.nlen v) (v : Int))) (hlu : hf.nlen u ≤ 1000000000) (hlv : hf.nlen v ≤ 1000000000) (hle : v ≤ u) :
    Calls Tryz.prog 82 #[.slice a (hf.nlen u) ca, .slice b (hf.nlen v) cb] w fun e w' => ∃ a' cap', e = .returned (.slice a' (hf.nlen (u - v)) cap') ∧ Own w' w.heap.size 3 a' (hf.nlen (u - v)) cap' (hf.dcells (hf.nlen (u - v)) ((u - v : Nat) : Int)) ∧ Below w.heap.size w w' := by
  obtain ⟨i0, hi0, hz0, hz1, hz2⟩ := info_parts infoInt
  have hown0 := own_empty w w.heap.size 3 (Nat.le_refl _)
  have hu := hf.nlen_lt u
  have hv := hf.nlen_lt v
  obtain ⟨lu, hlu'⟩ : ∃ l, hf.nlen u = l := ⟨_, rfl⟩
  obtain ⟨lv, hlv'⟩ : ∃ l, hf.nlen v = l := ⟨_, rfl⟩
  rw [hlu'] at ha hlu hu ⊢
  rw [hlv'] at hb hlv hv ⊢
  have HV : Hid (∀ k, lv ≤ k → hf.dg (v : Int) k = 0) := fun k hk => hf.dg_over (Nat.lt_of_lt_of_le hv (Nat.pow_le_pow_right (by decide) hk))
  have HS : Hid (u - v < 65536 ^ lu) := by unfold Hid; omega
  have HE : Hid ((u : Int) - v = ((u - v : Nat) : Int)) := by unfold Hid; omega
  clear hu hv hlu' hlv' hle
  go_enter Tryz.func82, Tryz.ntmps82
  go_wp2
  go_loopw [5, 6, 7] (fun o c i wr => RSubRel w u v lu o c i wr) (fun _ _ i _ => lu - (intOf i).toNat)
  case atStart => exact ⟨0, 0, _, by omega, rfl, by rw [hf.bw_zero], rfl, hown0, (Below.refl _ _).alloc (Nat.le_refl _) _⟩
  case round =>
    clear hown0
    obtain ⟨k, cap, ao, hk, rfl, rfl, rfl, hown, hbel⟩ := hrel
    have hsz := hbel.size
    obtain ⟨f0, f1⟩ := hf.bw_range u v k
    obtain ⟨d0, d1⟩ := hf.dg_range u k
    obtain ⟨e0, e1⟩ := hf.dg_range v k
    obtain ⟨C, hC⟩ : ∃ C, hf.bw (u : Int) v k = C := ⟨_, rfl⟩
    obtain ⟨X, hX⟩ : ∃ X, hf.dg (u : Int) k = X := ⟨_, rfl⟩
    obtain ⟨Y, hY⟩ : ∃ Y, hf.dg (v : Int) k = Y := ⟨_, rfl⟩
    rw [hC] at f0 f1
    rw [hX] at d0 d1
    rw [hY] at e0 e1
    by_cases h1 : k < lu
    · obtain ⟨ba, oa, rfl, hba, hsa⟩ := ha.at (by omega)
      have r1 := ha.room
      have c1 : wr.cell? ⟨ba, oa + k, none⟩ = some (.int .i64 X) := (hbel.cell (p := ⟨ba, oa + k, none⟩) hba).trans (by rw [← hX]; exact hsa.cell k _ (hf.dcells_at _ _ _ h1))
      by_cases h2 : k < lv
      · obtain ⟨bb, ob, rfl, hbb, hsb⟩ := hb.at (by omega)
        have r2 := hb.room
        have c2 : wr.cell? ⟨bb, ob + k, none⟩ = some (.int .i64 Y) := (hbel.cell (p := ⟨bb, ob + k, none⟩) hbb).trans (by rw [← hY]; exact hsb.cell k _ (hf.dcells_at _ _ _ h2))
        by_cases hn : X - C - Y < 0
        · have HN : Hid _ := fun w2 w4 g' cap' => rsub_next (l := lu) (c := 1) (x := X - C - Y + 65536) (w2 := w2) (w4 := w4) (g' := g') (cap' := cap') (by omega) (Or.inr ⟨by rw [hC, hX, hY]; omega, by omega, rfl⟩) hown hbel
          rw [hC]
          clear hC hX hY
          go_wp2_with (at_builtin; refine wpList_append_lies _ rfl (.tmp 36) (.tmp 38) 36 rfl w.heap.size 3 i0 (.int .i64 0) 1 8 Tryz.underlying36 hi0 hz0 hz1 hz2 rfl (by decide) (.slice ao k cap) (k) (hf.dcells k ((u : Int) - v)) rfl (World.ownsRow.alloc hown _) ⟨wr.heap.size, 0, none⟩ 1 1 [.int .i64 (X - C - Y + 65536)] rfl rfl (cell_one_new _ _ _) (ints_oneCell .i64 [X - C - Y + 65536]) (by decide) (by unfold maxLen; omega) (by omega) (by simp; omega) _ rfl ?_; intro g' cap' w4 hown4 hgrow4 hat4 hlt4)
          go_roundw
          case rel => exact HN.out _ w4 g' cap' hown4 ((Below.refl _ _).alloc (Nat.le_refl _) _) hgrow4
          case measure => simp [intOf]; omega
        · have HN : Hid _ := fun w2 w4 g' cap' => rsub_next (l := lu) (c := 0) (x := X - C - Y) (w2 := w2) (w4 := w4) (g' := g') (cap' := cap') (by omega) (Or.inl ⟨by rw [hC, hX, hY]; omega, by omega, rfl⟩) hown hbel
          rw [hC]
          clear hC hX hY
          go_wp2_with (at_builtin; refine wpList_append_lies _ rfl (.tmp 36) (.tmp 38) 36 rfl w.heap.size 3 i0 (.int .i64 0) 1 8 Tryz.underlying36 hi0 hz0 hz1 hz2 rfl (by decide) (.slice ao k cap) (k) (hf.dcells k ((u : Int) - v)) rfl (World.ownsRow.alloc hown _) ⟨wr.heap.size, 0, none⟩ 1 1 [.int .i64 (X - C - Y)] rfl rfl (cell_one_new _ _ _) (ints_oneCell .i64 [X - C - Y]) (by decide) (by unfold maxLen; omega) (by omega) (by simp; omega) _ rfl ?_; intro g' cap' w4 hown4 hgrow4 hat4 hlt4)
          go_roundw
          case rel => exact HN.out _ w4 g' cap' hown4 ((Below.refl _ _).alloc (Nat.le_refl _) _) hgrow4
          case measure => simp [intOf]; omega
      · have h2' : ¬ (k : Int) < lv := by omega
        have hY0 := HV.out k (by omega)
        by_cases hn : X - C < 0
        · have HN : Hid _ := fun w2 w4 g' cap' => rsub_next (l := lu) (c := 1) (x := X - C + 65536) (w2 := w2) (w4 := w4) (g' := g') (cap' := cap') (by omega) (Or.inr ⟨by rw [hC, hX, hY0]; omega, by omega, rfl⟩) hown hbel
          rw [hC]
          clear hC hX hY hY0
          go_wp2_with (at_builtin; refine wpList_append_lies _ rfl (.tmp 36) (.tmp 38) 36 rfl w.heap.size 3 i0 (.int .i64 0) 1 8 Tryz.underlying36 hi0 hz0 hz1 hz2 rfl (by decide) (.slice ao k cap) (k) (hf.dcells k ((u : Int) - v)) rfl (World.ownsRow.alloc hown _) ⟨wr.heap.size, 0, none⟩ 1 1 [.int .i64 (X - C + 65536)] rfl rfl (cell_one_new _ _ _) (ints_oneCell .i64 [X - C + 65536]) (by decide) (by unfold maxLen; omega) (by omega) (by simp; omega) _ rfl ?_; intro g' cap' w4 hown4 hgrow4 hat4 hlt4)
          go_roundw
          case rel => exact HN.out _ w4 g' cap' hown4 ((Below.refl _ _).alloc (Nat.le_refl _) _) hgrow4
          case measure => simp [intOf]; omega
        · have HN : Hid _ := fun w2 w4 g' cap' => rsub_next (l := lu) (c := 0) (x := X - C) (w2 := w2) (w4 := w4) (g' := g') (cap' := cap') (by omega) (Or.inl ⟨by rw [hC, hX, hY0]; omega, by omega, rfl⟩) hown hbel
          rw [hC]
          clear hC hX hY hY0
          go_wp2_with (at_builtin; refine wpList_append_lies _ rfl (.tmp 36) (.tmp 38) 36 rfl w.heap.size 3 i0 (.int .i64 0) 1 8 Tryz.underlying36 hi0 hz0 hz1 hz2 rfl (by decide) (.slice ao k cap) (k) (hf.dcells k ((u : Int) - v)) rfl (World.ownsRow.alloc hown _) ⟨wr.heap.size, 0, none⟩ 1 1 [.int .i64 (X - C)] rfl rfl (cell_one_new _ _ _) (ints_oneCell .i64 [X - C]) (by decide) (by unfold maxLen; omega) (by omega) (by simp; omega) _ rfl ?_; intro g' cap' w4 hown4 hgrow4 hat4 hlt4)
          go_roundw
          case rel => exact HN.out _ w4 g' cap' hown4 ((Below.refl _ _).alloc (Nat.le_refl _) _) hgrow4
          case measure => simp [intOf]; omega
    · obtain rfl : k = lu := by omega
      rw [HE.out] at hown
      clear hC hX hY
      go_wp2_with (go_at_call 74; refine (rtrim_own _ _ _ (u - v) _ _ hown HS.out).mono ?_; rintro e w' ⟨rfl, hw, hown5⟩; subst hw)
      go_ret
      exact ⟨_, cap, rfl, hown5, hbel⟩
end Go.Proofs.YtcaihoomcdbfnaaGreat

namespace Go.Proofs.YtcaihoomcdbfnaaGreat
open Go.RowKit
set_option linter.unusedVariables false

/-- What holds at the head of each round of the inner loop. -/
def RMulIn (w : World) (b N lv i : Nat) (O x v : Int) (c kv : Value) (wr : World) : Prop := ∃ k : Nat, k ≤ lv ∧ kv = .int .i64 (k : Int) ∧ c = .int .i64 (hf.cy O x v i k) ∧ Own wr w.heap.size 3 (some ⟨b, 0, none⟩) N N (hf.mix N (i + k) (O + x * 65536 ^ i * v) O) ∧ Below w.heap.size w wr
theorem rmul_next {w wr : World} {b N lv i k n : Nat} {O x v t : Int} (hk : k < lv) (hN : i + lv ≤ N) (ht : t = hf.cy O x v i k + hf.dg O (i + k) + x * hf.dg v k) (hown : Own wr w.heap.size 3 (some ⟨b, 0, none⟩) N N (hf.mix N (i + k) (O + x * 65536 ^ i * v) O)) (hbel : Below w.heap.size w wr) :
    RMulIn w b N lv i O x v (.int .i64 (t / 65536)) (.int .i64 ((k : Int) + 1)) ((wr.drewN n).setCell ⟨b, i + k, none⟩ (.int .i64 (t % 65536))) := by
  have hown' : Own (wr.drewN n) w.heap.size 3 (some ⟨b, 0, none⟩) N N (hf.mix N (i + k) (O + x * 65536 ^ i * v) O) := hown
  refine ⟨k + 1, hk, by simp, by rw [ht, hf.cy_succ], ?_, (below_drewN hbel n).setCell (seg_of_own hown).2.2 _⟩
  rw [ht, hf.mul_digit, ← Nat.add_assoc, ← hf.mix_set]
  exact Own.set hown' _ (by omega)
/-- What holds at the head of each round of the outer loop. -/
def RMulOut (w : World) (b lu lv u v : Nat) (iv : Value) (wr : World) : Prop := ∃ i : Nat, i ≤ lu ∧ iv = .int .i64 (i : Int) ∧ Own wr w.heap.size 3 (some ⟨b, 0, none⟩) (lu + lv) (lu + lv) (hf.dcells (lu + lv) ((u % 65536 ^ i * v : Nat) : Int)) ∧ Below w.heap.size w wr
theorem hpart_lt {u v k lb : Nat} (hv : v < 65536 ^ lb) : u % 65536 ^ k * v < 65536 ^ (k + lb) := by
  rw [Nat.pow_add]
  exact Nat.mul_lt_mul_of_lt_of_le (Nat.mod_lt _ (hf.pow_nat k)) (Nat.le_of_lt hv) (hf.pow_nat lb)
theorem hpart_next (u v k : Nat) : ((u % 65536 ^ k * v : Nat) : Int) + hf.dg u k * 65536 ^ k * v = ((u % 65536 ^ (k + 1) * v : Nat) : Int) := by
  rw [Int.natCast_mul, Int.natCast_mul, Int.natCast_emod, Int.natCast_emod, hf.pow_cast, hf.pow_cast]
  exact hf.mul_next u v k
theorem rmul_last {w wr : World} {b lu lv u v i : Nat} {c O X : Int} (hO : O = ((u % 65536 ^ i * v : Nat) : Int)) (hX : X = hf.dg (u : Int) i) (hi : i < lu) (hv : v < 65536 ^ lv) (hc : c = hf.cy O X v i lv)
    (hown : Own wr w.heap.size 3 (some ⟨b, 0, none⟩) (lu + lv) (lu + lv) (hf.mix (lu + lv) (i + lv) (O + X * 65536 ^ i * v) O)) (hbel : Below w.heap.size w wr) :
    RMulOut w b lu lv u v (.int .i64 ((i : Int) + 1)) (wr.setCell ⟨b, i + lv, none⟩ (.int .i64 c)) := by
  subst hO hX
  refine ⟨i + 1, hi, by simp, ?_, hbel.setCell (seg_of_own hown).2.2 _⟩
  have hd := hf.mul_digit ((u % 65536 ^ i * v : Nat) : Int) (hf.dg u i) v i lv
  have h0 : hf.dg ((u % 65536 ^ i * v : Nat) : Int) (i + lv) = 0 := hf.dg_over (hpart_lt hv)
  have h1 : hf.dg (v : Int) lv = 0 := hf.dg_over hv
  have hr := hf.cy_range ((u % 65536 ^ i * v : Nat) : Int) (hf.dg u i) v i lv (hf.dg_range u i).1 (hf.dg_range u i).2
  rw [h0, h1, ← hc, Int.mul_zero] at hd
  rw [← hc] at hr
  have hc2 : c = hf.dg (((u % 65536 ^ i * v : Nat) : Int) + hf.dg u i * 65536 ^ i * v) (i + lv) := by rw [← hd]; omega
  have := Own.set hown (i := i + lv) (.int .i64 c) (by omega)
  rw [hc2, hf.mix_set] at this
  rw [hc2]
  have e : hf.mix (lu + lv) (i + lv + 1) (((u % 65536 ^ i * v : Nat) : Int) + hf.dg u i * 65536 ^ i * v) ((u % 65536 ^ i * v : Nat) : Int) = hf.dcells (lu + lv) ((u % 65536 ^ (i + 1) * v : Nat) : Int) := by
    rw [← hpart_next, ← hf.mix_full (lu + lv) (((u % 65536 ^ i * v : Nat) : Int) + hf.dg u i * 65536 ^ i * v) ((u % 65536 ^ i * v : Nat) : Int)]
    refine hf.fill_congr fun j hj => ?_
    by_cases h : j < i + lv + 1
    · simp [h, hj]
    · have z1 : hf.dg ((u % 65536 ^ i * v : Nat) : Int) j = 0 := hf.dg_over (Nat.lt_of_lt_of_le (hpart_lt hv) (Nat.pow_le_pow_right (by decide) (by omega)))
      have z2 : hf.dg (((u % 65536 ^ i * v : Nat) : Int) + hf.dg u i * 65536 ^ i * v) j = 0 := by
        rw [hpart_next]
        exact hf.dg_over (Nat.lt_of_lt_of_le (hpart_lt hv) (Nat.pow_le_pow_right (by decide) (by omega)))
      rw [z1, z2]; simp
  rw [← e]
  exact this

set_option maxRecDepth 100000 in
set_option maxHeartbeats 2000000 in
theorem rmul_any (a b : Option Addr) (ca cb u v : Nat) (w : World) (ha : Sl w a (hf.nlen u) ca (hf.dcells (hf.nlen u) (u : Int))) (hb : Sl w b (hf.nlen v) cb (hf.dcells (hf.nlen v) (v : Int))) (hlu : hf.nlen u ≤ 1000000000) (hlv : hf.nlen v ≤ 1000000000) :
    Calls Tryz.prog 83 #[.slice a (hf.nlen u) ca, .slice b (hf.nlen v) cb] w fun e w' => ∃ a' cap', e = .returned (.slice a' (hf.nlen (u * v)) cap') ∧ Own w' w.heap.size 3 a' (hf.nlen (u * v)) cap' (hf.dcells (hf.nlen (u * v)) ((u * v : Nat) : Int)) ∧ Below w.heap.size w w' := by
  obtain ⟨i0, hi0, hz0, hz1, hz2⟩ := info_parts infoInt
  have hu := hf.nlen_lt u
  have hv := hf.nlen_lt v
  obtain ⟨lu, hlu'⟩ : ∃ l, hf.nlen u = l := ⟨_, rfl⟩
  obtain ⟨lv, hlv'⟩ : ∃ l, hf.nlen v = l := ⟨_, rfl⟩
  rw [hlu'] at ha hlu hu ⊢
  rw [hlv'] at hb hlv hv ⊢
  have HM : Hid (u % 65536 ^ lu = u) := Nat.mod_eq_of_lt hu
  have HV : Hid _ := hv
  have HS : Hid (u * v < 65536 ^ (lu + lv)) := by have := hpart_lt (u := u) (k := lu) hv; rwa [HM.out] at this
  have hz0' : hf.dcells (lu + lv) 0 = List.replicate (lu + lv) (.int .i64 0) := hf.dcells_zero _
  have HZ : Hid _ := hz0'
  have hmax : lu + lv ≤ maxLen := by unfold maxLen; omega
  clear hu hv hlu' hlv' hz0'
  go_enter Tryz.func83, Tryz.ntmps83
  go_wp2_with (at_make; refine make_any _ rfl (.tmp 13) (.tmp 13) 36 rfl w.heap.size 3 i0 (.int .i64 0) Tryz.underlying36 hi0 hz0 hz1 rfl .i64 .i64 _ _ (lu + lv) rfl rfl (by simp) (by simp) (by rw [hz2]; omega) (by omega) (Nat.le_refl _) ?_; intro w1 hown hbel)
  rw [← HZ.out] at hown
  go_loopw [6] (fun iv wr => RMulOut w w.heap.size lu lv u v iv wr) (fun iv _ => lu - (intOf iv).toNat)
  case atStart => exact ⟨0, by omega, rfl, by rw [Nat.pow_zero, Nat.mod_one, Nat.zero_mul]; exact hown, hbel⟩
  case round =>
    clear hown hbel
    obtain ⟨i, hi, rfl, hown, hbel⟩ := hrel
    by_cases hlt : i < lu
    · obtain ⟨ba, oa, rfl, hba, hsa⟩ := ha.at (by omega)
      have r1 := ha.room
      obtain ⟨X, hX⟩ : ∃ X, X = hf.dg (u : Int) i := ⟨_, rfl⟩
      obtain ⟨O, hO⟩ : ∃ O, O = ((u % 65536 ^ i * v : Nat) : Int) := ⟨_, rfl⟩
      obtain ⟨x0, x1⟩ := hf.dg_range u i
      have c0 : w.cell? ⟨ba, oa + i, none⟩ = some (.int .i64 X) := by rw [hX]; exact hsa.cell i _ (hf.dcells_at _ _ _ hlt)
      rw [← hX] at x0 x1
      have HI : Hid (RMulIn w w.heap.size (lu + lv) lv i O X v (.int .i64 0) (.int .i64 0) wr) := ⟨0, by omega, rfl, by rw [hf.cy_zero], by rw [Nat.add_zero, hf.mix_start, hO]; exact hown, hbel⟩
      have HL : Hid _ := fun (wr : World) (c : Int) => rmul_last (w := w) (wr := wr) (b := w.heap.size) (c := c) hO hX hlt HV.out
      clear hown hbel hX hO
      go_wp2
      go_loopw [7, 8] (fun c kv wr => RMulIn w w.heap.size (lu + lv) lv i O X v c kv wr) (fun _ kv _ => lv - (intOf kv).toNat)
      case atStart => exact HI.out
      case round =>
        obtain ⟨k, hk, rfl, rfl, hown, hbel⟩ := hrel
        obtain ⟨f0, f1⟩ := hf.cy_range O X v i k x0 x1
        by_cases hlk : k < lv
        · obtain ⟨bb, ob, rfl, hbb, hsb⟩ := hb.at (by omega)
          have r2 := hb.room
          have c1 : wr.cell? ⟨ba, oa + i, none⟩ = some (.int .i64 X) := (hbel.cell (p := ⟨ba, oa + i, none⟩) hba).trans c0
          have c2 : wr.cell? ⟨bb, ob + k, none⟩ = some (.int .i64 (hf.dg v k)) := (hbel.cell (p := ⟨bb, ob + k, none⟩) hbb).trans (hsb.cell k _ (hf.dcells_at _ _ _ hlk))
          have c3 : wr.cell? ⟨w.heap.size, i + k, none⟩ = some (.int .i64 (hf.dg O (i + k))) := Own.cell hown _ _ (hf.mix_at _ _ _ _ _ (by omega) (Nat.le_refl _))
          have c4 : wr.frozen? ⟨w.heap.size, i + k, none⟩ = false := Own.free hown _ (by omega)
          obtain ⟨d0, d1⟩ := hf.dg_range v k
          obtain ⟨e0, e1⟩ := hf.dg_range O (i + k)
          have HN : Hid _ := fun n => rmul_next (n := n) hlk (by omega) rfl hown hbel
          obtain ⟨C, hC⟩ : ∃ C, hf.cy O X v i k = C := ⟨_, rfl⟩
          obtain ⟨Y, hY⟩ : ∃ Y, hf.dg (v : Int) k = Y := ⟨_, rfl⟩
          obtain ⟨D, hD⟩ : ∃ D, hf.dg O (i + k) = D := ⟨_, rfl⟩
          rw [hC] at f0 f1 HN ⊢
          rw [hY] at c2 d0 d1 HN
          rw [hD] at c3 e0 e1 HN
          have m0 : 0 ≤ X * Y := Int.mul_nonneg x0 d0
          have m1 : X * Y ≤ 4294836225 := by have := Int.mul_le_mul (show X ≤ 65535 by omega) (show Y ≤ 65535 by omega) d0 (by decide); omega
          clear hown hC hY hD
          go_wp2
          go_quiet (fail)
          go_wp2
          go_roundw
          case rel => exact HN.out _
          case measure => simp [intOf]; omega
        · obtain rfl : k = lv := by omega
          have c3 : wr.cell? ⟨w.heap.size, i + k, none⟩ = some (.int .i64 (hf.dg O (i + k))) := Own.cell hown _ _ (hf.mix_at _ _ _ _ _ (by omega) (Nat.le_refl _))
          have c4 : wr.frozen? ⟨w.heap.size, i + k, none⟩ = false := Own.free hown _ (by omega)
          have HN : Hid _ := HL.out wr _ rfl hown hbel
          clear hown
          go_wp2
          go_roundw
          case rel => exact HN.out
          case measure => simp [intOf]; omega
    · obtain rfl : i = lu := by omega
      rw [HM.out] at hown
      go_wp2_with (go_at_call 74; refine (rtrim_own _ _ _ (u * v) _ _ hown HS.out).mono ?_; rintro e w' ⟨rfl, hw, hown5⟩; subst hw)
      go_ret
      exact ⟨_, _, rfl, hown5, hbel⟩
end Go.Proofs.YtcaihoomcdbfnaaGreat

namespace Go.Proofs.YtcaihoomcdbfnaaGreat
open Go.RowKit
set_option linter.unusedVariables false

/-- The slice is the digits of the number u. -/
structure HD (w : World) (a : Option Addr) (l c u : Nat) : Prop where
  sl : Sl w a l c (hf.dcells l (u : Int))
  len : l = hf.nlen u
theorem HD.below {w w' : World} {a : Option Addr} {l c u : Nat} (h : HD w a l c u) (hb : Below w.heap.size w w') : HD w' a l c u := ⟨h.sl.below hb, h.len⟩
theorem hd_nil (w : World) : HD w none 0 0 0 := ⟨sl_nil w, hf.nlen_zero.symm⟩
def GotH (w : World) (u : Nat) (e : Ending) (w' : World) : Prop := ∃ a l c, e = .returned (.slice a l c) ∧ HD w' a l c u ∧ Below w.heap.size w w'
theorem gotH {w w' : World} {u : Nat} {e : Ending} (h : ∃ a' cap', e = .returned (.slice a' (hf.nlen u) cap') ∧ Own w' w.heap.size 3 a' (hf.nlen u) cap' (hf.dcells (hf.nlen u) (u : Int)) ∧ Below w.heap.size w w') : GotH w u e w' := by
  obtain ⟨a, c, he, ho, hb⟩ := h
  exact ⟨a, _, c, he, ⟨Own.sl ho, rfl⟩, hb⟩
theorem hfew {u K : Nat} (hu : u < 4294967296 ^ K) (hK : K ≤ 500000) : hf.nlen u ≤ 1000000 := by
  have : hf.nlen u ≤ 2 * K := hf.nlen_le (by rw [pow_halves]; exact hu)
  omega
theorem hCmp (a b : Option Addr) (la lb ca cb u v : Nat) (w : World) (ha : HD w a la ca u) (hb : HD w b lb cb v) {c : Int} (hc : c = cmpI u v) : Calls Tryz.prog 80 #[.slice a la ca, .slice b lb cb] w fun e w' => e = .returned (.int .i64 c) ∧ Below w.heap.size w w' := by
  obtain ⟨ha, rfl⟩ := ha
  obtain ⟨hb, rfl⟩ := hb
  subst hc
  exact rcmp_any a b ca cb u v w ha hb
theorem hAdd (a b : Option Addr) (la lb ca cb u v : Nat) (w : World) (ha : HD w a la ca u) (hb : HD w b lb cb v) (fu : hf.nlen u ≤ 1000000) (fv : hf.nlen v ≤ 1000000) : Calls Tryz.prog 79 #[.slice a la ca, .slice b lb cb] w (GotH w (u + v)) := by
  obtain ⟨ha, rfl⟩ := ha
  obtain ⟨hb, rfl⟩ := hb
  exact (radd_any a b ca cb u v w ha hb (by omega) (by omega)).mono fun _ _ h => gotH h
theorem hSub (a b : Option Addr) (la lb ca cb u v : Nat) (w : World) (ha : HD w a la ca u) (hb : HD w b lb cb v) (fu : hf.nlen u ≤ 1000000) (fv : hf.nlen v ≤ 1000000) (hle : v ≤ u) : Calls Tryz.prog 82 #[.slice a la ca, .slice b lb cb] w (GotH w (u - v)) := by
  obtain ⟨ha, rfl⟩ := ha
  obtain ⟨hb, rfl⟩ := hb
  exact (rsub_any a b ca cb u v w ha hb (by omega) (by omega) hle).mono fun _ _ h => gotH h
theorem hMul (a b : Option Addr) (la lb ca cb u v : Nat) (w : World) (ha : HD w a la ca u) (hb : HD w b lb cb v) (fu : hf.nlen u ≤ 1000000) (fv : hf.nlen v ≤ 1000000) : Calls Tryz.prog 83 #[.slice a la ca, .slice b lb cb] w (GotH w (u * v)) := by
  obtain ⟨ha, rfl⟩ := ha
  obtain ⟨hb, rfl⟩ := hb
  exact (rmul_any a b ca cb u v w ha hb (by omega) (by omega)).mono fun _ _ h => gotH h
theorem hHalf (a : Option Addr) (la ca u : Nat) (w : World) (ha : HD w a la ca u) (fu : hf.nlen u ≤ 1000000) : Calls Tryz.prog 92 #[.slice a la ca] w (GotH w (u / 2)) := by
  obtain ⟨ha, rfl⟩ := ha
  exact (rhalf_any a ca u w ha (by omega)).mono fun _ _ h => gotH h
end Go.Proofs.YtcaihoomcdbfnaaGreat

namespace Go.Proofs.YtcaihoomcdbfnaaGreat
open Go.RowKit
set_option linter.unusedVariables false

theorem HD.put {w : World} {a : Option Addr} {l c u b : Nat} (h : HD w a l c u) (hn : NA b a l) (i : Nat) (v : Value) : HD (w.setCell ⟨b, i, none⟩ v) a l c u := ⟨h.sl.put hn i v, h.len⟩
def GotHF (w : World) (u : Nat) (e : Ending) (w' : World) : Prop := ∃ a l c, e = .returned (.slice a l c) ∧ HD w' a l c u ∧ Far w.heap.size a l ∧ Below w.heap.size w w'
theorem gotHF {w w' : World} {u : Nat} {e : Ending} (h : ∃ a' cap', e = .returned (.slice a' (hf.nlen u) cap') ∧ Own w' w.heap.size 3 a' (hf.nlen u) cap' (hf.dcells (hf.nlen u) (u : Int)) ∧ Below w.heap.size w w') : GotHF w u e w' := by
  obtain ⟨a, c, he, ho, hb⟩ := h
  exact ⟨a, _, c, he, ⟨Own.sl ho, rfl⟩, Own.far ho, hb⟩
theorem hfOf (a : Option Addr) (l c u : Nat) (w : World) (h : NI w a l c u) : Calls Tryz.prog 38 #[.slice a l c] w (GotHF w u) :=
  (rof_any a l c u w h.sl h.lt (by have := h.few; omega)).mono fun _ _ h => gotHF h
theorem hfAdd (a b : Option Addr) (la lb ca cb u v : Nat) (w : World) (ha : HD w a la ca u) (hb : HD w b lb cb v) (fu : hf.nlen u ≤ 1000000) (fv : hf.nlen v ≤ 1000000) : Calls Tryz.prog 79 #[.slice a la ca, .slice b lb cb] w (GotHF w (u + v)) := by
  obtain ⟨ha, rfl⟩ := ha
  obtain ⟨hb, rfl⟩ := hb
  exact (radd_any a b ca cb u v w ha hb (by omega) (by omega)).mono fun _ _ h => gotHF h
theorem hfSub (a b : Option Addr) (la lb ca cb u v : Nat) (w : World) (ha : HD w a la ca u) (hb : HD w b lb cb v) (fu : hf.nlen u ≤ 1000000) (fv : hf.nlen v ≤ 1000000) (hle : v ≤ u) : Calls Tryz.prog 82 #[.slice a la ca, .slice b lb cb] w (GotHF w (u - v)) := by
  obtain ⟨ha, rfl⟩ := ha
  obtain ⟨hb, rfl⟩ := hb
  exact (rsub_any a b ca cb u v w ha hb (by omega) (by omega) hle).mono fun _ _ h => gotHF h
theorem hfMul (a b : Option Addr) (la lb ca cb u v : Nat) (w : World) (ha : HD w a la ca u) (hb : HD w b lb cb v) (fu : hf.nlen u ≤ 1000000) (fv : hf.nlen v ≤ 1000000) : Calls Tryz.prog 83 #[.slice a la ca, .slice b lb cb] w (GotHF w (u * v)) := by
  obtain ⟨ha, rfl⟩ := ha
  obtain ⟨hb, rfl⟩ := hb
  exact (rmul_any a b ca cb u v w ha hb (by omega) (by omega)).mono fun _ _ h => gotHF h
end Go.Proofs.YtcaihoomcdbfnaaGreat
