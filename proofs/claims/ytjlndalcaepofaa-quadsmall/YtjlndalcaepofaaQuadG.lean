/-
  What package quad's order and narrowing answer.
-/
import Derived.Test.YtjlndalcaepofaaQuadF
namespace Go.Proofs.Ytjlndalcaepofaa
open Go.RowKit
set_option linter.unusedVariables false

theorem cmp_top {a b : Int} (h0 : -57896044618658097711785492504343953926634992332820282019728792003956564819968 ≤ a) (h1 : a < 57896044618658097711785492504343953926634992332820282019728792003956564819968) (g0 : -57896044618658097711785492504343953926634992332820282019728792003956564819968 ≤ b) (g1 : b < 57896044618658097711785492504343953926634992332820282019728792003956564819968)
    (ne : q.dg a 3 ≠ q.dg b 3) : cmpI (wrap64 (q.dg a 3)) (wrap64 (q.dg b 3)) = cmpI a b := by
  have e1 : wrap64 (q.dg a 3) = a / 6277101735386680763835789423207666416102355444464034512896 := by rw [qdg3]; unfold wrap64; omega
  have e2 : wrap64 (q.dg b 3) = b / 6277101735386680763835789423207666416102355444464034512896 := by rw [qdg3]; unfold wrap64; omega
  have ne' : a / 6277101735386680763835789423207666416102355444464034512896 ≠ b / 6277101735386680763835789423207666416102355444464034512896 := by
    intro e; rw [qdg3, qdg3, e] at ne; exact ne rfl
  rw [e1, e2]
  unfold cmpI
  clear e1 e2 ne
  split <;> split <;> (try split) <;> (try split) <;> omega
theorem cmp_low {a b : Int} (h : Nat) (hh : h ≤ 2) (h0 : -57896044618658097711785492504343953926634992332820282019728792003956564819968 ≤ a) (h1 : a < 57896044618658097711785492504343953926634992332820282019728792003956564819968) (g0 : -57896044618658097711785492504343953926634992332820282019728792003956564819968 ≤ b) (g1 : b < 57896044618658097711785492504343953926634992332820282019728792003956564819968)
    (ne : q.dg a h ≠ q.dg b h) (eq : ∀ j, h < j → j ≤ 3 → q.dg a j = q.dg b j) : cmpI (q.dg a h) (q.dg b h) = cmpI a b := by
  have ha := split4 a
  have hb := split4 b
  have t3 := eq 3 (by omega) (by omega)
  have et : a / 115792089237316195423570985008687907853269984665640564039457584007913129639936 = b / 115792089237316195423570985008687907853269984665640564039457584007913129639936 := by
    have r0 := q.dg_range a 0; have r1 := q.dg_range a 1; have r2 := q.dg_range a 2; have r3 := q.dg_range a 3
    have s0 := q.dg_range b 0; have s1 := q.dg_range b 1; have s2 := q.dg_range b 2
    rw [t3] at ha r3
    omega
  have r0 := q.dg_range a 0; have r1 := q.dg_range a 1; have r2 := q.dg_range a 2
  have s0 := q.dg_range b 0; have s1 := q.dg_range b 1; have s2 := q.dg_range b 2
  rw [t3, et] at ha
  clear h0 h1 g0 g1
  unfold cmpI
  obtain rfl | rfl | rfl : h = 0 ∨ h = 1 ∨ h = 2 := by omega
  · have t1 := eq 1 (by omega) (by omega)
    have t2 := eq 2 (by omega) (by omega)
    rw [t1, t2] at ha
    split <;> split <;> (try split) <;> (try split) <;> omega
  · have t2 := eq 2 (by omega) (by omega)
    rw [t2] at ha
    split <;> split <;> (try split) <;> (try split) <;> omega
  · split <;> split <;> (try split) <;> (try split) <;> omega

theorem box2 (w : World) (xs ys : List Value) (t : TypeId) : Row ((w.alloc (.cells xs.toArray t)).alloc (.cells ys.toArray t)) w.heap.size xs ∧ Row ((w.alloc (.cells xs.toArray t)).alloc (.cells ys.toArray t)) (w.heap.size + 1) ys := by
  have h1 := Row.new (w.alloc (.cells xs.toArray t)) ys t
  rw [World.size_alloc] at h1
  exact ⟨(Row.new w xs t).alloc _ (by simp), h1⟩
theorem drewN2 (w : World) (n m : Nat) : (w.drewN n).drewN m = w.drewN (n + m) := by simp [World.drewN, Nat.add_assoc]

set_option maxHeartbeats 1000000 in
theorem qcmp_low (a b : Int) (h : Nat) (hh : h ≤ 2) (ne : q.dg a h ≠ q.dg b h) (eq : ∀ j, h < j → j ≤ 3 → q.dg a j = q.dg b j) (w : World) :
    Calls Try.prog 21 #[.agg #[.int .u64 (q.dg (a) 0), .int .u64 (q.dg (a) 1), .int .u64 (q.dg (a) 2), .int .u64 (q.dg (a) 3)], .agg #[.int .u64 (q.dg (b) 0), .int .u64 (q.dg (b) 1), .int .u64 (q.dg (b) 2), .int .u64 (q.dg (b) 3)]] w fun e w' => e = .returned (.int .i64 (cmpI (q.dg a h) (q.dg b h))) ∧ Below w.heap.size w w' := by
  have N : (q.dg a 0 == q.dg b 0 && (q.dg a 1 == q.dg b 1 && (q.dg a 2 == q.dg b 2 && q.dg a 3 == q.dg b 3))) = false := by
    rw [Bool.eq_false_iff]
    intro h'
    simp at h'
    obtain rfl | rfl | rfl : h = 0 ∨ h = 1 ∨ h = 2 := by omega
    · exact ne h'.1
    · exact ne h'.2.1
    · exact ne h'.2.2.1
  have Q5 := fun w => (quad_eq (q.dg a 0) (q.dg a 1) (q.dg a 2) (q.dg a 3) (q.dg b 0) (q.dg b 1) (q.dg b 2) (q.dg b 3) w).trans (by rw [N])
  have T3 : (q.dg a 3 == q.dg b 3) = true := by simp; exact eq 3 (by omega) (by omega)
  have NE : Hid _ := ne
  have EQ : Hid _ := eq
  have BX : Hid _ := box2 w [.int .u64 (q.dg a 0), .int .u64 (q.dg a 1), .int .u64 (q.dg a 2), .int .u64 (q.dg a 3)] [.int .u64 (q.dg b 0), .int .u64 (q.dg b 1), .int .u64 (q.dg b 2), .int .u64 (q.dg b 3)] 24
  clear N ne eq
  go_enter Try.func21, Try.ntmps21
  go_wp2
  go_loopw [5] (fun i wr => ∃ k n : Nat, h ≤ k ∧ k ≤ 2 ∧ i = .int .i64 (k : Int) ∧ wr = ((w.alloc (.cells #[.int .u64 (q.dg a 0), .int .u64 (q.dg a 1), .int .u64 (q.dg a 2), .int .u64 (q.dg a 3)] 24)).alloc (.cells #[.int .u64 (q.dg b 0), .int .u64 (q.dg b 1), .int .u64 (q.dg b 2), .int .u64 (q.dg b 3)] 24)).drewN n) (fun i _ => (intOf i).toNat)
  case atStart => exact ⟨2, 0, hh, by omega, rfl, rfl⟩
  case round =>
    obtain ⟨k, n, hk, hk2, rfl, rfl⟩ := hrel
    obtain ⟨ra, rb⟩ := BX.out
    have ra := ra.cells (qcells a).symm
    have rb := rb.cells (qcells b).symm
    have c1 := ra.cell k _ (q.dcells_at 4 a k (by omega))
    have c2 := rb.cell k _ (q.dcells_at 4 b k (by omega))
    generalize hW : ((w.alloc (.cells #[.int .u64 (q.dg a 0), .int .u64 (q.dg a 1), .int .u64 (q.dg a 2), .int .u64 (q.dg a 3)] 24)).alloc (.cells #[.int .u64 (q.dg b 0), .int .u64 (q.dg b 1), .int .u64 (q.dg b 2), .int .u64 (q.dg b 3)] 24)) = W at *
    have BW : Hid (Below w.heap.size w W) := by rw [← hW]; exact ((Below.refl _ _).alloc (Nat.le_refl _) _).alloc (by simp) _
    clear ra rb hW BX Q5 T3
    have hl : (k : Int) < 4 := by omega
    by_cases hkh : k = h
    · subst hkh
      have E : (q.dg a k == q.dg b k) = false := by
        rw [Bool.eq_false_iff]; intro e; exact NE.out (by simpa using e)
      clear hk hh
      go_wp2
      go_quiet (fail)
      go_wp2
      have c1 : ((W.drewN n).drewN nq).cell? ⟨w.heap.size, k, none⟩ = some (.int .u64 (q.dg a k)) := c1
      have c2 : ((W.drewN n).drewN nq).cell? ⟨w.heap.size + 1, k, none⟩ = some (.int .u64 (q.dg b k)) := c2
      have BV := below_drewN (below_drewN BW.out n) nq
      generalize (W.drewN n).drewN nq = V at *
      go_quiet (first | (go_at_call 35; exact Calls.quiet_of_same (cmpU64_any _ _ _)))
      go_wp2
      go_ret
      exact ⟨rfl, below_drewN BV _⟩
    · have E : (q.dg a k == q.dg b k) = true := by simp; exact EQ.out k (by omega) (by omega)
      obtain ⟨k, rfl⟩ : ∃ j, k = j + 1 := ⟨k - 1, by omega⟩
      go_wp2
      go_quiet (fail)
      go_wp2
      go_roundw
      case rel => exact ⟨k, _, by omega, by omega, by simp, rfl⟩
      case measure => simp [intOf]

set_option maxHeartbeats 1000000 in
theorem qcmp_top (a b : Int) (ne : q.dg a 3 ≠ q.dg b 3) (w : World) :
    Calls Try.prog 21 #[.agg #[.int .u64 (q.dg (a) 0), .int .u64 (q.dg (a) 1), .int .u64 (q.dg (a) 2), .int .u64 (q.dg (a) 3)], .agg #[.int .u64 (q.dg (b) 0), .int .u64 (q.dg (b) 1), .int .u64 (q.dg (b) 2), .int .u64 (q.dg (b) 3)]] w fun e w' => e = .returned (.int .i64 (cmpI (wrap64 (q.dg a 3)) (wrap64 (q.dg b 3)))) ∧ Below w.heap.size w w' := by
  have N : (q.dg a 0 == q.dg b 0 && (q.dg a 1 == q.dg b 1 && (q.dg a 2 == q.dg b 2 && q.dg a 3 == q.dg b 3))) = false := by
    rw [Bool.eq_false_iff]
    intro h'
    simp at h'
    exact ne h'.2.2.2
  have Q5 := fun w => (quad_eq (q.dg a 0) (q.dg a 1) (q.dg a 2) (q.dg a 3) (q.dg b 0) (q.dg b 1) (q.dg b 2) (q.dg b 3) w).trans (by rw [N])
  have T3 : (q.dg a 3 == q.dg b 3) = false := by rw [Bool.eq_false_iff]; intro e; exact ne (by simpa using e)
  clear N ne
  go_enter Try.func21, Try.ntmps21
  go_wp2_with (go_at_call 34; refine (cmpI64_any _ _ _).mono ?_; rintro e w' ⟨rfl, rfl⟩)
  go_ret
  exact ⟨rfl, ((Below.refl _ _).alloc (Nat.le_refl _) _).alloc (by simp) _⟩
theorem qcmp_same (a : Int) (w : World) :
    Calls Try.prog 21 #[.agg #[.int .u64 (q.dg (a) 0), .int .u64 (q.dg (a) 1), .int .u64 (q.dg (a) 2), .int .u64 (q.dg (a) 3)], .agg #[.int .u64 (q.dg (a) 0), .int .u64 (q.dg (a) 1), .int .u64 (q.dg (a) 2), .int .u64 (q.dg (a) 3)]] w fun e w' => e = .returned (.int .i64 0) ∧ Below w.heap.size w w' := by
  have Q5 := fun w => (quad_eq (q.dg a 0) (q.dg a 1) (q.dg a 2) (q.dg a 3) (q.dg a 0) (q.dg a 1) (q.dg a 2) (q.dg a 3) w).trans (by rw [show (q.dg a 0 == q.dg a 0 && (q.dg a 1 == q.dg a 1 && (q.dg a 2 == q.dg a 2 && q.dg a 3 == q.dg a 3))) = true by simp])
  go_enter Try.func21, Try.ntmps21
  go_wp2
  go_ret
  exact ⟨rfl, ((Below.refl _ _).alloc (Nat.le_refl _) _).alloc (by simp) _⟩
theorem qcmp_any {a0 a1 a2 a3 b0 b1 b2 b3 : Int} (a b : Int) (ha : Wd a a0 a1 a2 a3) (hb : Wd b b0 b1 b2 b3) (h0 : -57896044618658097711785492504343953926634992332820282019728792003956564819968 ≤ a) (h1 : a < 57896044618658097711785492504343953926634992332820282019728792003956564819968) (g0 : -57896044618658097711785492504343953926634992332820282019728792003956564819968 ≤ b) (g1 : b < 57896044618658097711785492504343953926634992332820282019728792003956564819968) (w : World) :
    Calls Try.prog 21 #[.agg #[.int .u64 a0, .int .u64 a1, .int .u64 a2, .int .u64 a3], .agg #[.int .u64 b0, .int .u64 b1, .int .u64 b2, .int .u64 b3]] w fun e w' => e = .returned (.int .i64 (cmpI a b)) ∧ Below w.heap.size w w' := by
  obtain ⟨rfl, rfl, rfl, rfl⟩ := ha
  obtain ⟨rfl, rfl, rfl, rfl⟩ := hb
  by_cases e3 : q.dg a 3 = q.dg b 3
  · by_cases e2 : q.dg a 2 = q.dg b 2
    · by_cases e1 : q.dg a 1 = q.dg b 1
      · by_cases e0 : q.dg a 0 = q.dg b 0
        · obtain rfl := quad_inj h0 h1 g0 g1 e0 e1 e2 e3
          have e : cmpI a a = 0 := by unfold cmpI; rw [if_neg (by omega), if_neg (by omega)]
          rw [e]
          exact qcmp_same a w
        · have eq : ∀ j, 0 < j → j ≤ 3 → q.dg a j = q.dg b j := fun j h h' => by
            obtain rfl | rfl | rfl : j = 1 ∨ j = 2 ∨ j = 3 := by omega
            all_goals assumption
          rw [← cmp_low 0 (by omega) h0 h1 g0 g1 e0 eq]
          exact qcmp_low a b 0 (by omega) e0 eq w
      · have eq : ∀ j, 1 < j → j ≤ 3 → q.dg a j = q.dg b j := fun j h h' => by
          obtain rfl | rfl : j = 2 ∨ j = 3 := by omega
          all_goals assumption
        rw [← cmp_low 1 (by omega) h0 h1 g0 g1 e1 eq]
        exact qcmp_low a b 1 (by omega) e1 eq w
    · have eq : ∀ j, 2 < j → j ≤ 3 → q.dg a j = q.dg b j := fun j h h' => by
        obtain rfl : j = 3 := by omega
        assumption
      rw [← cmp_low 2 (by omega) h0 h1 g0 g1 e2 eq]
      exact qcmp_low a b 2 (by omega) e2 eq w
  · rw [← cmp_top h0 h1 g0 g1 e3]
    exact qcmp_top a b e3 w

theorem hi_w (a : Int) : wrap64 (q.dg a 1) = hi a := by rw [qdg1]; unfold wrap64 hi; omega
theorem lo_w (a : Int) : q.dg a 0 = lo a := (lo_q a).symm
theorem narrow (a : Int) : ∃ v, hi v = hi a ∧ lo v = lo a ∧ -170141183460469231731687303715884105728 ≤ v ∧ v < 170141183460469231731687303715884105728 := by
  obtain ⟨h0, h1⟩ := hi_range a
  obtain ⟨l0, l1⟩ := lo_range a
  exact ⟨hi a * 18446744073709551616 + lo a, hi_mk _ _ h0 (by omega) l0 (by omega), lo_mk _ _ l0 (by omega), by omega, by omega⟩
theorem keepS {b c : Nat} {v0 v1 u0 u1 u2 u3 : Value} {w w' : World} (h : w.cell? ⟨b, 0, none⟩ = some v0 ∧ w.cell? ⟨b, 1, none⟩ = some v1 ∧ w.cell? ⟨c, 0, none⟩ = some u0 ∧ w.cell? ⟨c, 1, none⟩ = some u1 ∧ w.cell? ⟨c, 2, none⟩ = some u2 ∧ w.cell? ⟨c, 3, none⟩ = some u3) (hb : Below w.heap.size w w') :
    w'.cell? ⟨b, 0, none⟩ = some v0 ∧ w'.cell? ⟨b, 1, none⟩ = some v1 ∧ w'.cell? ⟨c, 0, none⟩ = some u0 ∧ w'.cell? ⟨c, 1, none⟩ = some u1 ∧ w'.cell? ⟨c, 2, none⟩ = some u2 ∧ w'.cell? ⟨c, 3, none⟩ = some u3 :=
  ⟨cell_later hb h.1, cell_later hb h.2.1, cell_later hb h.2.2.1, cell_later hb h.2.2.2.1, cell_later hb h.2.2.2.2.1, cell_later hb h.2.2.2.2.2⟩

set_option maxHeartbeats 1000000 in
theorem qsmall_yes {a0 a1 a2 a3 : Int} (a : Int) (ha : Wd a a0 a1 a2 a3) (h0 : -170141183460469231731687303715884105728 ≤ a) (h1 : a < 170141183460469231731687303715884105728) (w : World) :
    Calls Try.prog 27 #[.agg #[.int .u64 a0, .int .u64 a1, .int .u64 a2, .int .u64 a3]] w fun e w' => e = .returned (.tuple #[.agg #[.int .i64 (hi a), .int .u64 (lo a)], .bool true]) ∧ Below w.heap.size w w' := by
  obtain ⟨rfl, rfl, rfl, rfl⟩ := ha
  have Q5 := fun w => (quad_eq (q.dg a 0) (q.dg a 1) (q.dg a 2) (q.dg a 3) (q.dg a 0) (q.dg a 1) (q.dg a 2) (q.dg a 3) w).trans (by rw [show (q.dg a 0 == q.dg a 0 && (q.dg a 1 == q.dg a 1 && (q.dg a 2 == q.dg a 2 && q.dg a 3 == q.dg a 3))) = true by simp])
  have HO : Hid _ := fun w => qof_any (al := q.dg a 0) a rfl (lo_w a) h0 h1 w
  have e1 := hi_w a
  have E0 : Hid _ := lo_w a
  clear h0 h1
  go_enter Try.func27, Try.ntmps27
  go_wp2
  go_region_held3 (fun w' => w'.cell? ⟨w.heap.size + 1 + 1, 0, none⟩ = some (.int .i64 (hi a)) ∧ w'.cell? ⟨w.heap.size + 1 + 1, 1, none⟩ = some (.int .u64 (q.dg a 0)) ∧ w'.cell? ⟨w.heap.size, 0, none⟩ = some (.int .u64 (q.dg a 0)) ∧ w'.cell? ⟨w.heap.size, 1, none⟩ = some (.int .u64 (q.dg a 1)) ∧ w'.cell? ⟨w.heap.size, 2, none⟩ = some (.int .u64 (q.dg a 2)) ∧ w'.cell? ⟨w.heap.size, 3, none⟩ = some (.int .u64 (q.dg a 3)))
    (first | exact keepS (by assumption) hb | (refine ⟨?_, ?_, ?_, ?_, ?_, ?_⟩ <;> simp [go_sem]))
    (first | (go_at_call 18; refine (HO.out _).mono ?_; rintro e w1 ⟨rfl, hb⟩))
  rename_i hHeld
  obtain ⟨x0, x1, _, _, _, _⟩ := hHeld
  obtain ⟨hc, hf⟩ := bcell hb
  have z0 : w1.cell? ⟨w.heap.size + 1, 0, none⟩ = some (.int .i64 0) := by rw [hc _ _ (by simp)]; simp [go_sem]
  have z1 : w1.cell? ⟨w.heap.size + 1, 1, none⟩ = some (.int .u64 0) := by rw [hc _ _ (by simp)]; simp [go_sem]
  have f0 : w1.frozen? ⟨w.heap.size + 1, 0, none⟩ = false := by rw [hf _ _ (by simp)]; simp [go_sem]
  have f1 : w1.frozen? ⟨w.heap.size + 1, 1, none⟩ = false := by rw [hf _ _ (by simp)]; simp [go_sem]
  have BW := (((((Below.refl w.heap.size w).alloc (Nat.le_refl _) _).alloc (by simp) _).alloc (by simp <;> omega) _).drew).trans (hb.mono (by simp <;> omega))
  clear hc hf hb
  go_wp2
  refine bodyPost_ret (v := .tuple #[.agg #[.int .i64 (hi a), .int .u64 (lo a)], .bool true]) (by simp [results, Try.results27, go_sem, *, E0.out]) rfl ⟨rfl, ?_⟩
  exact (BW.setCell (by simp <;> omega) _).setCell (by simp <;> omega) _
set_option maxHeartbeats 1000000 in
theorem qsmall_no {a0 a1 a2 a3 : Int} (a : Int) (ha : Wd a a0 a1 a2 a3) (g0 : -57896044618658097711785492504343953926634992332820282019728792003956564819968 ≤ a) (g1 : a < 57896044618658097711785492504343953926634992332820282019728792003956564819968) (h : a < -170141183460469231731687303715884105728 ∨ 170141183460469231731687303715884105728 ≤ a) (w : World) :
    Calls Try.prog 27 #[.agg #[.int .u64 a0, .int .u64 a1, .int .u64 a2, .int .u64 a3]] w fun e w' => e = .returned (.tuple #[.agg #[.int .i64 0, .int .u64 0], .bool false]) ∧ Below w.heap.size w w' := by
  obtain ⟨rfl, rfl, rfl, rfl⟩ := ha
  obtain ⟨v, v1, v2, v3, v4⟩ := narrow a
  have N : (q.dg v 0 == q.dg a 0 && (q.dg v 1 == q.dg a 1 && (q.dg v 2 == q.dg a 2 && q.dg v 3 == q.dg a 3))) = false := by
    rw [Bool.eq_false_iff]
    intro h'
    simp at h'
    have := quad_inj (by omega) (by omega) g0 g1 h'.1 h'.2.1 h'.2.2.1 h'.2.2.2
    omega
  have Q5 := fun w => (quad_eq (q.dg v 0) (q.dg v 1) (q.dg v 2) (q.dg v 3) (q.dg a 0) (q.dg a 1) (q.dg a 2) (q.dg a 3) w).trans (by rw [N])
  have HO : Hid _ := fun w => qof_any (ah := hi a) (al := q.dg a 0) v v1.symm ((lo_w a).trans v2.symm) v3 v4 w
  have e1 := hi_w a
  clear N v1 v2 v3 v4 g0 g1 h
  go_enter Try.func27, Try.ntmps27
  go_wp2
  go_region_held3 (fun w' => w'.cell? ⟨w.heap.size + 1 + 1, 0, none⟩ = some (.int .i64 (hi a)) ∧ w'.cell? ⟨w.heap.size + 1 + 1, 1, none⟩ = some (.int .u64 (q.dg a 0)) ∧ w'.cell? ⟨w.heap.size, 0, none⟩ = some (.int .u64 (q.dg a 0)) ∧ w'.cell? ⟨w.heap.size, 1, none⟩ = some (.int .u64 (q.dg a 1)) ∧ w'.cell? ⟨w.heap.size, 2, none⟩ = some (.int .u64 (q.dg a 2)) ∧ w'.cell? ⟨w.heap.size, 3, none⟩ = some (.int .u64 (q.dg a 3)))
    (first | exact keepS (by assumption) hb | (refine ⟨?_, ?_, ?_, ?_, ?_, ?_⟩ <;> simp [go_sem]))
    (first | (go_at_call 18; refine (HO.out _).mono ?_; rintro e w1 ⟨rfl, hb⟩))
  rename_i hHeld
  obtain ⟨x0, x1, _, _, _, _⟩ := hHeld
  obtain ⟨hc, hf⟩ := bcell hb
  have z0 : w1.cell? ⟨w.heap.size + 1, 0, none⟩ = some (.int .i64 0) := by rw [hc _ _ (by simp)]; simp [go_sem]
  have z1 : w1.cell? ⟨w.heap.size + 1, 1, none⟩ = some (.int .u64 0) := by rw [hc _ _ (by simp)]; simp [go_sem]
  have f0 : w1.frozen? ⟨w.heap.size + 1, 0, none⟩ = false := by rw [hf _ _ (by simp)]; simp [go_sem]
  have f1 : w1.frozen? ⟨w.heap.size + 1, 1, none⟩ = false := by rw [hf _ _ (by simp)]; simp [go_sem]
  have BW := (((((Below.refl w.heap.size w).alloc (Nat.le_refl _) _).alloc (by simp) _).alloc (by simp <;> omega) _).drew).trans (hb.mono (by simp <;> omega))
  clear hc hf hb
  go_wp2
  refine bodyPost_ret (v := .tuple #[.agg #[.int .i64 0, .int .u64 0], .bool false]) (by simp [results, Try.results27, go_sem, *]) rfl ⟨rfl, ?_⟩
  exact (BW.setCell (by simp <;> omega) _).setCell (by simp <;> omega) _
end Go.Proofs.Ytjlndalcaepofaa
