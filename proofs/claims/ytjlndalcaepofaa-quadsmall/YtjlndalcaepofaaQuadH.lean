/-
  What package quad's magnitude and division by sixteen answer.
-/
import Derived.Test.YtjlndalcaepofaaQuadF
import Derived.Test.YtjlndalcaepofaaHexA
import Derived.Test.YtjlndalcaepofaaHeld
namespace Go.Proofs.Ytjlndalcaepofaa
open Go.RowKit
set_option linter.unusedVariables false

theorem magnitude_any {a0 a1 a2 a3 : Int} (a : Int) (m : Nat) (hm : a.natAbs = m) (ha : Wd a a0 a1 a2 a3) (h0 : -57896044618658097711785492504343953926634992332820282019728792003956564819968 ≤ a) (h1 : a < 57896044618658097711785492504343953926634992332820282019728792003956564819968) (w : World) :
    Calls Try.prog 37 #[.agg #[.int .u64 a0, .int .u64 a1, .int .u64 a2, .int .u64 a3]] w fun e w' => e = .returned (.agg #[.int .u64 (q.dg ((m : Int)) 0), .int .u64 (q.dg ((m : Int)) 1), .int .u64 (q.dg ((m : Int)) 2), .int .u64 (q.dg ((m : Int)) 3)]) ∧ Below w.heap.size w w' := by
  obtain ⟨rfl, rfl, rfl, rfl⟩ := ha
  have HB : Hid _ := fun w => isBelow_any a (wd_self a) h0 h1 w
  by_cases h : a < 0
  · have e : (m : Int) = -a := by omega
    rw [e]
    have D : decide (a < 0) = true := by simpa using h
    clear h0 h1 h hm e
    go_enter Try.func37, Try.ntmps37
    go_wp2_with (first
      | (go_at_call 36; refine (HB.out _).mono ?_; rw [D]; rintro e w1 ⟨rfl, hb⟩; obtain ⟨hc, hf⟩ := bcell hb; have hs := hb.size; simp at hs; have k1 : w.heap.size + 1 < w1.heap.size := by omega)
      | (go_at_call 15; refine (qneg_any a (wd_self a) _).mono ?_; rintro e w2 ⟨rfl, hb2⟩; obtain ⟨hc2, hf2⟩ := bcell hb2))
    refine bodyPost_ret (v := .agg #[.int .u64 (q.dg (-a) 0), .int .u64 (q.dg (-a) 1), .int .u64 (q.dg (-a) 2), .int .u64 (q.dg (-a) 3)]) (by simp [results, Try.results37, go_sem, hc2, hc, k1]) rfl ⟨rfl, ?_⟩
    exact (((((((((Below.refl _ _).alloc (Nat.le_refl _) _).alloc (by simp) _).trans (hb.mono (by simp <;> omega))).trans (hb2.mono (by omega)))).setCell (by simp <;> omega) _).setCell (by simp <;> omega) _).setCell (by simp <;> omega) _).setCell (by simp <;> omega) _
  · have e : (m : Int) = a := by omega
    rw [e]
    have D : decide (a < 0) = false := by simpa using h
    clear h0 h1 h hm e
    go_enter Try.func37, Try.ntmps37
    go_wp2_with (first
      | (go_at_call 36; refine (HB.out _).mono ?_; rw [D]; rintro e w1 ⟨rfl, hb⟩; obtain ⟨hc, hf⟩ := bcell hb))
    refine bodyPost_ret (v := .agg #[.int .u64 (q.dg (a) 0), .int .u64 (q.dg (a) 1), .int .u64 (q.dg (a) 2), .int .u64 (q.dg (a) 3)]) (by simp [results, Try.results37, go_sem, hc]) rfl ⟨rfl, ?_⟩
    exact ((((((((Below.refl _ _).alloc (Nat.le_refl _) _).alloc (by simp) _).trans (hb.mono (by simp <;> omega)))).setCell (by simp <;> omega) _).setCell (by simp <;> omega) _).setCell (by simp <;> omega) _).setCell (by simp <;> omega) _

/-- A word's upper 60 bits, and the next one's lowest four over them. -/
theorem or_word (x y : Int) (x0 : 0 ≤ x) (x1 : x < 18446744073709551616) (y0 : 0 ≤ y) (y1 : y < 18446744073709551616) : bits .or .u64 (x / 16) (IntKind.u64.wrap (y * 1152921504606846976)) = x / 16 + y % 16 * 1152921504606846976 := by
  obtain ⟨x, rfl⟩ := Int.eq_ofNat_of_zero_le x0
  obtain ⟨y, rfl⟩ := Int.eq_ofNat_of_zero_le y0
  have e1 : (x : Int) / 16 = ((x / 16 : Nat) : Int) := by omega
  have e2 : IntKind.u64.wrap ((y : Int) * 1152921504606846976) = ((2 ^ 60 * (y % 16) : Nat) : Int) := by rw [IntKind.wrap_u64]; omega
  rw [e1, e2, bits_or_u64_nat _ _ (by omega) (by omega), Nat.or_comm, ← Nat.two_pow_add_eq_or_of_lt (by omega)]
  omega
theorem drop_word (m : Int) (j : Nat) : q.dg m j / 16 + q.dg m (j + 1) % 16 * 1152921504606846976 = q.dg (m / 16) j := by
  unfold q.dg
  have hp := q.p256 j
  have e1 : m / 18446744073709551616 ^ (j + 1) = m / 18446744073709551616 ^ j / 18446744073709551616 := by rw [Int.pow_succ, Int.ediv_ediv, if_neg (by omega)]; omega
  have e2 : m / 16 / 18446744073709551616 ^ j = m / 18446744073709551616 ^ j / 16 := by
    have a := Int.ediv_ediv (x := m) (y := 16) (z := 18446744073709551616 ^ j)
    have b := Int.ediv_ediv (x := m) (y := 18446744073709551616 ^ j) (z := 16)
    rw [if_neg (by omega)] at a b
    rw [Int.mul_comm] at a
    simp at a b
    omega
  rw [e1, e2]
  omega
theorem drop_last (m : Int) (h0 : 0 ≤ m) (h1 : m < 115792089237316195423570985008687907853269984665640564039457584007913129639936) : q.dg m 3 / 16 = q.dg (m / 16) 3 := by
  rw [qdg3, qdg3]; omega
theorem drop_cells (m : Int) : q.mix 4 3 (m / 16) m = [.int .u64 (q.dg (m / 16) 0), .int .u64 (q.dg (m / 16) 1), .int .u64 (q.dg (m / 16) 2), .int .u64 (q.dg m 3)] := by simp [q.mix, q.fill, List.range, List.range.loop]

structure DropRel (w : World) (m : Int) (k : Nat) (wr : World) : Prop where
  ra : Row wr w.heap.size (q.mix 4 k (m / 16) m)
  rz : Row wr (w.heap.size + 1) (q.dcells 4 0)
  bel : Below w.heap.size w wr
  size : w.heap.size + 1 < wr.heap.size
theorem dropRel_start (w : World) (m : Int) (t : TypeId) : DropRel w m 0 ((w.alloc (.cells #[.int .u64 (q.dg m 0), .int .u64 (q.dg m 1), .int .u64 (q.dg m 2), .int .u64 (q.dg m 3)] t)).alloc (.cells #[.int .u64 0, .int .u64 0, .int .u64 0, .int .u64 0] t)) := by
  have h0 := (Row.new w [.int .u64 (q.dg m 0), .int .u64 (q.dg m 1), .int .u64 (q.dg m 2), .int .u64 (q.dg m 3)] t).alloc (.cells #[.int .u64 0, .int .u64 0, .int .u64 0, .int .u64 0] t) (by simp)
  have h1 := Row.new (w.alloc (.cells #[.int .u64 (q.dg m 0), .int .u64 (q.dg m 1), .int .u64 (q.dg m 2), .int .u64 (q.dg m 3)] t)) [.int .u64 0, .int .u64 0, .int .u64 0, .int .u64 0] t
  rw [World.size_alloc] at h1
  exact ⟨h0.cells (by rw [q.mix_zero, qcells]), h1.cells qcells_0.symm, ((Below.refl _ _).alloc (Nat.le_refl _) _).alloc (by simp) _, by simp⟩
theorem dropRel_next {w wr : World} {m d : Int} {k : Nat} (h : DropRel w m k wr) (hk : k < 4) (e : d = q.dg (m / 16) k) : DropRel w m (k + 1) (wr.setCell ⟨w.heap.size, k, none⟩ (.int .u64 d)) := by
  subst e
  exact ⟨(h.ra.set k _ (by rw [q.mix_length]; exact hk)).cells (q.mix_set _ _ _ _), h.rz.other _ (by omega), h.bel.setCell (Nat.le_refl _) _, by simpa using h.size⟩
theorem DropRel.drewN {w wr : World} {m : Int} {k : Nat} (h : DropRel w m k wr) (n : Nat) : DropRel w m k (wr.drewN n) := ⟨h.ra.drewN n, h.rz.drewN n, below_drewN h.bel n, h.size⟩

set_option maxHeartbeats 1000000 in
theorem dropDigit_any (m : Int) (h0 : 0 ≤ m) (h1 : m < 115792089237316195423570985008687907853269984665640564039457584007913129639936) (w : World) :
    Calls Try.prog 38 #[.agg #[.int .u64 (q.dg (m) 0), .int .u64 (q.dg (m) 1), .int .u64 (q.dg (m) 2), .int .u64 (q.dg (m) 3)]] w fun e w' => e = .returned (.agg #[.int .u64 (q.dg (m / 16) 0), .int .u64 (q.dg (m / 16) 1), .int .u64 (q.dg (m / 16) 2), .int .u64 (q.dg (m / 16) 3)]) ∧ Below w.heap.size w w' := by
  have L : Hid _ := drop_last m h0 h1
  clear h0 h1
  go_enter Try.func38, Try.ntmps38
  go_wp2
  go_loopw [4] (fun i wr => ∃ k : Nat, k ≤ 3 ∧ i = .int .i64 (k : Int) ∧ DropRel w m k wr) (fun i _ => 3 - (intOf i).toNat)
  case atStart => exact ⟨0, by omega, rfl, dropRel_start w m _⟩
  case round =>
    obtain ⟨k, hk, rfl, hr⟩ := hrel
    by_cases hlt : k < 3
    · have c1 : wr.cell? ⟨w.heap.size, k, none⟩ = some (.int .u64 (q.dg m k)) := hr.ra.cell k _ (q.mix_at _ _ _ _ _ (by omega) (Nat.le_refl _))
      have c2 : wr.cell? ⟨w.heap.size, k + 1, none⟩ = some (.int .u64 (q.dg m (k + 1))) := hr.ra.cell (k + 1) _ (q.mix_at _ _ _ _ _ (by omega) (by omega))
      have c4 : wr.frozen? ⟨w.heap.size, k, none⟩ = false := hr.ra.free k (by rw [q.mix_length]; omega)
      obtain ⟨d0, d1⟩ := q.dg_range m k
      obtain ⟨e0, e1⟩ := q.dg_range m (k + 1)
      have E : Hid _ := (or_word _ _ d0 d1 e0 e1).trans (drop_word m k)
      have HN : Hid _ := fun d e => dropRel_next (d := d) hr (by omega) e
      have hl : (k : Int) < 3 := by omega
      clear hr
      go_wp2
      go_region
      go_wp2
      go_roundw
      case rel => exact ⟨k + 1, by omega, by simp, (HN.out _ E.out).drewN 1⟩
      case measure => simp [intOf]; omega
    · obtain rfl : k = 3 := by omega
      obtain ⟨ra, rz, bel, size⟩ := hr
      have ra := ra.cells (drop_cells m)
      have rz := rz.cells qcells_0
      obtain ⟨c0, c1, c2, c3, f0, f1, f2, f3⟩ := row4 ra
      obtain ⟨z0, z1, z2, z3, y0, y1, y2, y3⟩ := row4 rz
      have e3 := L.out
      clear ra rz
      go_wp2
      refine bodyPost_ret (v := .agg #[.int .u64 (q.dg (m / 16) 0), .int .u64 (q.dg (m / 16) 1), .int .u64 (q.dg (m / 16) 2), .int .u64 (q.dg (m / 16) 3)]) (by simp [results, Try.results38, go_sem, *]) rfl ⟨rfl, ?_⟩
      exact ((((bel.setCell (Nat.le_refl _) _).setCell (by show _ ≤ w.heap.size + 1; omega) _).setCell (by show _ ≤ w.heap.size + 1; omega) _).setCell (by show _ ≤ w.heap.size + 1; omega) _).setCell (by show _ ≤ w.heap.size + 1; omega) _
end Go.Proofs.Ytjlndalcaepofaa
