/-
  A number's four words out of its 32 digits.
-/
import Derived.Test.YtjlndalcaepofaaRef2A
namespace Go.Proofs.Ytjlndalcaepofaa
open Go.RowKit
set_option linter.unusedVariables false

/-- Four words, each as far as the digits from place k on make it. -/
def qpart (k : Nat) (v : Int) : List Value := (List.range 4).map fun j => .int .u64 (q.dg v j / 256 ^ (k - 8 * j))
theorem qpart_at (k : Nat) (v : Int) (j : Nat) (h : j < 4) : (qpart k v)[j]? = some (.int .u64 (q.dg v j / 256 ^ (k - 8 * j))) := by simp [qpart, h]
theorem qpart_length (k : Nat) (v : Int) : (qpart k v).length = 4 := by simp [qpart]
theorem pow_ge (u : Int) (t : Nat) (h0 : 0 ≤ u) (h1 : u < 18446744073709551616) (ht : 8 ≤ t) : u / 256 ^ t = 0 := by
  obtain ⟨d, rfl⟩ : ∃ d, t = 8 + d := ⟨t - 8, by omega⟩
  refine Int.ediv_eq_zero_of_lt h0 ?_
  have hd := p256 d
  have e : (256 : Int) ^ 8 = 18446744073709551616 := by decide
  rw [Int.pow_add, e]
  have := Int.mul_le_mul_of_nonneg_left (show (1 : Int) ≤ 256 ^ d by omega) (show (0 : Int) ≤ 18446744073709551616 by decide)
  omega
theorem qpart_start (v : Int) : qpart 32 v = q.dcells 4 0 := by
  unfold qpart q.dcells
  refine List.map_congr_left fun j hj => ?_
  have : j < 4 := by simpa using hj
  obtain ⟨a, b⟩ := q.dg_range v j
  rw [pow_ge _ _ a b (by omega), qdg_0]
theorem qpart_end (v : Int) : qpart 0 v = q.dcells 4 v := by
  unfold qpart q.dcells
  refine List.map_congr_left fun j hj => ?_
  simp
theorem qpart_set (k : Nat) (v : Int) (hk : k < 32) : (qpart (k + 1) v).set (k / 8) (.int .u64 (q.dg v (k / 8) / 256 ^ (k % 8))) = qpart k v := by
  refine List.ext_getElem? fun j => ?_
  rw [List.getElem?_set]
  by_cases e : k / 8 = j
  · subst e
    rw [if_pos rfl, if_pos (by rw [qpart_length]; omega), qpart_at _ _ _ (by omega), show k - 8 * (k / 8) = k % 8 by omega]
  · rw [if_neg e]
    by_cases h : j < 4
    · rw [qpart_at _ _ _ h, qpart_at _ _ _ h]
      obtain ⟨a, b⟩ := q.dg_range v j
      rcases Nat.lt_or_ge j (k / 8) with l | l
      · rw [pow_ge _ _ a b (by omega), pow_ge _ _ a b (by omega)]
      · rw [show k + 1 - 8 * j = 0 by omega, show k - 8 * j = 0 by omega]
    · rw [List.getElem?_eq_none (by rw [qpart_length]; omega), List.getElem?_eq_none (by rw [qpart_length]; omega)]
theorem word_step (u : Int) (t : Nat) (h0 : 0 ≤ u) : u / 256 ^ (t + 1) * 256 + u / 256 ^ t % 256 = u / 256 ^ t ∧ 0 ≤ u / 256 ^ (t + 1) ∧ u / 256 ^ t ≤ u := by
  have e : u / 256 ^ (t + 1) = u / 256 ^ t / 256 := by
    have hp := p256 t
    rw [Int.pow_succ, Int.ediv_ediv, if_neg (by omega)]; omega
  have := div_le u t h0
  rw [e]; omega

structure QQRel (w : World) (v : Int) (k : Nat) (wr : World) : Prop where
  rz : Row wr w.heap.size (q.dcells 4 0)
  ro : Row wr (w.heap.size + 1) (qpart k v)
  bel : Below w.heap.size w wr
  size : w.heap.size + 1 < wr.heap.size
theorem qqRel_start (w : World) (v : Int) (t : TypeId) : QQRel w v 32 ((w.alloc (.cells #[.int .u64 0, .int .u64 0, .int .u64 0, .int .u64 0] t)).alloc (.cells #[.int .u64 0, .int .u64 0, .int .u64 0, .int .u64 0] t)) := by
  have h0 := (Row.new w [.int .u64 0, .int .u64 0, .int .u64 0, .int .u64 0] t).alloc (.cells #[.int .u64 0, .int .u64 0, .int .u64 0, .int .u64 0] t) (by simp)
  have h1 := Row.new (w.alloc (.cells #[.int .u64 0, .int .u64 0, .int .u64 0, .int .u64 0] t)) [.int .u64 0, .int .u64 0, .int .u64 0, .int .u64 0] t
  rw [World.size_alloc] at h1
  exact ⟨h0.cells qcells_0.symm, h1.cells (by rw [qpart_start, qcells_0]), ((Below.refl _ _).alloc (Nat.le_refl _) _).alloc (by simp) _, by simp⟩
theorem qqRel_next {w wr : World} {v d : Int} {k : Nat} (h : QQRel w v (k + 1) wr) (hk : k < 32) (e : d = q.dg v (k / 8) / 256 ^ (k % 8)) : QQRel w v k ((wr.setCell ⟨w.heap.size + 1, k / 8, none⟩ (.int .u64 d)).drew) := by
  subst e
  exact ⟨(h.rz.other _ (by omega)).drew, ((h.ro.set (k / 8) _ (by rw [qpart_length]; omega)).cells (qpart_set _ _ hk)).drew, (h.bel.setCell (by show _ ≤ w.heap.size + 1; omega) _).drew, by simpa using h.size⟩

set_option maxHeartbeats 1000000 in
theorem rquad_any (v : Int) (b : Nat) {cap : Nat} (w : World) (r : Row w b (dcells 32 v)) (hb : b < w.heap.size) :
    Calls Try.prog 11 #[.slice (some ⟨b, 0, none⟩) 32 cap] w fun e w' => e = .returned (.agg #[.int .u64 (q.dg (v) 0), .int .u64 (q.dg (v) 1), .int .u64 (q.dg (v) 2), .int .u64 (q.dg (v) 3)]) ∧ Below w.heap.size w w' := by
  go_enter Try.func11, Try.ntmps11
  go_wp2
  go_loopw [4] (fun i wr => ∃ k : Nat, k ≤ 32 ∧ i = .int .i64 ((k : Int) - 1) ∧ QQRel w v k wr) (fun i _ => (intOf i + 1).toNat)
  case atStart => exact ⟨32, by omega, rfl, qqRel_start w v 24⟩
  case round =>
    obtain ⟨k, hk, rfl, hr⟩ := hrel
    rcases k with _ | k
    · obtain ⟨rz, ro, bel, size⟩ := hr
      obtain ⟨c0, c1, c2, c3, _, _, _, _⟩ := row4 (ro.cells ((qpart_end v).trans (qcells v)))
      obtain ⟨z0, z1, z2, z3, y0, y1, y2, y3⟩ := row4 (rz.cells qcells_0)
      clear rz ro
      go_wp2
      refine bodyPost_ret (v := .agg #[.int .u64 (q.dg (v) 0), .int .u64 (q.dg (v) 1), .int .u64 (q.dg (v) 2), .int .u64 (q.dg (v) 3)]) (by simp [results, Try.results11, go_sem, *]) rfl ⟨rfl, ?_⟩
      exact (((bel.setCell (Nat.le_refl _) _).setCell (Nat.le_refl _) _).setCell (Nat.le_refl _) _).setCell (Nat.le_refl _) _
    · have hi' : (((k + 1 : Nat) : Int) - 1) = (k : Int) := by omega
      rw [hi']
      clear hi'
      have c1 : wr.cell? ⟨b, k, none⟩ = some (.int .i64 (dg v k)) := (hr.bel.cell (p := ⟨b, k, none⟩) hb).trans (r.cell k _ (dcells_at _ _ _ (by omega)))
      have c2 := hr.ro.cell (k / 8) _ (qpart_at (k + 1) v (k / 8) (by omega))
      have c3 : wr.frozen? ⟨w.heap.size + 1, k / 8, none⟩ = false := hr.ro.free (k / 8) (by rw [qpart_length]; omega)
      rw [show k + 1 - 8 * (k / 8) = k % 8 + 1 by omega] at c2
      obtain ⟨u0, u1⟩ := q.dg_range v (k / 8)
      obtain ⟨s0, s1, s2⟩ := word_step (q.dg v (k / 8)) (k % 8) u0
      rw [word_dg] at s0
      have HN : Hid _ := fun d e => qqRel_next (d := d) hr (by omega) e
      generalize hX : q.dg v (k / 8) / 256 ^ (k % 8 + 1) = X at *
      have s3 : X * 256 + dg v k ≤ 18446744073709551615 := by omega
      have HE : Hid _ := s0
      obtain ⟨d0, d1⟩ := dg_range v k
      have hl : (k : Int) < 32 := by omega
      have hl8 : (k : Int) / 8 < 4 := by omega
      have hl0 : 0 ≤ (k : Int) / 8 := by omega
      have ht : ((k : Int) / 8).toNat = k / 8 := by omega
      clear hr s0 s2 hX u0 u1
      go_wp2
      go_region
      go_wp2
      go_roundw
      case rel => exact ⟨k, by omega, by simp, HN.out _ HE.out⟩
      case measure => simp [intOf]
end Go.Proofs.Ytjlndalcaepofaa
