/-
  The document's own text of digits.
-/
import Derived.Test.YtjkbmpcchlfglaaRefE
import Derived.Test.YtjkbmpcchlfglaaDec
namespace Go.Proofs.Ytjkbmpcchlfglaa
open Go.RowKit
set_option linter.unusedVariables false

theorem mix_unset (n i : Nat) (u v : Int) : (mix n (i + 1) u v).set i (.int .i64 (dg v i)) = mix n i u v := by
  refine List.ext_getElem? fun j => ?_
  rw [List.getElem?_set]
  by_cases e : i = j
  · subst e
    by_cases h : i < n
    · rw [if_pos rfl, if_pos (by rw [mix_length]; exact h), mix, fill_at _ _ _ _ _ h]; simp
    · rw [if_pos rfl, if_neg (by rw [mix_length]; exact h), List.getElem?_eq_none (by rw [mix_length]; omega)]
  · by_cases h : j < n
    · rw [if_neg e, mix, mix, fill_at _ _ _ _ _ h, fill_at _ _ _ _ _ h]
      have e' : decide (j < i + 1) = decide (j < i) := by rw [Bool.eq_iff_iff]; simp; omega
      rw [e']
    · rw [if_neg e, List.getElem?_eq_none (by rw [mix_length]; omega), List.getElem?_eq_none (by rw [mix_length]; omega)]
theorem mix_last (n k : Nat) (u v : Int) (h : k < n) : (mix n (k + 1) u v)[k]? = some (.int .i64 (dg u k)) := by rw [mix, fill_at _ _ _ _ _ h]; simp
/-- One step of the long division by ten. -/
theorem long_ten (q : Int) (k : Nat) : (q / 256 ^ (k + 1) % 10 * 256 + dg q k) / 10 = dg (q / 10) k ∧ (q / 256 ^ (k + 1) % 10 * 256 + dg q k) % 10 = q / 256 ^ k % 10 := by
  have h1 := div_step q k
  have h2 : q / 10 / 256 ^ k = q / 256 ^ k / 10 := by
    have hp := p256 k
    rw [Int.ediv_ediv, if_neg (by omega), Int.ediv_ediv, if_neg (by omega), Int.mul_comm 10]
  have hd := dg_range q k
  have e : dg (q / 10) k = q / 256 ^ k / 10 % 256 := by rw [← h2]; rfl
  rw [e, h1]
  generalize q / 256 ^ (k + 1) = A at *
  omega
theorem more_step (q : Int) (k : Nat) (h0 : 0 ≤ q) : (0 < q / 256 ^ k) ↔ (0 < q / 256 ^ (k + 1) ∨ 0 < dg q k) := by
  have h1 := div_step q k
  have hp := p256 (k + 1)
  have h2 : 0 ≤ q / 256 ^ (k + 1) := Int.ediv_nonneg h0 (Int.le_of_lt hp)
  have hd := dg_range q k
  omega
theorem copied (v : Int) (w : World) (t : TypeId) (zs : Array Value) : Row ((w.alloc (.cells #[] t)).alloc (.cells (#[.int .i64 (dg v 0), .int .i64 (dg v 1), .int .i64 (dg v 2), .int .i64 (dg v 3), .int .i64 (dg v 4), .int .i64 (dg v 5), .int .i64 (dg v 6), .int .i64 (dg v 7), .int .i64 (dg v 8), .int .i64 (dg v 9), .int .i64 (dg v 10), .int .i64 (dg v 11), .int .i64 (dg v 12), .int .i64 (dg v 13), .int .i64 (dg v 14), .int .i64 (dg v 15)] ++ zs) t)).drew (w.heap.size + 1) (dcells 16 v) := by
  intro j u hu
  have hs : w.heap.size + 1 = (w.alloc (.cells #[] t)).heap.size := by simp
  rw [World.cell?_drew, hs, World.cell?_alloc_new]
  refine ⟨?_, World.frozen?_alloc_new _ _ _ _⟩
  have hj : j < 16 := by
    have := (List.getElem?_eq_some_iff.1 hu).1
    simpa [dcells_length] using this
  rw [Array.getElem?_append_left (by simpa using hj)]
  have e : dcells 16 v = [.int .i64 (dg v 0), .int .i64 (dg v 1), .int .i64 (dg v 2), .int .i64 (dg v 3), .int .i64 (dg v 4), .int .i64 (dg v 5), .int .i64 (dg v 6), .int .i64 (dg v 7), .int .i64 (dg v 8), .int .i64 (dg v 9), .int .i64 (dg v 10), .int .i64 (dg v 11), .int .i64 (dg v 12), .int .i64 (dg v 13), .int .i64 (dg v 14), .int .i64 (dg v 15)] := by simp [dcells, List.range, List.range.loop]
  rw [e] at hu
  simpa using hu
/-- What holds at the head of each round of the outer loop. -/
def ShRel (w : World) (bl m : Nat) (s more : Value) (wr : World) : Prop := ∃ (t q : Nat) (mb : Bool), t ≤ 39 ∧ q = m / 10 ^ t ∧ s = .string (strOfNums (digs t m)) ∧ more = .bool mb ∧ (mb = true ↔ (t = 0 ∨ 0 < q)) ∧ Row wr bl (dcells 16 (q : Int)) ∧ Below w.heap.size w wr ∧ w.heap.size ≤ bl ∧ bl < wr.heap.size ∧ (t ≤ 1 ∨ 10 ^ (t - 1) ≤ m)
/-- .. and of the inner one. -/
def DivRel (w : World) (bl : Nat) (q : Int) (more rest i : Value) (wr : World) : Prop := ∃ (k : Nat) (r : Int) (mb : Bool), k ≤ 16 ∧ i = .int .i64 ((k : Int) - 1) ∧ r = q / 256 ^ k % 10 ∧ rest = .int .i64 r ∧ more = .bool mb ∧ (mb = true ↔ 0 < q / 10 / 256 ^ k) ∧ Row wr bl (mix 16 k q (q / 10)) ∧ Below w.heap.size w wr ∧ w.heap.size ≤ bl ∧ bl < wr.heap.size
theorem divRel_next (w wr : World) (bl k : Nat) (q : Int) (mb : Bool) (h0 : 0 ≤ q) (hk : k + 1 ≤ 16) (hm : mb = true ↔ 0 < q / 10 / 256 ^ (k + 1)) (hrow : Row wr bl (mix 16 (k + 1) q (q / 10))) (hb : Below w.heap.size w wr) (h1 : w.heap.size ≤ bl) (h2 : bl < wr.heap.size) (mb' : Bool) (hmb : mb' = (mb || decide (0 < dg (q / 10) k))) :
    DivRel w bl q (.bool mb') (.int .i64 ((q / 256 ^ (k + 1) % 10 * 256 + dg q k) % 10)) (.int .i64 ((k : Int) - 1)) (wr.setCell ⟨bl, k, none⟩ (.int .i64 ((q / 256 ^ (k + 1) % 10 * 256 + dg q k) / 10))) := by
  obtain ⟨e1, e2⟩ := long_ten q k
  refine ⟨k, _, mb', by omega, rfl, e2, rfl, rfl, ?_, ?_, hb.setCell h1 _, h1, by simpa using h2⟩
  · rw [hmb, more_step (q / 10) k (by omega), ← hm]; simp
  · rw [e1, ← mix_unset]
    exact hrow.set k _ (by rw [mix_length]; omega)
end Go.Proofs.Ytjkbmpcchlfglaa
