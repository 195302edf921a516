/-
  zelligeref01.Parse answers whether a text is a number's, and which one's.
-/
import Derived.Test.YtjkbmpcchlfglaaRefC
import Derived.Test.YtjkbmpcchlfglaaRefD
import Derived.Test.YtjkbmpcchlfglaaRefG
import Derived.Test.YtjkbmpcchlfglaaBack
namespace Go.Proofs.Ytjkbmpcchlfglaa
open Go.RowKit
set_option linter.unusedVariables false

theorem dcells_canon (z : Int) : dcells 16 (canon z) = dcells 16 z := by
  have e : (256 : Int) ^ 16 = 340282366920938463463374607431768211456 := by decide
  refine dcells_congr (-((z + 170141183460469231731687303715884105728) / 340282366920938463463374607431768211456)) ?_
  rw [e]; unfold canon; omega
theorem dg_small0 (D : Int) (h0 : 0 ≤ D) (h1 : D < 256) (j : Nat) (hj : 1 ≤ j) : dg D j = 0 := by
  obtain ⟨j, rfl⟩ : ∃ j', j = j' + 1 := ⟨j - 1, by omega⟩
  unfold dg
  have hp := p256 j
  have : D / 256 ^ (j + 1) = 0 := Int.ediv_eq_zero_of_lt h0 (by rw [Int.pow_succ]; omega)
  rw [this]; rfl
theorem small16 (D : Int) (h0 : 0 ≤ D) (h1 : D < 256) : dcells 16 D = [.int .i64 D, .int .i64 0, .int .i64 0, .int .i64 0, .int .i64 0, .int .i64 0, .int .i64 0, .int .i64 0, .int .i64 0, .int .i64 0, .int .i64 0, .int .i64 0, .int .i64 0, .int .i64 0, .int .i64 0, .int .i64 0] := by
  have e0 : dg D 0 = D := by unfold dg; simp; omega
  have e := dg_small0 D h0 h1
  simp [dcells, List.range, List.range.loop, e0, e]
theorem ten16 : (dcells 16 0).set 0 (.int .i64 10) = dcells 16 10 := by rw [zero16, small16 10 (by decide) (by decide)]; rfl
/-- Where the digits of a text begin. -/
def fromOf (s : ByteArray) : Nat := if (nums s).head? = some 45 then 1 else 0
theorem readI_from (s : ByteArray) : readI s = if (nums s).head? = some 45 then -(rd ((nums s).drop (fromOf s)) 0) else rd ((nums s).drop (fromOf s)) 0 := by
  unfold readI fromOf
  split
  · rw [List.drop_one]
  · rfl
theorem nums_at (s : ByteArray) (k : Nat) (h : k < s.size) : (nums s)[k]? = some ((s[k]).toNat : Int) := by
  unfold nums
  have hk : k < s.data.toList.length := h
  rw [List.getElem?_map, List.getElem?_eq_getElem hk]
  rfl
theorem not_show (s : ByteArray) (z : Int) (i : Nat) (hi : i < s.size) (hf : fromOf s ≤ i) (hn : (s[i].toNat : Int) < 48 ∨ 57 < (s[i].toNat : Int)) : showS z ≠ s := by
  intro e
  have en : nums s = showI z := by rw [← e]; exact nums_show z
  have ha := nums_at s i hi
  rw [en] at ha
  have hfz : z < 0 → fromOf s = 1 := fun h => by
    unfold fromOf; rw [en]; unfold showI; rw [if_pos h]; simp
  have hmem : ((s[i].toNat : Nat) : Int) ∈ digs (ndig z.natAbs) z.natAbs := by
    unfold showI at ha
    by_cases h : z < 0
    · rw [if_pos h] at ha
      have h1 := hfz h
      obtain ⟨j, rfl⟩ : ∃ j, i = j + 1 := ⟨i - 1, by omega⟩
      rw [List.cons_append, List.getElem?_cons_succ, List.nil_append] at ha
      exact List.mem_of_getElem? ha
    · rw [if_neg h, List.nil_append] at ha
      exact List.mem_of_getElem? ha
  have := digs_bytes _ _ _ hmem
  omega
theorem take_next (s : ByteArray) (f k : Nat) (h : f + k < s.size) : ((nums s).drop f).take (k + 1) = ((nums s).drop f).take k ++ [(s[f + k].toNat : Int)] := by
  have hl : k < ((nums s).drop f).length := by rw [List.length_drop, nums_length]; omega
  rw [List.take_succ_eq_append_getElem hl]
  congr 2
  rw [List.getElem_drop]
  have h2 := nums_at s (f + k) h
  have h3 : f + k < (nums s).length := by rw [nums_length]; exact h
  rw [List.getElem?_eq_getElem h3] at h2
  exact Option.some.inj h2
/-- What holds at the head of each round of Parse's loop. -/
def ParRel (w : World) (s : ByteArray) (f bt : Nat) (l i : Value) (wr : World) : Prop := ∃ (j bl : Nat) (v : Int), f ≤ j ∧ j ≤ s.size ∧ i = .int .i64 (j : Int) ∧ l = .slice (some ⟨bl, 0, none⟩) 16 16 ∧ v = rd (((nums s).drop f).take (j - f)) 0 ∧ Row wr bl (dcells 16 v) ∧ Row wr bt (dcells 16 10) ∧ Below w.heap.size w wr ∧ bl < wr.heap.size ∧ bt < wr.heap.size
theorem parRel_next (w wr w1 w2 : World) (s : ByteArray) (f bt j b1 b2 : Nat) (v : Int) (o : Obj) (hf : f ≤ j) (hk : j < s.size) (hv : v = rd (((nums s).drop f).take (j - f)) 0) (hd : 48 ≤ (s[j].toNat : Int)) (hd' : (s[j].toNat : Int) ≤ 57) (hten : Row wr bt (dcells 16 10)) (hb : Below w.heap.size w wr) (ht : bt < wr.heap.size)
    (m1 : Made (wr.alloc o) w1 b1 (v * 10)) (m2 : Made w1 w2 b2 (v * 10 + ((s[j].toNat : Int) - 48))) : ParRel w s f bt (.slice (some ⟨b2, 0, none⟩) 16 16) (.int .i64 ((j : Int) + 1)) w2 := by
  have hb1 : Below w.heap.size w (wr.alloc o) := hb.alloc hb.size o
  have hs1 : (wr.alloc o).heap.size = wr.heap.size + 1 := by simp
  have hB1 : Below w.heap.size w w1 := hb1.trans (m1.below.mono hb1.size)
  have ht1 : bt < (wr.alloc o).heap.size := by omega
  have s1 := m1.below.size
  have s2 := m2.below.size
  obtain ⟨k, rfl⟩ : ∃ k, j = f + k := ⟨j - f, by omega⟩
  have ek : f + k - f = k := by omega
  rw [ek] at hv
  refine ⟨f + k + 1, b2, _, by omega, by omega, by simp, rfl, ?_, m2.row, (((hten.alloc o ht).below m1.below ht1).below m2.below (by omega)), hB1.trans (m2.below.mono hB1.size), m2.size, by omega⟩
  have ek2 : f + k + 1 - f = k + 1 := by omega
  rw [ek2, take_next s f k hk, rd_append, ← hv]
  omega
end Go.Proofs.Ytjkbmpcchlfglaa
