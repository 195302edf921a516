/-
  Joined texts, part 3:
  Decimal digits of numbers of any length, and bytes of texts as numbers. It imports nothing of the program.
  Numbers as digits to the base 1000000000: which digits a sum, a difference, a product has. It imports nothing of the program.
  How many digits a number needs, to the base 1000000000, and its digits without noughts at the end. It imports nothing of the program.
  What nat's piecesOf answers.
  strings.TrimLeft at the cutset "0".
  What nat's Show answers.
  What nat answers, with letters for the lengths: the contracts of the other texts, said once more for those who call nat.
  Slices apart from a block, so that what is stored there leaves them as they are; and what nat answers, apart from all that was there before.
  Whole numbers in memory; what package whole's signed and plus answer.
  What package whole's Add, Sub, Neg, Norm and Mul answer.
  What package whole's Of, Sign and Show answer.
  What package whole's Floor answers.
  Points over a torus: which can be, where they lie, in which order. It imports nothing of the program.
  Areas, squares of distances, the circle's determinant: how great they are, what becomes of them when points are put for one another or moved. It imports nothing of the program.
  Which of two triangles is taken, where four points lie on a circle: the order of points, what does away with what, and that it is an order among the points to the left of an edge. It imports nothing of the program.
-/
import Derived.Test.YtnemailhijkemaaP2
import Derived.WalkKit
import Derived.Laws.BytesArg
import Derived.Test.YtnemailhijkemaaP1
import Derived.Deep.AppendLies
import Derived.Lib.IndexBytes
import Derived.Deep.RegionHeld3
namespace Go.Proofs.Ytnemailhijkemaa

/-- A text's bytes, as numbers. -/
def nums (s : ByteArray) : List Int := s.data.toList.map fun b => (b.toNat : Int)
theorem nums_length (s : ByteArray) : (nums s).length = s.size := by unfold nums; rw [List.length_map]; rfl
theorem nums_range (s : ByteArray) : ∀ c ∈ nums s, 0 ≤ c ∧ c < 256 := by
  intro c hc
  unfold nums at hc
  rw [List.mem_map] at hc
  obtain ⟨b, _, rfl⟩ := hc
  have := b.toNat_lt
  omega
theorem nums_at (s : ByteArray) (k : Nat) (h : k < s.size) : (nums s)[k]? = some ((s[k]).toNat : Int) := by
  have hk : k < s.data.toList.length := by simpa using h
  unfold nums
  rw [List.getElem?_map, List.getElem?_eq_getElem hk]
  rfl
theorem nums_take (s : ByteArray) (k : Nat) (h : k < s.size) : (nums s).take (k + 1) = (nums s).take k ++ [((s[k]).toNat : Int)] := by
  rw [List.take_add_one, nums_at s k h]; rfl
theorem nums_drop (s : ByteArray) (k : Nat) (h : k < s.size) : (nums s).drop k = ((s[k]).toNat : Int) :: (nums s).drop (k + 1) := by
  have hk : k < (nums s).length := by rw [nums_length]; exact h
  rw [List.drop_eq_getElem_cons hk]
  congr 1
  have := nums_at s k h
  rw [List.getElem?_eq_getElem hk] at this
  simpa using this
theorem nums_tail (s : ByteArray) : nums (s.extract 1 s.size) = (nums s).drop 1 := by
  unfold nums
  rw [← List.map_drop]
  congr 1
  simp [ByteArray.data_extract]
  rw [List.take_of_length_le (by simp)]
theorem nums_cons (s : ByteArray) (h0 : 0 < s.size) : nums s = (s[0].toNat : Int) :: nums (s.extract 1 s.size) := by
  have := nums_drop s 0 h0
  rw [List.drop_zero] at this
  rw [nums_tail]
  exact this
theorem str_nums (s : ByteArray) : strOfNums (nums s) = s := by
  unfold nums strOfNums
  apply ByteArray.ext
  simp only [List.map_map]
  have : (fun b : UInt8 => UInt8.ofNat ((b.toNat : Int)).toNat) = id := by funext b; simp
  show (List.map ((fun n => UInt8.ofNat n.toNat) ∘ fun b => (b.toNat : Int)) s.data.toList).toArray = s.data
  rw [show ((fun n : Int => UInt8.ofNat n.toNat) ∘ fun b : UInt8 => (b.toNat : Int)) = id from this]
  simp
theorem nums_str (l : List Int) (h : ∀ c ∈ l, 0 ≤ c ∧ c < 256) : nums (strOfNums l) = l := by
  unfold nums strOfNums
  simp only [List.map_map]
  conv => rhs; rw [← List.map_id l]
  refine List.map_congr_left fun c hc => ?_
  obtain ⟨a, b⟩ := h c hc
  simp only [Function.comp_apply, id]
  rw [UInt8.toNat_ofNat']
  omega
theorem strOfNums_append (a b : List Int) : strOfNums a ++ strOfNums b = strOfNums (a ++ b) := by
  apply ByteArray.ext
  rw [ByteArray.data_append]
  simp [strOfNums]

/-- The last k decimal digits of m, as bytes, the highest first. -/
def digs : Nat → Nat → List Int
  | 0, _ => []
  | k + 1, m => (48 + (m / 10 ^ k % 10 : Nat) : Int) :: digs k m
theorem digs_length (k m : Nat) : (digs k m).length = k := by induction k with | zero => rfl | succ k ih => simp [digs, ih]
theorem digs_snoc (k m : Nat) : digs (k + 1) m = digs k (m / 10) ++ [(48 + (m % 10 : Nat) : Int)] := by
  induction k with
  | zero => simp [digs]
  | succ k ih => rw [digs, ih, digs, List.cons_append, Nat.div_div_eq_div_mul, Nat.pow_succ, Nat.mul_comm 10]
theorem digs_bytes (k m : Nat) : ∀ c ∈ digs k m, 48 ≤ c ∧ c ≤ 57 := by
  induction k with
  | zero => intro c hc; simp [digs] at hc
  | succ k ih =>
    intro c hc
    rw [digs, List.mem_cons] at hc
    rcases hc with rfl | hc
    · have := Nat.mod_lt (m / 10 ^ k) (show 0 < 10 by decide); omega
    · exact ih c hc
/-- m has k digits: nought has one. -/
def IsDec (m k : Nat) : Prop := 1 ≤ k ∧ m < 10 ^ k ∧ (k = 1 ∨ 10 ^ (k - 1) ≤ m)
theorem isDec_one {m k k' : Nat} (h : IsDec m k) (h' : IsDec m k') : k = k' := by
  obtain ⟨a, b, c⟩ := h
  obtain ⟨a', b', c'⟩ := h'
  rcases Nat.lt_trichotomy k k' with e | e | e
  · rcases c' with c' | c'
    · omega
    · have := Nat.pow_le_pow_right (n := 10) (by decide) (show k ≤ k' - 1 by omega)
      omega
  · exact e
  · rcases c with c | c
    · omega
    · have := Nat.pow_le_pow_right (n := 10) (by decide) (show k' ≤ k - 1 by omega)
      omega
def dlenF : Nat → Nat → Nat
  | 0, _ => 1
  | f + 1, m => if m < 10 then 1 else dlenF f (m / 10) + 1
/-- How many decimal digits m has. -/
def dlen (m : Nat) : Nat := dlenF m m
theorem isDec_dlenF : ∀ f m : Nat, m < 10 ^ (f + 1) → IsDec m (dlenF f m)
  | 0, m, h => ⟨Nat.le_refl _, h, Or.inl rfl⟩
  | f + 1, m, h => by
    unfold dlenF
    by_cases hm : m < 10
    · rw [if_pos hm]; exact ⟨Nat.le_refl _, hm, Or.inl rfl⟩
    · rw [if_neg hm]
      obtain ⟨a, b, c⟩ := isDec_dlenF f (m / 10) (by rw [Nat.pow_succ] at h; omega)
      refine ⟨by omega, ?_, Or.inr ?_⟩
      · rw [Nat.pow_succ]; omega
      · rcases c with c | c
        · rw [c]; simp; omega
        · have e : dlenF f (m / 10) + 1 - 1 = dlenF f (m / 10) - 1 + 1 := by omega
          rw [e, Nat.pow_succ]; omega
theorem isDec_dlen (m : Nat) : IsDec m (dlen m) := isDec_dlenF m m (Nat.lt_of_lt_of_le (Nat.lt_pow_self (by decide)) (Nat.pow_le_pow_right (by decide) (by omega)))
theorem dlen_eq {m k : Nat} (h : IsDec m k) : dlen m = k := isDec_one (isDec_dlen m) h
/-- The text of a number. -/
def decS (m : Nat) : ByteArray := strOfNums (digs (dlen m) m)
theorem decS_nums (m : Nat) : nums (decS m) = digs (dlen m) m := nums_str _ fun c hc => by have := digs_bytes _ _ c hc; omega
theorem decS_size (m : Nat) : (decS m).size = dlen m := by rw [← nums_length, decS_nums, digs_length]
/-- Noughts ahead are dropped. -/
theorem digs_zero (k m : Nat) (h : m < 10 ^ k) : digs (k + 1) m = 48 :: digs k m := by
  rw [digs, Nat.div_eq_of_lt h]; rfl
theorem digs_drop : ∀ (j k m : Nat), 0 < m → IsDec m k → (digs (k + j) m).dropWhile (· == 48) = digs k m
  | 0, k, m, hm, h => by
    rw [Nat.add_zero]
    obtain ⟨h1, h2, h3⟩ := h
    rcases k with _ | k
    · omega
    · rw [digs]
      have hl : 10 ^ k ≤ m := by
        rcases h3 with h3 | h3
        · have : k = 0 := by omega
          subst this; simp; omega
        · simpa using h3
      have h4 : 1 ≤ m / 10 ^ k := (Nat.one_le_div_iff (Nat.pow_pos (by decide))).2 hl
      have h5 : m / 10 ^ k < 10 := by rw [Nat.pow_succ] at h2; exact Nat.div_lt_of_lt_mul h2
      have h6 : ((48 + ((m / 10 ^ k % 10 : Nat) : Int)) == 48) = false := by
        rw [Nat.mod_eq_of_lt h5]
        generalize m / 10 ^ k = c at h4
        rw [beq_eq_false_iff_ne]
        omega
      rw [List.dropWhile_cons, h6]; simp
  | j + 1, k, m, hm, h => by
    have h2 := h.2.1
    have : m < 10 ^ (k + j) := Nat.lt_of_lt_of_le h2 (Nat.pow_le_pow_right (by decide) (by omega))
    rw [show k + (j + 1) = (k + j) + 1 by omega, digs_zero _ _ this, List.dropWhile_cons]
    simp only [beq_self_eq_true, if_true]
    exact digs_drop j k m hm h
end Go.Proofs.Ytnemailhijkemaa

namespace Go.Proofs.Ytnemailhijkemaa.pc
open Go.RowKit

/-- Digit i of v, to the base 1000000000 (of a number below nought: of v modulo as many digits as you like). -/
def dg (v : Int) (i : Nat) : Int := v / 1000000000 ^ i % 1000000000
theorem dg_range (v : Int) (i : Nat) : 0 ≤ dg v i ∧ dg v i < 1000000000 := by unfold dg; omega
theorem p256 (i : Nat) : (0 : Int) < 1000000000 ^ i := Int.pow_pos (by decide)
/-- n digits: at the places that p names those of u, at the others those of v. -/
def fill (n : Nat) (p : Nat → Bool) (u v : Int) : List Value := (List.range n).map fun j => .int .u32 (if p j then dg u j else dg v j)
def dcells (n : Nat) (v : Int) : List Value := (List.range n).map fun j => .int .u32 (dg v j)
def mix (n i : Nat) (u v : Int) : List Value := fill n (fun j => decide (j < i)) u v
theorem fill_length (n : Nat) (p : Nat → Bool) (u v : Int) : (fill n p u v).length = n := by simp [fill]
theorem mix_length (n i : Nat) (u v : Int) : (mix n i u v).length = n := fill_length _ _ _ _
theorem dcells_length (n : Nat) (v : Int) : (dcells n v).length = n := by simp [dcells]
theorem dcells_at (n : Nat) (v : Int) (i : Nat) (h : i < n) : (dcells n v)[i]? = some (.int .u32 (dg v i)) := by simp [dcells, h]
theorem fill_at (n : Nat) (p : Nat → Bool) (u v : Int) (i : Nat) (h : i < n) : (fill n p u v)[i]? = some (.int .u32 (if p i then dg u i else dg v i)) := by simp [fill, h]
theorem mix_at (n k : Nat) (u v : Int) (i : Nat) (h : i < n) (hk : k ≤ i) : (mix n k u v)[i]? = some (.int .u32 (dg v i)) := by
  rw [mix, fill_at _ _ _ _ _ h]; simp; omega
theorem fill_congr {n : Nat} {p q : Nat → Bool} {u v u' v' : Int} (h : ∀ j, j < n → (if p j then dg u j else dg v j) = (if q j then dg u' j else dg v' j)) : fill n p u v = fill n q u' v' := by
  unfold fill
  refine List.map_congr_left fun j hj => ?_
  rw [h j (by simpa using hj)]
theorem fill_set (n : Nat) (p : Nat → Bool) (u v : Int) (i : Nat) : (fill n p u v).set i (.int .u32 (dg u i)) = fill n (fun j => p j || j == i) u v := by
  refine List.ext_getElem? fun j => ?_
  rw [List.getElem?_set]
  by_cases e : i = j
  · subst e
    by_cases h : i < n
    · rw [if_pos rfl, if_pos (by rw [fill_length]; exact h), fill_at _ _ _ _ _ h]; simp
    · rw [if_pos rfl, if_neg (by rw [fill_length]; exact h), List.getElem?_eq_none (by rw [fill_length]; omega)]
  · by_cases h : j < n
    · rw [if_neg e, fill_at _ _ _ _ _ h, fill_at _ _ _ _ _ h]
      have e' : (j == i) = false := by simp; omega
      simp [e']
    · rw [if_neg e, List.getElem?_eq_none (by simp [fill_length]; omega), List.getElem?_eq_none (by simp [fill_length]; omega)]
theorem mix_set (n i : Nat) (u v : Int) : (mix n i u v).set i (.int .u32 (dg u i)) = mix n (i + 1) u v := by
  unfold mix
  rw [fill_set]
  refine fill_congr fun j _ => ?_
  have : (decide (j < i) || j == i) = decide (j < i + 1) := by rw [Bool.eq_iff_iff]; simp; omega
  rw [this]
theorem mix_zero (n : Nat) (u v : Int) : mix n 0 u v = dcells n v := by unfold mix fill dcells; simp
theorem mix_full (n : Nat) (u v : Int) : mix n n u v = dcells n u := by
  unfold mix fill dcells
  refine List.map_congr_left fun j hj => ?_
  have : j < n := by simpa using hj
  simp [this]
/-- The digits of two numbers that are the same modulo 1000000000^i are the same below place i. -/
theorem dg_congr {u v : Int} {i j : Nat} (t : Int) (h : u = v + t * 1000000000 ^ i) (hj : j < i) : dg u j = dg v j := by
  unfold dg
  obtain ⟨d, rfl⟩ : ∃ d, i = j + 1 + d := ⟨i - (j + 1), by omega⟩
  have e : t * (1000000000 : Int) ^ (j + 1 + d) = (1000000000 * (t * 1000000000 ^ d)) * 1000000000 ^ j := by
    rw [show j + 1 + d = d + 1 + j by omega, Int.pow_add, Int.pow_succ, ← Int.mul_assoc, ← Int.mul_assoc, Int.mul_comm (t * 1000000000 ^ d) 1000000000]
  rw [h, e, Int.add_mul_ediv_right _ _ (Int.ne_of_gt (p256 j))]
  omega
theorem dcells_congr {n : Nat} {u v : Int} (t : Int) (h : u = v + t * 1000000000 ^ n) : dcells n u = dcells n v := by
  unfold dcells
  refine List.map_congr_left fun j hj => ?_
  rw [dg_congr t h (by simpa using hj)]
/-- The carry into place i when x and y are added. -/
def carry (x y : Int) (i : Nat) : Int := (x % 1000000000 ^ i + y % 1000000000 ^ i) / 1000000000 ^ i
theorem carry_zero (x y : Int) : carry x y 0 = 0 := by simp [carry]
theorem emod_succ (x : Int) (i : Nat) : x % 1000000000 ^ (i + 1) = dg x i * 1000000000 ^ i + x % 1000000000 ^ i := by
  unfold dg
  have hp := p256 i
  have h1 := Int.mul_ediv_add_emod x (1000000000 ^ i)
  have h2 := Int.mul_ediv_add_emod (x / 1000000000 ^ i) 1000000000
  have b := Int.emod_nonneg x (Int.ne_of_gt hp)
  have b' := Int.emod_lt_of_pos x hp
  have c := Int.emod_nonneg (x / 1000000000 ^ i) (show (1000000000 : Int) ≠ 0 by decide)
  have c' := Int.emod_lt_of_pos (x / 1000000000 ^ i) (show (0 : Int) < 1000000000 by decide)
  have e : x = (x / 1000000000 ^ i % 1000000000 * 1000000000 ^ i + x % 1000000000 ^ i) + (x / 1000000000 ^ i / 1000000000) * 1000000000 ^ (i + 1) := by
    have : (x / 1000000000 ^ i / 1000000000) * (1000000000 : Int) ^ (i + 1) = (1000000000 * (x / 1000000000 ^ i / 1000000000)) * 1000000000 ^ i := by rw [Int.pow_succ, Int.mul_comm ((1000000000 : Int) ^ i) 1000000000, ← Int.mul_assoc, Int.mul_comm _ 1000000000]
    rw [this]
    have h3 : (1000000000 * (x / 1000000000 ^ i / 1000000000)) * (1000000000 : Int) ^ i + x / 1000000000 ^ i % 1000000000 * 1000000000 ^ i = x / 1000000000 ^ i * 1000000000 ^ i := by rw [← Int.add_mul, h2]
    have h4 : x / 1000000000 ^ i * (1000000000 : Int) ^ i = 1000000000 ^ i * (x / 1000000000 ^ i) := Int.mul_comm _ _
    omega
  have l0 : 0 ≤ x / 1000000000 ^ i % 1000000000 * 1000000000 ^ i + x % 1000000000 ^ i := Int.add_nonneg (Int.mul_nonneg c (Int.le_of_lt hp)) b
  have l1 : x / 1000000000 ^ i % 1000000000 * 1000000000 ^ i + x % 1000000000 ^ i < 1000000000 ^ (i + 1) := by
    have : x / 1000000000 ^ i % 1000000000 * (1000000000 : Int) ^ i ≤ 999999999 * 1000000000 ^ i := Int.mul_le_mul_of_nonneg_right (by omega) (Int.le_of_lt hp)
    rw [Int.pow_succ]
    omega
  have key : x % 1000000000 ^ (i + 1) = (x / 1000000000 ^ i % 1000000000 * 1000000000 ^ i + x % 1000000000 ^ i) % 1000000000 ^ (i + 1) := by
    have := congrArg (· % (1000000000 : Int) ^ (i + 1)) e
    simpa [Int.add_mul_emod_self_right] using this
  rw [key, Int.emod_eq_of_lt l0 l1]
theorem carry_sum (x y : Int) (i : Nat) : (x % 1000000000 ^ (i + 1) + y % 1000000000 ^ (i + 1)) / 1000000000 ^ i = carry x y i + dg x i + dg y i := by
  rw [emod_succ, emod_succ]
  unfold carry
  have e : dg x i * 1000000000 ^ i + x % 1000000000 ^ i + (dg y i * 1000000000 ^ i + y % 1000000000 ^ i) = (x % 1000000000 ^ i + y % 1000000000 ^ i) + (dg x i + dg y i) * 1000000000 ^ i := by rw [Int.add_mul]; omega
  rw [e, Int.add_mul_ediv_right _ _ (Int.ne_of_gt (p256 i))]
  omega
theorem carry_succ (x y : Int) (i : Nat) : carry x y (i + 1) = (carry x y i + dg x i + dg y i) / 1000000000 := by
  rw [← carry_sum]
  show (x % 1000000000 ^ (i + 1) + y % 1000000000 ^ (i + 1)) / 1000000000 ^ (i + 1) = _
  have hp := p256 i
  rw [Int.pow_succ, Int.ediv_ediv, if_neg (by omega)]
  omega
theorem add_digit (x y : Int) (i : Nat) : (carry x y i + dg x i + dg y i) % 1000000000 = dg (x + y) i := by
  unfold dg carry
  have hp := p256 i
  have h1 := Int.mul_ediv_add_emod x (1000000000 ^ i)
  have h2 := Int.mul_ediv_add_emod y (1000000000 ^ i)
  have e : x + y = (x % 1000000000 ^ i + y % 1000000000 ^ i) + (x / 1000000000 ^ i + y / 1000000000 ^ i) * 1000000000 ^ i := by
    have a1 : x / 1000000000 ^ i * (1000000000 : Int) ^ i = 1000000000 ^ i * (x / 1000000000 ^ i) := Int.mul_comm _ _
    have a2 : y / 1000000000 ^ i * (1000000000 : Int) ^ i = 1000000000 ^ i * (y / 1000000000 ^ i) := Int.mul_comm _ _
    rw [Int.add_mul]; omega
  have e2 : (x + y) / 1000000000 ^ i = (x % 1000000000 ^ i + y % 1000000000 ^ i) / 1000000000 ^ i + (x / 1000000000 ^ i + y / 1000000000 ^ i) := by
    conv => lhs; rw [e]
    exact Int.add_mul_ediv_right _ _ (Int.ne_of_gt hp)
  rw [e2]
  omega
theorem carry_range (x y : Int) (i : Nat) : 0 ≤ carry x y i ∧ carry x y i ≤ 1 := by
  unfold carry
  have hp := p256 i
  have a := Int.emod_nonneg x (Int.ne_of_gt hp)
  have a' := Int.emod_lt_of_pos x hp
  have b := Int.emod_nonneg y (Int.ne_of_gt hp)
  have b' := Int.emod_lt_of_pos y hp
  refine ⟨Int.ediv_nonneg (by omega) (by omega), ?_⟩
  have : (x % 1000000000 ^ i + y % 1000000000 ^ i) / 1000000000 ^ i < 2 := Int.ediv_lt_of_lt_mul hp (by omega)
  omega
theorem neg_digit (x : Int) (i : Nat) : 999999999 - dg x i = dg (-1 - x) i := by
  unfold dg
  have hp := p256 i
  have h1 := Int.mul_ediv_add_emod x (1000000000 ^ i)
  have a := Int.emod_nonneg x (Int.ne_of_gt hp)
  have a' := Int.emod_lt_of_pos x hp
  have e : -1 - x = (1000000000 ^ i - 1 - x % 1000000000 ^ i) + (-1 - x / 1000000000 ^ i) * 1000000000 ^ i := by
    have a1 : x / 1000000000 ^ i * (1000000000 : Int) ^ i = 1000000000 ^ i * (x / 1000000000 ^ i) := Int.mul_comm _ _
    rw [Int.sub_mul]; omega
  have e2 : (-1 - x) / 1000000000 ^ i = -1 - x / 1000000000 ^ i := by
    conv => lhs; rw [e]
    rw [Int.add_mul_ediv_right _ _ (Int.ne_of_gt hp), Int.ediv_eq_zero_of_lt (by omega) (by omega)]
    omega
  rw [e2]
  omega
end Go.Proofs.Ytnemailhijkemaa.pc

namespace Go.Proofs.Ytnemailhijkemaa.pc
open Go.RowKit
set_option linter.unusedVariables false

/-- v needs n digits: none for nought. -/
def IsLen (v n : Nat) : Prop := v < 1000000000 ^ n ∧ (n = 0 ∨ 1000000000 ^ (n - 1) ≤ v)
theorem isLen_one {v n m : Nat} (h : IsLen v n) (h' : IsLen v m) : n = m := by
  obtain ⟨a, b⟩ := h
  obtain ⟨a', b'⟩ := h'
  rcases Nat.lt_trichotomy n m with e | e | e
  · rcases b' with b' | b'
    · omega
    · have := Nat.pow_le_pow_right (n := 1000000000) (by decide) (show n ≤ m - 1 by omega)
      omega
  · exact e
  · rcases b with b | b
    · omega
    · have := Nat.pow_le_pow_right (n := 1000000000) (by decide) (show m ≤ n - 1 by omega)
      omega
/-- A number below 1000000000^n has a length of n at most, and is found by cutting noughts off the end. -/
theorem isLen_cut : ∀ (n v : Nat), v < 1000000000 ^ n → ∃ m, m ≤ n ∧ IsLen v m
  | 0, v, h => ⟨0, Nat.le_refl _, h, Or.inl rfl⟩
  | n + 1, v, h => by
    by_cases c : v < 1000000000 ^ n
    · obtain ⟨m, h1, h2⟩ := isLen_cut n v c
      exact ⟨m, by omega, h2⟩
    · exact ⟨n + 1, Nat.le_refl _, h, Or.inr (by simp; omega)⟩
theorem lt_pow_self (v : Nat) : v < 1000000000 ^ v := Nat.lt_pow_self (by decide)
theorem isLen_ex (v : Nat) : ∃ m, IsLen v m := by
  obtain ⟨m, _, h⟩ := isLen_cut v v (lt_pow_self v)
  exact ⟨m, h⟩
/-- How many digits v needs. -/
def nlen (v : Nat) : Nat := if h : v = 0 then 0 else nlen (v / 1000000000) + 1
  termination_by v
  decreasing_by exact Nat.div_lt_self (Nat.pos_of_ne_zero h) (by decide)
theorem nlen_is (v : Nat) : IsLen v (nlen v) := by
  induction v using Nat.strongRecOn with
  | ind v ih =>
    unfold nlen
    split
    · rename_i h
      rw [h]
      exact ⟨by decide, Or.inl rfl⟩
    · rename_i h
      obtain ⟨h1, h2⟩ := ih (v / 1000000000) (Nat.div_lt_self (Nat.pos_of_ne_zero h) (by decide))
      refine ⟨?_, Or.inr ?_⟩
      · rw [Nat.pow_succ]
        exact (Nat.div_lt_iff_lt_mul (by decide)).1 h1
      · rw [Nat.add_sub_cancel]
        rcases h2 with h2 | h2
        · rw [h2]
          exact Nat.pos_of_ne_zero h
        · rcases Nat.eq_zero_or_pos (nlen (v / 1000000000)) with h3 | h3
          · rw [h3]
            exact Nat.pos_of_ne_zero h
          · have h4 := (Nat.le_div_iff_mul_le (by decide)).1 h2
            rw [← Nat.pow_succ] at h4
            rwa [show (nlen (v / 1000000000) - 1).succ = nlen (v / 1000000000) by omega] at h4
theorem nlen_eq {v n : Nat} (h : IsLen v n) : nlen v = n := isLen_one (nlen_is v) h
theorem nlen_le {v n : Nat} (h : v < 1000000000 ^ n) : nlen v ≤ n := by
  obtain ⟨m, h1, h2⟩ := isLen_cut n v h
  rw [nlen_eq h2]; exact h1
theorem nlen_zero : nlen 0 = 0 := nlen_eq ⟨by decide, Or.inl rfl⟩
theorem nlen_lt (v : Nat) : v < 1000000000 ^ nlen v := (nlen_is v).1
theorem nlen_pos {v : Nat} (h : 0 < v) : 0 < nlen v := by
  rcases Nat.lt_or_ge 0 (nlen v) with l | l
  · exact l
  · have := nlen_lt v
    rw [show nlen v = 0 by omega] at this
    simp at this
    omega
/-- The longer number is the greater. -/
theorem lt_of_nlen {u v : Nat} (h : nlen u < nlen v) : u < v := by
  obtain ⟨_, b⟩ := nlen_is v
  rcases b with b | b
  · omega
  · have := nlen_lt u
    have := Nat.pow_le_pow_right (n := 1000000000) (by decide) (show nlen u ≤ nlen v - 1 by omega)
    omega
theorem pow_cast (k : Nat) : ((1000000000 ^ k : Nat) : Int) = (1000000000 : Int) ^ k := by rw [Int.natCast_pow]; rfl
theorem dg_nat (v k : Nat) : dg (v : Int) k = ((v / 1000000000 ^ k % 1000000000 : Nat) : Int) := by
  unfold dg
  rw [← pow_cast]
  omega
/-- The digit at a place that a number does not reach is nought; the highest one that it has is not. -/
theorem dg_over {v k : Nat} (h : v < 1000000000 ^ k) : dg (v : Int) k = 0 := by rw [dg_nat, Nat.div_eq_of_lt h]; rfl
theorem dg_top {v n : Nat} (h : IsLen v (n + 1)) : dg (v : Int) n ≠ 0 := by
  obtain ⟨a, b⟩ := h
  have b : 1000000000 ^ n ≤ v := by
    rcases b with b | b
    · omega
    · exact b
  rw [dg_nat]
  have h1 : 1 ≤ v / 1000000000 ^ n := (Nat.one_le_div_iff (Nat.pow_pos (by decide))).2 b
  have h2 : v / 1000000000 ^ n < 1000000000 := by
    rw [Nat.pow_succ] at a
    exact Nat.div_lt_of_lt_mul a
  rw [Nat.mod_eq_of_lt h2]
  omega
/-- One nought at the end cut off. -/
theorem lt_of_dg_zero {v n : Nat} (h : v < 1000000000 ^ (n + 1)) (z : dg (v : Int) n = 0) : v < 1000000000 ^ n := by
  rcases Nat.lt_or_ge v (1000000000 ^ n) with l | l
  · exact l
  · exact absurd z (dg_top ⟨h, Or.inr (by simpa using l)⟩)
/-- Two numbers of n digits with the same digits are the same. -/
theorem eq_of_dcells : ∀ (n : Nat) (u v : Nat), u < 1000000000 ^ n → v < 1000000000 ^ n → (∀ j, j < n → dg (u : Int) j = dg (v : Int) j) → u = v := by
  intro n
  induction n with
  | zero => intro u v hu hv _; simp at hu hv; omega
  | succ n ih =>
    intro u v hu hv h
    have e := ih (u % 1000000000 ^ n) (v % 1000000000 ^ n) (Nat.mod_lt _ (Nat.pow_pos (by decide))) (Nat.mod_lt _ (Nat.pow_pos (by decide))) (fun j hj => by
      have a : ∀ x : Nat, dg ((x % 1000000000 ^ n : Nat) : Int) j = dg (x : Int) j := fun x => by
        refine dg_congr (i := n) (-((x / 1000000000 ^ n : Nat) : Int)) ?_ hj
        have := Nat.mod_add_div x (1000000000 ^ n)
        rw [← pow_cast, Int.neg_mul, ← Int.natCast_mul, Nat.mul_comm (x / 1000000000 ^ n)]
        omega
      rw [a, a]
      exact h j (by omega))
    have t := h n (by omega)
    rw [dg_nat, dg_nat] at t
    have du : u / 1000000000 ^ n < 1000000000 := by rw [Nat.pow_succ] at hu; exact Nat.div_lt_of_lt_mul hu
    have dv : v / 1000000000 ^ n < 1000000000 := by rw [Nat.pow_succ] at hv; exact Nat.div_lt_of_lt_mul hv
    rw [Nat.mod_eq_of_lt du, Nat.mod_eq_of_lt dv] at t
    have t' : u / 1000000000 ^ n = v / 1000000000 ^ n := by omega
    have h1 := Nat.mod_add_div u (1000000000 ^ n)
    have h2 := Nat.mod_add_div v (1000000000 ^ n)
    rw [e, t'] at h1
    omega
end Go.Proofs.Ytnemailhijkemaa.pc

namespace Go.Proofs.Ytnemailhijkemaa
open Go.RowKit
set_option linter.unusedVariables false

/-- How long a slice is. -/
def slen : Value → Nat
  | .slice _ n _ => n
  | _ => 0
theorem pc_succ (t : Nat) (a : Int) : pc.dcells (t + 1) a = pc.dcells t a ++ [.int .u32 (pc.dg a t)] := by
  unfold pc.dcells; rw [List.range_succ, List.map_append]; rfl
theorem pc_small {u t l : Nat} (h : 1000000000 ^ t ≤ u) (hu : u < 4294967296 ^ l) : t ≤ 2 * l := by
  rcases Nat.lt_or_ge (2 * l) t with h1 | h1
  · have h2 : 4294967296 ^ l ≤ (1000000000 ^ 2) ^ l := Nat.pow_le_pow_left (by decide) l
    rw [← Nat.pow_mul] at h2
    have h3 := Nat.pow_le_pow_right (n := 1000000000) (by decide) (show 2 * l ≤ t by omega)
    omega
  · exact h1
/-- What holds at the head of each round. -/
def PieceRel (w : World) (u la : Nat) (pv rv : Value) (wr : World) : Prop := ∃ (t U : Nat) (ap ar : Option Addr) (cp cr : Nat), t ≤ 2 * la + 1 ∧ (t = 0 ∨ 1000000000 ^ (t - 1) ≤ u) ∧ Hid (U = u / 1000000000 ^ t) ∧ pv = .slice ap t cp ∧ rv = .slice ar (wd.nlen U) cr ∧
  Own wr w.heap.size 65 ap t cp (pc.dcells t (u : Int)) ∧ Own wr w.heap.size 65 ar (wd.nlen U) cr (wd.dcells (wd.nlen U) (U : Int)) ∧
  (∀ b, ar = some b → (Value.slice ap t cp).ownBlock ≠ some b.block) ∧ Below w.heap.size w wr
theorem piece_dg (u t : Nat) : ((u / 1000000000 ^ t : Nat) : Int) % 1000000000 = pc.dg (u : Int) t := by
  rw [pc.dg_nat]; omega
theorem piece_next (u t : Nat) : ((u / 1000000000 ^ t : Nat) : Int) / 1000000000 = ((u / 1000000000 ^ (t + 1) : Nat) : Int) := by
  rw [Nat.pow_succ, ← Nat.div_div_eq_div_mul]; omega
theorem next_le (u t : Nat) : u / 1000000000 ^ (t + 1) ≤ u / 1000000000 ^ t := by
  rw [Nat.pow_succ, ← Nat.div_div_eq_div_mul]; exact Nat.div_le_self _ _
/-- The round's end. -/
theorem pieceRel_next {w wr w2 w4 : World} {u la t g cp cr g' cap' cr' U U' : Nat} {r : Int} {ap ar' : Option Addr} {T : TypeId} (hU' : U' = u / 1000000000 ^ (t + 1)) (hr : r = pc.dg u t) (hle : 1000000000 ^ t ≤ u) (hu : u < 4294967296 ^ la) (hbel : Below w.heap.size w wr) (hg : g < wr.heap.size) (hg2 : w.heap.size ≤ g)
    (hownp : Own wr w.heap.size 65 ap t cp (pc.dcells t (u : Int))) (hne : ∀ b, some (⟨g, 0, none⟩ : Addr) = some b → (Value.slice ap t cp).ownBlock ≠ some b.block)
    (hwr : Wr wr w2 g 0 (wd.nlen U)) (hownr2 : Own w2 w.heap.size 65 (some ⟨g, 0, none⟩) (wd.nlen U) cr (wd.dcells (wd.nlen U) (U' : Int)))
    (h4 : w4.ownsRow w.heap.size 65 1 (.slice (some ⟨g', 0, none⟩) (t + 1) cap') (t + 1) (pc.dcells t (u : Int) ++ [.int .u32 r])) (hgr : (w2.alloc (.cells #[.int .u32 r] T)).grownBy w4 (Value.slice ap t cp).ownBlock)
    (hat : (Value.slice ap t cp).ownBlock = some g' ∨ g' = (w2.alloc (.cells #[.int .u32 r] T)).heap.size) :
    Own w4 w.heap.size 65 (some ⟨g, 0, none⟩) (wd.nlen U) cr (wd.dcells (wd.nlen U) (U' : Int)) ∧
    (∀ cut : Cut (some ⟨g, 0, none⟩) (wd.nlen U) cr ar' (wd.nlen U') cr', PieceRel w u la (.slice (some ⟨g', 0, none⟩) (t + 1) cap') (.slice ar' (wd.nlen U') cr') w4) := by
  subst hr
  have hne' := hne _ rfl
  have hsz := hwr.grown.size
  have hr4 : Own w4 w.heap.size 65 (some ⟨g, 0, none⟩) (wd.nlen U) cr (wd.dcells (wd.nlen U) (U' : Int)) :=
    World.ownsRow.kept (World.ownsRow.alloc hownr2 _) hgr (Or.inr fun e => hne' (by rw [← e]; rfl))
  refine ⟨hr4, fun cut => ⟨t + 1, U', _, ar', cap', cr', by have := pc_small hle hu; omega, Or.inr (by simpa using hle), hU', rfl, rfl, ?_, cut.own hr4, ?_, ?_⟩⟩
  · rw [pc_succ]; exact h4
  · intro b hb e
    simp only [Value.ownBlock, Option.some.injEq] at e
    rcases cut with ⟨_, h, _⟩ | ⟨_, _, h, _⟩
    · rw [h] at hb; cases hb
    · rw [h] at hb
      cases hb
      dsimp only at e
      rcases hat with hat | hat
      · exact hne' (by rw [hat, e])
      · rw [World.size_alloc] at hat; omega
  · have hb2 := hwr.after hbel hg2 (Nat.le_refl _)
    refine ((hb2.alloc hb2.size _).grown hgr ?_ ?_)
    · rw [World.size_alloc]; have := hb2.size; omega
    · intro k hk
      exact (World.ownsRow.lt hownp k hk).1

end Go.Proofs.Ytnemailhijkemaa

namespace Go.Proofs.Ytnemailhijkemaa
open Go.RowKit
set_option linter.unusedVariables false

/-- What holds at the head of each round. -/
def TrimRel (s : ByteArray) (v : Value) : Prop := ∃ t : ByteArray, t.size ≤ s.size ∧ (nums t).dropWhile (· == 48) = (nums s).dropWhile (· == 48) ∧ v = .string t
def strLen : Value → Nat
  | .string s => s.size
  | _ => 0
theorem strLen_str (s : ByteArray) : strLen (.string s) = s.size := rfl
theorem str_of_nums {t : ByteArray} {l : List Int} (h : nums t = l) : t = strOfNums l := by rw [← h, str_nums]
theorem size_tail (t : ByteArray) : (t.extract 1 t.size).size = t.size - 1 := by simp

end Go.Proofs.Ytnemailhijkemaa

namespace Go.Proofs.Ytnemailhijkemaa
open Go.RowKit
set_option linter.unusedVariables false

/-- Bytes written from place p on, noughts ahead. -/
def cellsD (p : Nat) (l : List Int) : List Value := List.replicate p (.int .u8 0) ++ l.map (Value.int .u8)
theorem cellsD_length (p : Nat) (l : List Int) : (cellsD p l).length = p + l.length := by simp [cellsD]
theorem set_replicate {α : Type} (z d : α) (n : Nat) (l : List α) : (List.replicate (n + 1) z ++ l).set n d = List.replicate n z ++ d :: l := by
  rw [List.replicate_succ', List.append_assoc, List.set_append_right _ _ (by simp)]
  simp
theorem cellsD_set (p : Nat) (l : List Int) (d : Int) : (cellsD (p + 1) l).set p (.int .u8 d) = cellsD p (d :: l) := by
  unfold cellsD
  rw [set_replicate, List.map_cons]
theorem cellsD_at (p : Nat) (l : List Int) : (cellsD (p + 1) l)[p]? = some (.int .u8 0) := by
  unfold cellsD
  rw [List.getElem?_append_left (by simp), List.getElem?_replicate, if_pos (by omega)]
theorem infoByte : (Try.prog.info? 5).map (fun i => (i.zero, i.size, i.bytes)) = some (some (.int .u8 0), 1, 1) := by kernel_rfl
/-- The digit at a place, out of a piece. -/
theorem piece_digit (u j k : Nat) (hk : k < 9) : ((u / 1000000000 ^ j % 1000000000 / 10 ^ k : Nat) : Int) % 10 = ((u / 10 ^ (9 * j + k) % 10 : Nat) : Int) := by
  have e1 : (1000000000 : Nat) ^ j = 10 ^ (9 * j) := by rw [Nat.pow_mul]
  have e2 : u / 10 ^ (9 * j + k) = u / 10 ^ (9 * j) / 10 ^ k := by rw [Nat.pow_add, Nat.div_div_eq_div_mul]
  rw [e1, e2]
  generalize u / 10 ^ (9 * j) = x
  have h : (1000000000 : Nat) = 10 ^ k * (10 * 10 ^ (8 - k)) := by
    rw [← Nat.pow_succ', ← Nat.pow_add, show k + (8 - k + 1) = 9 by omega]
  have h2 : x % 1000000000 / 10 ^ k = x / 10 ^ k % (10 * 10 ^ (8 - k)) := by rw [h, Nat.mod_mul_right_div_self]
  rw [h2]
  have h3 := Nat.mod_mul_right_mod (x / 10 ^ k) 10 (10 ^ (8 - k))
  omega
/-- What holds at the head of each round of the inner loop. -/
def TextIn (w2 : World) (base u c j b : Nat) (ev xv iv : Value) (wr : World) : Prop := ∃ (k p : Nat) (X : Int), k ≤ 9 ∧ k + p + 9 * j = 9 * c ∧ iv = .int .i64 (k : Int) ∧ ev = .int .i64 (p : Int) ∧ xv = .int .u32 X ∧ Hid (X = ((u / 1000000000 ^ j % 1000000000 / 10 ^ k : Nat) : Int)) ∧ 0 ≤ X ∧ X < 4294967296 ∧
  Own wr base 5 (some ⟨b, 0, none⟩) (9 * c) (9 * c) (cellsD p (digs (9 * j + k) u)) ∧ Wr w2 wr b 0 (9 * c)
def TextOut (w2 : World) (base u c b : Nat) (ev iv : Value) (wr : World) : Prop := ∃ (j p : Nat), j ≤ c ∧ p + 9 * j = 9 * c ∧ iv = .int .i64 (j : Int) ∧ ev = .int .i64 (p : Int) ∧
  Own wr base 5 (some ⟨b, 0, none⟩) (9 * c) (9 * c) (cellsD p (digs (9 * j) u)) ∧ Wr w2 wr b 0 (9 * c)
theorem textIn_next {w2 wr : World} {base u c j b k p : Nat} {X : Int} (hk : k < 9) (hp : k + (p + 1) + 9 * j = 9 * c) (hX : Hid (X = ((u / 1000000000 ^ j % 1000000000 / 10 ^ k : Nat) : Int))) (h0 : 0 ≤ X) (h1 : X < 4294967296)
    (hown : Own wr base 5 (some ⟨b, 0, none⟩) (9 * c) (9 * c) (cellsD (p + 1) (digs (9 * j + k) u))) (hw : Wr w2 wr b 0 (9 * c)) :
    TextIn w2 base u c j b (.int .i64 (p : Int)) (.int .u32 (X / 10)) (.int .i64 ((k : Int) + 1)) (wr.setCell ⟨b, p, none⟩ (.int .u8 (48 + X % 10))) := by
  refine ⟨k + 1, p, X / 10, by omega, by omega, by simp, rfl, rfl, ?_, by omega, by omega, ?_, hw.set _ (Nat.zero_le _) (by omega)⟩
  · unfold Hid
    rw [hX.out, Nat.pow_succ, ← Nat.div_div_eq_div_mul]
    omega
  · have := Own.set hown (i := p) (.int .u8 (48 + X % 10)) (by omega)
    rw [cellsD_set, hX.out, piece_digit u j k hk, show (48 + ((u / 10 ^ (9 * j + k) % 10 : Nat) : Int)) :: digs (9 * j + k) u = digs (9 * j + (k + 1)) u from rfl] at this
    rw [hX.out, piece_digit u j k hk]
    exact this
theorem pc_piece (u j : Nat) : pc.dg (u : Int) j = ((u / 1000000000 ^ j % 1000000000 : Nat) : Int) := pc.dg_nat u j
theorem digs_text (u : Nat) (hu : 0 < u) : strOfNums ((nums (strOfNums (digs (9 * pc.nlen u) u))).dropWhile (· == 48)) = decS u := by
  rw [nums_str _ fun c hc => by have := digs_bytes _ _ c hc; omega]
  have h1 := isDec_dlen u
  have h2 : dlen u ≤ 9 * pc.nlen u := by
    have hl := pc.nlen_lt u
    have e : (1000000000 : Nat) ^ pc.nlen u = 10 ^ (9 * pc.nlen u) := by rw [Nat.pow_mul]
    rw [e] at hl
    rcases Nat.lt_or_ge (9 * pc.nlen u) (dlen u) with h | h
    · rcases h1.2.2 with h3 | h3
      · have := pc.nlen_pos hu; omega
      · have := Nat.pow_le_pow_right (n := 10) (by decide) (show 9 * pc.nlen u ≤ dlen u - 1 by omega)
        omega
    · exact h
  have := digs_drop (9 * pc.nlen u - dlen u) (dlen u) u hu h1
  rw [show dlen u + (9 * pc.nlen u - dlen u) = 9 * pc.nlen u by omega] at this
  rw [this]
  rfl
theorem pc_few {u l : Nat} (h : u < 4294967296 ^ l) : pc.nlen u ≤ 2 * l + 1 := by
  rcases (pc.nlen_is u).2 with h1 | h1
  · omega
  · have := pc_small h1 h; omega

end Go.Proofs.Ytnemailhijkemaa

namespace Go.Proofs.Ytnemailhijkemaa
open Go.RowKit
set_option linter.unusedVariables false

/-- The slice is the number u, without noughts at its end. -/
structure ND (w : World) (a : Option Addr) (l c u : Nat) : Prop where
  sl : Sl w a l c (wd.dcells l (u : Int))
  len : l = wd.nlen u
/-- The slice is the number u, and not too long. -/
structure NI (w : World) (a : Option Addr) (l c u : Nat) : Prop where
  sl : Sl w a l c (wd.dcells l (u : Int))
  lt : u < 4294967296 ^ l
  few : l ≤ 1000000
theorem ND.below {w w' : World} {a : Option Addr} {l c u : Nat} (h : ND w a l c u) (hb : Below w.heap.size w w') : ND w' a l c u := ⟨h.sl.below hb, h.len⟩
theorem NI.below {w w' : World} {a : Option Addr} {l c u : Nat} (h : NI w a l c u) (hb : Below w.heap.size w w') : NI w' a l c u := ⟨h.sl.below hb, h.lt, h.few⟩
theorem ND.lt {w : World} {a : Option Addr} {l c u : Nat} (h : ND w a l c u) : u < 4294967296 ^ l := by rw [h.len]; exact wd.nlen_lt u
theorem ND.ni {w : World} {a : Option Addr} {l c u : Nat} (h : ND w a l c u) (K : Nat) (hK : K ≤ 1000000) (hu : u < 4294967296 ^ K) : NI w a l c u := ⟨h.sl, h.lt, by rw [h.len]; exact Nat.le_trans (wd.nlen_le hu) hK⟩
theorem ND.to {w : World} {a : Option Addr} {l c u : Nat} (h : ND w a l c u) (hl : l ≤ 1000000) : NI w a l c u := ⟨h.sl, h.lt, hl⟩
theorem nd_nil (w : World) : ND w none 0 0 0 := ⟨sl_nil w, wd.nlen_zero.symm⟩
def GotN (w : World) (u : Nat) (e : Ending) (w' : World) : Prop := ∃ a l c, e = .returned (.slice a l c) ∧ ND w' a l c u ∧ Below w.heap.size w w'
theorem gotN {w w' : World} {u : Nat} {e : Ending} (h : ∃ a' cap', e = .returned (.slice a' (wd.nlen u) cap') ∧ Own w' w.heap.size 65 a' (wd.nlen u) cap' (wd.dcells (wd.nlen u) (u : Int)) ∧ Below w.heap.size w w') : GotN w u e w' := by
  obtain ⟨a, c, he, ho, hb⟩ := h
  exact ⟨a, _, c, he, ⟨Own.sl ho, rfl⟩, hb⟩
def GotB (w : World) (q r : Nat) (e : Ending) (w' : World) : Prop := ∃ aq lq cq ar lr cr, e = .returned (.tuple #[.slice aq lq cq, .slice ar lr cr, .int .i64 0]) ∧ ND w' aq lq cq q ∧ ND w' ar lr cr r ∧ Below w.heap.size w w'
def GotS (w : World) (u : Nat) (e : Ending) (w' : World) : Prop := ∃ a l c, e = .returned (.tuple #[.slice a l c, .bool true]) ∧ ND w' a l c u ∧ Below w.heap.size w w'
end Go.Proofs.Ytnemailhijkemaa

namespace Go.Proofs.Ytnemailhijkemaa
open Go.RowKit
set_option linter.unusedVariables false

/-- The slice has nothing in block k. -/
def NA (k : Nat) (a : Option Addr) (l : Nat) : Prop := l = 0 ∨ ∀ o, a ≠ some ⟨k, o, none⟩
/-- The slice has nothing in the blocks ahead of base. -/
def Far (base : Nat) (a : Option Addr) (l : Nat) : Prop := ∀ k, k < base → NA k a l
theorem Far.mono {base base' : Nat} {a : Option Addr} {l : Nat} (h : Far base a l) (hb : base' ≤ base) : Far base' a l := fun k hk => h k (by omega)
theorem far_nil (base : Nat) (a : Option Addr) : Far base a 0 := fun _ _ => Or.inl rfl
theorem Sl.na {w : World} {a : Option Addr} {l c k : Nat} {xs : List Value} (h : Sl w a l c xs) (hk : w.heap.size ≤ k) : NA k a l := by
  rcases Nat.eq_zero_or_pos l with e | e
  · exact Or.inl e
  · obtain ⟨b, o, rfl, hb, _⟩ := h.at e
    exact Or.inr fun o' e' => by cases e'; omega
theorem Sl.put {w : World} {a : Option Addr} {l c b : Nat} {xs : List Value} (h : Sl w a l c xs) (hn : NA b a l) (i : Nat) (v : Value) : Sl (w.setCell ⟨b, i, none⟩ v) a l c xs := by
  refine ⟨h.len, h.room, h.big, h.nil, ?_⟩
  rcases hn with e | hn
  · exact Or.inl e
  · refine h.seg.imp id ?_
    rintro ⟨k, o, e, hk, hs⟩
    exact ⟨k, o, e, by simpa using hk, hs.other v (by rintro rfl; exact hn o e)⟩
theorem Own.far {w : World} {base n cap : Nat} {T : TypeId} {a : Option Addr} {xs : List Value} (h : Own w base T a n cap xs) : Far base a n := by
  intro k hk
  right
  intro o e
  obtain ⟨hl, ⟨h1, _⟩ | ⟨g, cap', cur, hv, hb', r⟩⟩ := h
  · rw [e] at h1
    cases h1
  · rw [e] at hv
    cases hv
    omega
theorem ND.put {w : World} {a : Option Addr} {l c u b : Nat} (h : ND w a l c u) (hn : NA b a l) (i : Nat) (v : Value) : ND (w.setCell ⟨b, i, none⟩ v) a l c u := ⟨h.sl.put hn i v, h.len⟩
theorem NI.put {w : World} {a : Option Addr} {l c u b : Nat} (h : NI w a l c u) (hn : NA b a l) (i : Nat) (v : Value) : NI (w.setCell ⟨b, i, none⟩ v) a l c u := ⟨h.sl.put hn i v, h.lt, h.few⟩
def GotF (w : World) (u : Nat) (e : Ending) (w' : World) : Prop := ∃ a l c, e = .returned (.slice a l c) ∧ ND w' a l c u ∧ Far w.heap.size a l ∧ Below w.heap.size w w'
theorem gotF {w w' : World} {u : Nat} {e : Ending} (h : ∃ a' cap', e = .returned (.slice a' (wd.nlen u) cap') ∧ Own w' w.heap.size 65 a' (wd.nlen u) cap' (wd.dcells (wd.nlen u) (u : Int)) ∧ Below w.heap.size w w') : GotF w u e w' := by
  obtain ⟨a, c, he, ho, hb⟩ := h
  exact ⟨a, _, c, he, ⟨Own.sl ho, rfl⟩, Own.far ho, hb⟩
def GotBF (w : World) (q r : Nat) (e : Ending) (w' : World) : Prop := ∃ aq lq cq ar lr cr, e = .returned (.tuple #[.slice aq lq cq, .slice ar lr cr, .int .i64 0]) ∧ ND w' aq lq cq q ∧ ND w' ar lr cr r ∧ Far w.heap.size aq lq ∧ Far w.heap.size ar lr ∧ Below w.heap.size w w'
def GotSF (w : World) (u : Nat) (e : Ending) (w' : World) : Prop := ∃ a l c, e = .returned (.tuple #[.slice a l c, .bool true]) ∧ ND w' a l c u ∧ Far w.heap.size a l ∧ Below w.heap.size w w'
theorem cell_on {w w' : World} {p : Addr} {v : Value} (hb : Below w.heap.size w w') (h : w.cell? p = some v) : w'.cell? p = some v := by
  refine (hb.cell (p := p) ?_).trans h
  refine Nat.lt_of_not_le fun hle => ?_
  unfold World.cell? at h
  rw [Array.getElem?_eq_none hle] at h
  simp at h
theorem free_on {w w' : World} {p : Addr} {v : Value} {f : Bool} (hb : Below w.heap.size w w') (h : w.cell? p = some v) (hf : w.frozen? p = f) : w'.frozen? p = f := by
  refine (hb.frozen (p := p) ?_).trans hf
  refine Nat.lt_of_not_le fun hle => ?_
  unfold World.cell? at h
  rw [Array.getElem?_eq_none hle] at h
  simp at h
/-- A block of two cells: what they hold, and that they can be written. -/
structure Bx (w : World) (b : Nat) (x y : Value) : Prop where
  c0 : w.cell? ⟨b, 0, none⟩ = some x
  c1 : w.cell? ⟨b, 1, none⟩ = some y
  f0 : w.frozen? ⟨b, 0, none⟩ = false
  f1 : w.frozen? ⟨b, 1, none⟩ = false
theorem Bx.on {w w' : World} {b : Nat} {x y : Value} (h : Bx w b x y) (hb : Below w.heap.size w w') : Bx w' b x y := ⟨cell_on hb h.c0, cell_on hb h.c1, free_on hb h.c0 h.f0, free_on hb h.c1 h.f1⟩
theorem bx_new (w : World) (x y : Value) (t : TypeId) : Bx (w.alloc (.cells #[x, y] t)) w.heap.size x y := by
  have h := Row.new w [x, y] t
  exact ⟨h.cell 0 _ rfl, h.cell 1 _ rfl, h.free 0 (by simp), h.free 1 (by simp)⟩
theorem bx_lt {w : World} {b : Nat} {x y : Value} (h : Bx w b x y) : b < w.heap.size := by
  refine Nat.lt_of_not_le fun hle => ?_
  have := h.c0
  unfold World.cell? at this
  rw [Array.getElem?_eq_none hle] at this
  simp at this
theorem Bx.put {w : World} {b k i : Nat} {x y v : Value} (h : Bx w b x y) (hk : k ≠ b) : Bx (w.setCell ⟨k, i, none⟩ v) b x y := by
  have hne : ∀ j, (⟨k, i, none⟩ : Addr) ≠ ⟨b, j, none⟩ := fun j e => by cases e; exact hk rfl
  refine ⟨?_, ?_, by rw [World.frozen?_setCell]; exact h.f0, by rw [World.frozen?_setCell]; exact h.f1⟩
  · rw [World.cell?_setCell_other _ _ _ _ (by intro q; simp only [Addr.mk.injEq] at q; omega)]; exact h.c0
  · rw [World.cell?_setCell_other _ _ _ _ (by intro q; simp only [Addr.mk.injEq] at q; omega)]; exact h.c1
theorem Bx.set {w : World} {b : Nat} {x y u v : Value} (h : Bx w b x y) : Bx ((w.setCell ⟨b, 0, none⟩ u).setCell ⟨b, 1, none⟩ v) b u v := by
  refine ⟨?_, ?_, by rw [World.frozen?_setCell, World.frozen?_setCell]; exact h.f0, by rw [World.frozen?_setCell, World.frozen?_setCell]; exact h.f1⟩
  · rw [World.cell?_setCell_other _ _ _ _ (by intro q; simp only [Addr.mk.injEq] at q; omega)]
    exact World.cell?_setCell_same _ _ _ h.c0
  · have h1 : (w.setCell ⟨b, 0, none⟩ u).cell? ⟨b, 1, none⟩ = some y := by
      rw [World.cell?_setCell_other _ _ _ _ (by intro q; simp only [Addr.mk.injEq] at q; omega)]
      exact h.c1
    exact World.cell?_setCell_same _ _ _ h1
end Go.Proofs.Ytnemailhijkemaa

namespace Go.Proofs.Ytnemailhijkemaa
open Go.RowKit
set_option linter.unusedVariables false

/-- A whole number as it comes: a sign, which does not count of nought, and how much. -/
structure WI (w : World) (n : Bool) (a : Option Addr) (l c : Nat) (z : Int) : Prop where
  ni : NI w a l c z.natAbs
  neg : n = true → z ≤ 0
  pos : n = false → 0 ≤ z
/-- A whole number in its one form. -/
structure WN (w : World) (n : Bool) (a : Option Addr) (l c : Nat) (z : Int) : Prop where
  nd : ND w a l c z.natAbs
  sg : n = decide (z < 0)
theorem WI.below {w w' : World} {n : Bool} {a : Option Addr} {l c : Nat} {z : Int} (h : WI w n a l c z) (hb : Below w.heap.size w w') : WI w' n a l c z := ⟨h.ni.below hb, h.neg, h.pos⟩
theorem WN.below {w w' : World} {n : Bool} {a : Option Addr} {l c : Nat} {z : Int} (h : WN w n a l c z) (hb : Below w.heap.size w w') : WN w' n a l c z := ⟨h.nd.below hb, h.sg⟩
theorem WN.wi {w : World} {n : Bool} {a : Option Addr} {l c : Nat} {z : Int} (h : WN w n a l c z) (K : Nat) (hK : K ≤ 1000000) (hz : z.natAbs < 4294967296 ^ K) : WI w n a l c z :=
  ⟨h.nd.ni K hK hz, fun e => by have := h.sg; rw [e] at this; have := of_decide_eq_true this.symm; omega, fun e => by have := h.sg; rw [e] at this; have := of_decide_eq_false this.symm; omega⟩
/-- The number of a sign and how much. -/
def sgz (n : Bool) (u : Nat) : Int := if n then -(u : Int) else u
theorem sgz_abs (n : Bool) (u : Nat) : (sgz n u).natAbs = u := by unfold sgz; split <;> omega
theorem WI.is {w : World} {n : Bool} {a : Option Addr} {l c : Nat} {z : Int} (h : WI w n a l c z) : z = sgz n z.natAbs := by
  have h1 := h.neg
  have h2 := h.pos
  unfold sgz
  cases n
  · have := h2 rfl; simp; omega
  · have := h1 rfl; simp; omega
theorem wi_of {w : World} {n : Bool} {a : Option Addr} {l c u : Nat} (h : NI w a l c u) : WI w n a l c (sgz n u) := by
  refine ⟨by rw [sgz_abs]; exact h, fun e => ?_, fun e => ?_⟩ <;> subst e <;> simp [sgz] <;> omega
def GotW (w : World) (z : Int) (e : Ending) (w' : World) : Prop := ∃ (n : Bool) (a : Option Addr) (l c : Nat), e = .returned (.agg #[.bool n, .slice a l c]) ∧ WN w' n a l c z ∧ Far w.heap.size a l ∧ Below w.heap.size w w'

theorem WN.put {w : World} {n : Bool} {a : Option Addr} {l c b : Nat} {z : Int} (h : WN w n a l c z) (hn : NA b a l) (i : Nat) (v : Value) : WN (w.setCell ⟨b, i, none⟩ v) n a l c z := ⟨h.nd.put hn i v, h.sg⟩
theorem WI.put {w : World} {n : Bool} {a : Option Addr} {l c b : Nat} {z : Int} (h : WI w n a l c z) (hn : NA b a l) (i : Nat) (v : Value) : WI (w.setCell ⟨b, i, none⟩ v) n a l c z := ⟨h.ni.put hn i v, h.neg, h.pos⟩
theorem WN.put2 {w : World} {n : Bool} {a : Option Addr} {l c b : Nat} {z : Int} (h : WN w n a l c z) (hn : NA b a l) (u v : Value) : WN ((w.setCell ⟨b, 0, none⟩ u).setCell ⟨b, 1, none⟩ v) n a l c z := (h.put hn 0 u).put hn 1 v
theorem WI.put2 {w : World} {n : Bool} {a : Option Addr} {l c b : Nat} {z : Int} (h : WI w n a l c z) (hn : NA b a l) (u v : Value) : WI ((w.setCell ⟨b, 0, none⟩ u).setCell ⟨b, 1, none⟩ v) n a l c z := (h.put hn 0 u).put hn 1 v
theorem below_put2 {B b : Nat} {w w' : World} (h : Below B w w') (hb : B ≤ b) (u v : Value) : Below B w ((w'.setCell ⟨b, 0, none⟩ u).setCell ⟨b, 1, none⟩ v) := (h.setCell hb _).setCell hb _
/-- The number with this sign, in its one form. -/
def Signed (w : World) (a : Option Addr) (l c : Nat) (z : Int) (e : Ending) (w' : World) : Prop := ∃ n, e = .returned (.agg #[.bool n, .slice a l c]) ∧ WN w' n a l c z ∧ Below w.heap.size w w'
theorem add_same (n : Bool) (u v : Nat) : sgz n (u + v) = sgz n u + sgz n v := by unfold sgz; split <;> omega
theorem add_more (n m : Bool) (u v : Nat) (h : n ≠ m) (hle : v ≤ u) : sgz n (u - v) = sgz n u + sgz m v := by
  unfold sgz
  cases n <;> cases m <;> simp_all <;> omega
theorem add_less (n m : Bool) (u v : Nat) (h : n ≠ m) (hle : u ≤ v) : sgz m (v - u) = sgz n u + sgz m v := by
  unfold sgz
  cases n <;> cases m <;> simp_all <;> omega

theorem endW {w W w2 : World} {n : Bool} {a : Option Addr} {l c : Nat} {z : Int} (k : Nat) (hk : w.heap.size ≤ k) (hs : k < W.heap.size) (B : Below w.heap.size w w2) (h : WN w2 n a l c z) (f : Far W.heap.size a l) (u v : Value) :
    GotW w z (.returned (.agg #[.bool n, .slice a l c])) ((w2.setCell ⟨k, 0, none⟩ u).setCell ⟨k, 1, none⟩ v) :=
  ⟨n, a, l, c, rfl, h.put2 (f k hs) u v, f.mono (by omega), below_put2 B hk u v⟩
theorem also {w w1 w2 : World} (h : Below w.heap.size w w1) (k : Below w1.heap.size w1 w2) : Below w.heap.size w w2 := h.trans (k.mono h.size)

end Go.Proofs.Ytnemailhijkemaa

namespace Go.Proofs.Ytnemailhijkemaa
open Go.RowKit
set_option linter.unusedVariables false

theorem box1 (w : World) (x1 y1 z1 z2 : Value) (t1 t2 : TypeId) : Below w.heap.size w ((w.alloc (.cells #[x1, y1] t1)).alloc (.cells #[z1, z2] t2)) ∧ Bx ((w.alloc (.cells #[x1, y1] t1)).alloc (.cells #[z1, z2] t2)) w.heap.size x1 y1 ∧
    Bx ((w.alloc (.cells #[x1, y1] t1)).alloc (.cells #[z1, z2] t2)) (w.heap.size + 1) z1 z2 ∧ w.heap.size + 1 < ((w.alloc (.cells #[x1, y1] t1)).alloc (.cells #[z1, z2] t2)).heap.size := by
  have h1 := (bx_new w x1 y1 t1).on ((Below.refl _ _).alloc (Nat.le_refl _) (.cells #[z1, z2] t2))
  have h2 := bx_new (w.alloc (.cells #[x1, y1] t1)) z1 z2 t2
  rw [World.size_alloc] at h2
  exact ⟨((Below.refl _ _).alloc (Nat.le_refl _) _).alloc (by simp) _, h1, h2, by simp⟩
theorem box2 (w : World) (x1 y1 x2 y2 z1 z2 : Value) (t1 t2 t3 : TypeId) : Below w.heap.size w (((w.alloc (.cells #[x1, y1] t1)).alloc (.cells #[x2, y2] t2)).alloc (.cells #[z1, z2] t3)) ∧ Bx (((w.alloc (.cells #[x1, y1] t1)).alloc (.cells #[x2, y2] t2)).alloc (.cells #[z1, z2] t3)) w.heap.size x1 y1 ∧
    Bx (((w.alloc (.cells #[x1, y1] t1)).alloc (.cells #[x2, y2] t2)).alloc (.cells #[z1, z2] t3)) (w.heap.size + 1) x2 y2 ∧ Bx (((w.alloc (.cells #[x1, y1] t1)).alloc (.cells #[x2, y2] t2)).alloc (.cells #[z1, z2] t3)) (w.heap.size + 1 + 1) z1 z2 ∧
    w.heap.size + 1 + 1 < (((w.alloc (.cells #[x1, y1] t1)).alloc (.cells #[x2, y2] t2)).alloc (.cells #[z1, z2] t3)).heap.size := by
  obtain ⟨h1, h2, h3, h4⟩ := box1 w x1 y1 x2 y2 t1 t2
  have hb : Below ((w.alloc (.cells #[x1, y1] t1)).alloc (.cells #[x2, y2] t2)).heap.size ((w.alloc (.cells #[x1, y1] t1)).alloc (.cells #[x2, y2] t2)) (((w.alloc (.cells #[x1, y1] t1)).alloc (.cells #[x2, y2] t2)).alloc (.cells #[z1, z2] t3)) := (Below.refl _ _).alloc (Nat.le_refl _) _
  have h5 := bx_new ((w.alloc (.cells #[x1, y1] t1)).alloc (.cells #[x2, y2] t2)) z1 z2 t3
  rw [World.size_alloc, World.size_alloc] at h5
  exact ⟨also h1 hb, h2.on hb, h3.on hb, h5, by simp⟩
theorem keepB1 {n : Nat} {v1 v2 : Value} {w0 w w' : World} (h : w.cell? ⟨n, 0, none⟩ = some v1 ∧ w.cell? ⟨n, 1, none⟩ = some v2 ∧ Below w0.heap.size w0 w) (hb : Below w.heap.size w w') : w'.cell? ⟨n, 0, none⟩ = some v1 ∧ w'.cell? ⟨n, 1, none⟩ = some v2 ∧ Below w0.heap.size w0 w' :=
  ⟨cell_on hb h.1, cell_on hb h.2.1, also h.2.2 hb⟩
theorem keepB2 {n : Nat} {v1 v2 v3 v4 : Value} {w0 w w' : World} (h : w.cell? ⟨n, 0, none⟩ = some v1 ∧ w.cell? ⟨n, 1, none⟩ = some v2 ∧ w.cell? ⟨n + 1, 0, none⟩ = some v3 ∧ w.cell? ⟨n + 1, 1, none⟩ = some v4 ∧ Below w0.heap.size w0 w) (hb : Below w.heap.size w w') :
    w'.cell? ⟨n, 0, none⟩ = some v1 ∧ w'.cell? ⟨n, 1, none⟩ = some v2 ∧ w'.cell? ⟨n + 1, 0, none⟩ = some v3 ∧ w'.cell? ⟨n + 1, 1, none⟩ = some v4 ∧ Below w0.heap.size w0 w' :=
  ⟨cell_on hb h.1, cell_on hb h.2.1, cell_on hb h.2.2.1, cell_on hb h.2.2.2.1, also h.2.2.2.2 hb⟩
theorem keepS1 {n k : Nat} {v1 v2 : Value} {w0 w : World} (h : w.cell? ⟨n, 0, none⟩ = some v1 ∧ w.cell? ⟨n, 1, none⟩ = some v2 ∧ Below w0.heap.size w0 w) (hk : n < k) (hB : w0.heap.size ≤ k) (u v : Value) :
    ((w.setCell ⟨k, 0, none⟩ u).setCell ⟨k, 1, none⟩ v).cell? ⟨n, 0, none⟩ = some v1 ∧ ((w.setCell ⟨k, 0, none⟩ u).setCell ⟨k, 1, none⟩ v).cell? ⟨n, 1, none⟩ = some v2 ∧ Below w0.heap.size w0 ((w.setCell ⟨k, 0, none⟩ u).setCell ⟨k, 1, none⟩ v) := by
  have hne : ∀ i j : Nat, (⟨k, i, none⟩ : Addr) ≠ ⟨n, j, none⟩ := fun i j e => by simp only [Addr.mk.injEq] at e; omega
  exact ⟨by rw [World.cell?_setCell_other _ _ _ _ (hne _ _), World.cell?_setCell_other _ _ _ _ (hne _ _)]; exact h.1, by rw [World.cell?_setCell_other _ _ _ _ (hne _ _), World.cell?_setCell_other _ _ _ _ (hne _ _)]; exact h.2.1, below_put2 h.2.2 hB u v⟩
theorem keepS2 {n k : Nat} {v1 v2 v3 v4 : Value} {w0 w : World} (h : w.cell? ⟨n, 0, none⟩ = some v1 ∧ w.cell? ⟨n, 1, none⟩ = some v2 ∧ w.cell? ⟨n + 1, 0, none⟩ = some v3 ∧ w.cell? ⟨n + 1, 1, none⟩ = some v4 ∧ Below w0.heap.size w0 w) (hk : n + 1 < k) (hB : w0.heap.size ≤ k) (u v : Value) :
    ((w.setCell ⟨k, 0, none⟩ u).setCell ⟨k, 1, none⟩ v).cell? ⟨n, 0, none⟩ = some v1 ∧ ((w.setCell ⟨k, 0, none⟩ u).setCell ⟨k, 1, none⟩ v).cell? ⟨n, 1, none⟩ = some v2 ∧ ((w.setCell ⟨k, 0, none⟩ u).setCell ⟨k, 1, none⟩ v).cell? ⟨n + 1, 0, none⟩ = some v3 ∧ ((w.setCell ⟨k, 0, none⟩ u).setCell ⟨k, 1, none⟩ v).cell? ⟨n + 1, 1, none⟩ = some v4 ∧ Below w0.heap.size w0 ((w.setCell ⟨k, 0, none⟩ u).setCell ⟨k, 1, none⟩ v) := by
  obtain ⟨h1, h2, h3, h4, h5⟩ := h
  obtain ⟨a1, a2, _⟩ := keepS1 ⟨h1, h2, h5⟩ (by omega) hB u v
  obtain ⟨b1, b2, b3⟩ := keepS1 ⟨h3, h4, h5⟩ hk hB u v
  exact ⟨a1, a2, b1, b2, b3⟩
theorem Bx.drew {w : World} {b : Nat} {x y : Value} (h : Bx w b x y) : Bx w.drew b x y := ⟨h.c0, h.c1, h.f0, h.f1⟩
theorem sub_sg (n m : Bool) (u v : Nat) : sgz n u - sgz m v = sgz n u + sgz (!m) v := by
  unfold sgz
  cases m <;> simp <;> omega
theorem neg_sg (n : Bool) (u : Nat) : - sgz n u = sgz (!n) u := by
  unfold sgz
  cases n <;> simp

theorem mul_sg (n m : Bool) (u v : Nat) : sgz n u * sgz m v = sgz (n != m) (u * v) := by
  unfold sgz
  cases n <;> cases m <;> simp [Int.natCast_mul, Int.mul_neg, Int.neg_mul]
end Go.Proofs.Ytnemailhijkemaa

namespace Go.Proofs.Ytnemailhijkemaa
open Go.RowKit
set_option linter.unusedVariables false

theorem bt_zero {u : Nat} : bt.nlen u = 0 ↔ u = 0 := by
  constructor
  · intro h
    have := bt.nlen_lt u
    rw [h] at this
    simpa using this
  · rintro rfl
    exact bt.nlen_zero
theorem dlen_le {u l : Nat} (h : u < 4294967296 ^ l) : dlen u ≤ 10 * l + 1 := by
  obtain ⟨h1, h2, h3⟩ := isDec_dlen u
  rcases h3 with h3 | h3
  · omega
  · rcases Nat.lt_or_ge (10 * l) (dlen u - 1) with h4 | h4
    · have a1 := Nat.pow_le_pow_right (n := 10) (by decide) (show 10 * l ≤ dlen u - 1 by omega)
      have a2 : 4294967296 ^ l ≤ (10 ^ 10) ^ l := Nat.pow_le_pow_left (by decide) l
      rw [← Nat.pow_mul] at a2
      omega
    · omega
/-- A whole number's text. -/
def decZ (z : Int) : ByteArray := if z < 0 then ⟨#[45]⟩ ++ decS z.natAbs else decS z.natAbs
end Go.Proofs.Ytnemailhijkemaa

namespace Go.Proofs.Ytnemailhijkemaa
open Go.RowKit
set_option linter.unusedVariables false

/-- The greatest whole number that is not above a quotient, and what is left. -/
def flQ (x y : Int) : Int := x.sign * y.sign * ((x.natAbs / y.natAbs : Nat) : Int) - (if x.sign * y.sign < 0 ∧ x.natAbs % y.natAbs ≠ 0 then 1 else 0)
def flR (x y : Int) : Int := x - flQ x y * y
theorem sgz_sign (n : Bool) (u : Nat) : (sgz n u).sign = if u = 0 then 0 else if n then -1 else 1 := by
  unfold sgz
  by_cases h : u = 0
  · subst h; cases n <;> simp
  · rw [if_neg h]
    cases n
    · simp only [Bool.false_eq_true, if_false]; exact Int.sign_eq_one_of_pos (by omega)
    · simp only [if_true]; exact Int.sign_eq_neg_one_of_neg (by omega)
theorem fl_more (n m : Bool) (u v : Nat) (hv : 0 < v) (hnm : n ≠ m) (hR : 0 < u % v) : flQ (sgz n u) (sgz m v) = sgz true (u / v + 1) ∧ flR (sgz n u) (sgz m v) = sgz m (v - u % v) := by
  have hu : u ≠ 0 := by rintro rfl; simp at hR
  have hv' : v ≠ 0 := by omega
  have hlt := Nat.mod_lt u hv
  have e : (u : Int) = v * (u / v : Nat) + (u % v : Nat) := by rw [← Int.natCast_mul, ← Int.natCast_add, Nat.div_add_mod]
  have hQ : flQ (sgz n u) (sgz m v) = sgz true (u / v + 1) := by
    unfold flQ
    rw [sgz_sign, sgz_sign, sgz_abs, sgz_abs, if_neg hu, if_neg hv']
    have hR' : u % v ≠ 0 := by omega
    cases n <;> cases m
    · exact absurd rfl hnm
    · simp only [Bool.false_eq_true, if_false, if_true, sgz]
      rw [if_pos ⟨by decide, hR'⟩]
      omega
    · simp only [Bool.false_eq_true, if_false, if_true, sgz]
      rw [if_pos ⟨by decide, hR'⟩]
      omega
    · exact absurd rfl hnm
  refine ⟨hQ, ?_⟩
  unfold flR
  rw [hQ]
  have es : ((v - u % v : Nat) : Int) = v - (u % v : Nat) := Int.ofNat_sub (by omega)
  have ea : ((u / v + 1 : Nat) : Int) = (u / v : Nat) + 1 := by simp
  clear hQ
  unfold sgz
  rw [es, ea]
  clear es ea hlt hR
  generalize ((u / v : Nat) : Int) = Q at e ⊢
  generalize ((u % v : Nat) : Int) = R at e ⊢
  cases n <;> cases m
  · exact absurd rfl hnm
  · simp only [Bool.false_eq_true, if_false, if_true]; rw [e]; grind
  · simp only [Bool.false_eq_true, if_false, if_true]; rw [e]; grind
  · exact absurd rfl hnm
theorem fl_less (n m : Bool) (u v : Nat) (hv : 0 < v) (h : ¬ (n ≠ m ∧ 0 < u % v)) : flQ (sgz n u) (sgz m v) = sgz (n != m) (u / v) ∧ flR (sgz n u) (sgz m v) = sgz m (u % v) := by
  have hv' : v ≠ 0 := by omega
  have hlt := Nat.mod_lt u hv
  by_cases hu : u = 0
  · subst hu
    unfold flR flQ
    rw [sgz_sign, sgz_sign, sgz_abs, sgz_abs]
    cases n <;> cases m <;> simp [sgz]
  have e : (u : Int) = v * (u / v : Nat) + (u % v : Nat) := by rw [← Int.natCast_mul, ← Int.natCast_add, Nat.div_add_mod]
  have hQ : flQ (sgz n u) (sgz m v) = sgz (n != m) (u / v) := by
    unfold flQ
    rw [sgz_sign, sgz_sign, sgz_abs, sgz_abs, if_neg hu, if_neg hv']
    cases n <;> cases m
    · simp only [Bool.false_eq_true, if_false, sgz, bne_self_eq_false]
      rw [if_neg (by rintro ⟨h, _⟩; exact absurd h (by decide))]
      omega
    · have hR : u % v = 0 := by
        rcases Nat.eq_zero_or_pos (u % v) with z | z
        · exact z
        · exact absurd ⟨by decide, z⟩ h
      simp only [Bool.false_eq_true, if_false, if_true, sgz, show (false != true) = true from rfl]
      rw [if_neg (by rintro ⟨_, h⟩; exact h hR)]
      omega
    · have hR : u % v = 0 := by
        rcases Nat.eq_zero_or_pos (u % v) with z | z
        · exact z
        · exact absurd ⟨by decide, z⟩ h
      simp only [Bool.false_eq_true, if_false, if_true, sgz, show (true != false) = true from rfl]
      rw [if_neg (by rintro ⟨_, h⟩; exact h hR)]
      omega
    · simp only [Bool.false_eq_true, if_false, if_true, sgz, bne_self_eq_false]
      rw [if_neg (by rintro ⟨h, _⟩; exact absurd h (by decide))]
      omega
  refine ⟨hQ, ?_⟩
  unfold flR
  rw [hQ]
  have hR0 : n ≠ m → ((u % v : Nat) : Int) = 0 := fun hn => by
    rcases Nat.eq_zero_or_pos (u % v) with z | z
    · rw [z]; rfl
    · exact absurd ⟨hn, z⟩ h
  clear hQ h hlt
  unfold sgz
  generalize ((u / v : Nat) : Int) = Q at e ⊢
  generalize ((u % v : Nat) : Int) = R at e hR0 ⊢
  cases n <;> cases m
  · simp only [Bool.false_eq_true, if_false, bne_self_eq_false]; rw [e]; grind
  · have := hR0 (by decide); simp only [Bool.false_eq_true, if_false, if_true, show (false != true) = true from rfl]; rw [e]; grind
  · have := hR0 (by decide); simp only [Bool.false_eq_true, if_false, if_true, show (true != false) = true from rfl]; rw [e]; grind
  · simp only [Bool.false_eq_true, if_false, if_true, bne_self_eq_false]; rw [e]; grind

theorem ND.drew {w : World} {a : Option Addr} {l c u : Nat} (h : ND w a l c u) : ND w.drew a l c u := h.below ((Below.refl _ _).drew)
def GotFl (w : World) (q r : Int) (e : Ending) (w' : World) : Prop := ∃ (n1 : Bool) (a1 : Option Addr) (l1 c1 : Nat) (n2 : Bool) (a2 : Option Addr) (l2 c2 : Nat), e = .returned (.tuple #[.agg #[.bool n1, .slice a1 l1 c1], .agg #[.bool n2, .slice a2 l2 c2], .int .i64 0]) ∧
  WN w' n1 a1 l1 c1 q ∧ WN w' n2 a2 l2 c2 r ∧ Far w.heap.size a1 l1 ∧ Far w.heap.size a2 l2 ∧ Below w.heap.size w w'
theorem box3 (w : World) (x1 y1 x2 y2 z1 z2 s1 s2 : Value) (t1 t2 t3 t4 : TypeId) : ∃ W, W = (((w.alloc (.cells #[x1, y1] t1)).alloc (.cells #[x2, y2] t2)).alloc (.cells #[z1, z2] t3)).alloc (.cells #[s1, s2] t4) ∧ Below w.heap.size w W ∧ Bx W w.heap.size x1 y1 ∧ Bx W (w.heap.size + 1) x2 y2 ∧ Bx W (w.heap.size + 1 + 1) z1 z2 ∧ Bx W (w.heap.size + 1 + 1 + 1) s1 s2 ∧ w.heap.size + 1 + 1 + 1 < W.heap.size := by
  obtain ⟨h1, h2, h3, h4, h5⟩ := box2 w x1 y1 x2 y2 z1 z2 t1 t2 t3
  have hb := (Below.refl (((w.alloc (.cells #[x1, y1] t1)).alloc (.cells #[x2, y2] t2)).alloc (.cells #[z1, z2] t3)).heap.size (((w.alloc (.cells #[x1, y1] t1)).alloc (.cells #[x2, y2] t2)).alloc (.cells #[z1, z2] t3))).alloc (Nat.le_refl _) (.cells #[s1, s2] t4)
  have h6 := bx_new (((w.alloc (.cells #[x1, y1] t1)).alloc (.cells #[x2, y2] t2)).alloc (.cells #[z1, z2] t3)) s1 s2 t4
  rw [World.size_alloc, World.size_alloc, World.size_alloc] at h6
  exact ⟨_, rfl, also h1 hb, h2.on hb, h3.on hb, h4.on hb, h6, by simp⟩

theorem endFl {w W w6 : World} {n5 n6 : Bool} {aq ar : Option Addr} {lq cq lr cr k : Nat} {Q R : Int} (hk : w.heap.size ≤ k) (hs : k + 1 < W.heap.size) (B : Below w.heap.size w w6) (hq : WN w6 n5 aq lq cq Q) (hr : WN w6 n6 ar lr cr R) (fq : Far W.heap.size aq lq) (fr : Far W.heap.size ar lr) (u v u' v' : Value) :
    GotFl w Q R (.returned (.tuple #[.agg #[.bool n5, .slice aq lq cq], .agg #[.bool n6, .slice ar lr cr], .int .i64 0])) ((((w6.setCell ⟨k, 0, none⟩ u).setCell ⟨k, 1, none⟩ v).setCell ⟨k + 1, 0, none⟩ u').setCell ⟨k + 1, 1, none⟩ v') :=
  ⟨n5, aq, lq, cq, n6, ar, lr, cr, rfl, (hq.put2 (fq k (by omega)) u v).put2 (fq (k + 1) hs) u' v', (hr.put2 (fr k (by omega)) u v).put2 (fr (k + 1) hs) u' v', fq.mono (by omega), fr.mono (by omega), below_put2 (below_put2 B hk u v) (by omega) u' v'⟩
end Go.Proofs.Ytnemailhijkemaa

namespace Go.Proofs.Ytnemailhijkemaa
open Go.RowKit
set_option linter.unusedVariables false

theorem bd_i64 {x : Int} (h : (Lit.int .i64 x).wf = true) : -9223372036854775808 ≤ x ∧ x ≤ 9223372036854775807 := by
  simp [Lit.wf, IntKind.min, IntKind.max, IntKind.signed, IntKind.bits] at h
  exact ⟨by omega, by omega⟩
/-- A number that a point may have; a side that a torus may have. -/
def inC (c : Int) : Bool := decide (-1099511627776 ≤ c ∧ c ≤ 1099511627776)
def sideC (s : Int) : Bool := decide (1 ≤ s ∧ s ≤ 1099511627776)
def canC (x y : Int) : Bool := inC x && inC y
/-- Whether the point i sides to the right of x, y and k above can be. -/
def atC (x y i k s : Int) : Bool := sideC s && (canC x y && (inC (x + i * s) && inC (y + k * s)))
def homeC (x y s : Int) : Bool := sideC s && canC x y
/-- Which of two points stands ahead. -/
def cmpP (x y z t : Int) : Int := if x = z then cmpI y t else cmpI x z
theorem inC_true {c : Int} : inC c = true ↔ (-1099511627776 ≤ c ∧ c ≤ 1099511627776) := by unfold inC; exact decide_eq_true_iff
theorem inC_false {c : Int} : inC c = false ↔ ¬(-1099511627776 ≤ c ∧ c ≤ 1099511627776) := by unfold inC; exact decide_eq_false_iff_not
theorem sideC_true {s : Int} : sideC s = true ↔ (1 ≤ s ∧ s ≤ 1099511627776) := by unfold sideC; exact decide_eq_true_iff
theorem sideC_false {s : Int} : sideC s = false ↔ ¬(1 ≤ s ∧ s ≤ 1099511627776) := by unfold sideC; exact decide_eq_false_iff_not
theorem canC_true {x y : Int} : canC x y = true ↔ (inC x = true ∧ inC y = true) := by unfold canC; exact Bool.and_eq_true_iff
theorem atC_true {x y i k s : Int} : atC x y i k s = true ↔ (sideC s = true ∧ canC x y = true ∧ inC (x + i * s) = true ∧ inC (y + k * s) = true) := by unfold atC; rw [Bool.and_eq_true_iff, Bool.and_eq_true_iff, Bool.and_eq_true_iff]
/-- How many sides lie between the ends. -/
def reachC (i s : Int) : Bool := decide (-(2199023255552 / s) ≤ i ∧ i ≤ 2199023255552 / s)
theorem reach_prod {i s : Int} (hs : sideC s = true) (h : reachC i s = true) : -2199023255552 ≤ i * s ∧ i * s ≤ 2199023255552 := by
  obtain ⟨s1, s2⟩ := sideC_true.1 hs
  obtain ⟨h1, h2⟩ := decide_eq_true_iff.1 h
  have e := Int.mul_ediv_add_emod 2199023255552 s
  have m := Int.emod_nonneg 2199023255552 (b := s) (by omega)
  have p1 : i * s ≤ 2199023255552 / s * s := Int.mul_le_mul_of_nonneg_right h2 (by omega)
  have p2 : -(2199023255552 / s) * s ≤ i * s := Int.mul_le_mul_of_nonneg_right h1 (by omega)
  rw [Int.neg_mul] at p2
  rw [Int.mul_comm] at e
  exact ⟨by omega, by omega⟩
theorem reach_in {x i s : Int} (hs : sideC s = true) (hx : inC x = true) (h : inC (x + i * s) = true) : reachC i s = true := by
  obtain ⟨s1, s2⟩ := sideC_true.1 hs
  obtain ⟨x1, x2⟩ := inC_true.1 hx
  obtain ⟨h1, h2⟩ := inC_true.1 h
  refine decide_eq_true_iff.2 ⟨?_, ?_⟩
  · have : -i ≤ 2199023255552 / s := (Int.le_ediv_iff_mul_le (by omega)).2 (by rw [Int.neg_mul]; omega)
    omega
  · exact (Int.le_ediv_iff_mul_le (by omega)).2 (by omega)
theorem wrap_in {x : Int} (h1 : -9223372036854775808 ≤ x) (h2 : x ≤ 9223372036854775807) : wrap64 x = x := by unfold wrap64; omega
theorem wrap_i64 (x : Int) : IntKind.i64.wrap x = wrap64 x := by unfold wrap64; simp [IntKind.wrap, IntKind.signed, IntKind.bits]; try omega
theorem tdiv_big {s : Int} (hs : 0 < s) : (2199023255552 : Int).tdiv s = 2199023255552 / s := Int.tdiv_eq_ediv_of_nonneg (by decide)
/-- The quotient towards nought and its rest, mended. -/
theorem fold_neg {c s : Int} (hs : 0 < s) (h : c.tmod s < 0) : c.tmod s + s = c % s ∧ c.tdiv s - 1 = c / s := by
  have e := Int.mul_tdiv_add_tmod c s
  have l := Int.lt_tmod_of_pos c hs
  have u : (c.tdiv s - 1) = c / s := by
    refine ((Int.ediv_emod_unique hs (a := c) (r := c.tmod s + s) (q := c.tdiv s - 1)).2 ⟨?_, by omega, by omega⟩).1.symm
    rw [Int.mul_sub, Int.mul_one]; omega
  refine ⟨?_, u⟩
  exact ((Int.ediv_emod_unique hs (a := c) (r := c.tmod s + s) (q := c.tdiv s - 1)).2 ⟨by rw [Int.mul_sub, Int.mul_one]; omega, by omega, by omega⟩).2.symm
theorem fold_pos {c s : Int} (hs : 0 < s) (h : ¬ c.tmod s < 0) : c.tmod s = c % s ∧ c.tdiv s = c / s := by
  have e := Int.mul_tdiv_add_tmod c s
  have l := Int.tmod_lt_of_pos c hs
  have := (Int.ediv_emod_unique hs (a := c) (r := c.tmod s) (q := c.tdiv s)).2 ⟨by omega, by omega, by omega⟩
  exact ⟨this.2.symm, this.1.symm⟩
theorem flQ_ediv (x s : Int) (hs : 0 < s) : flQ x s = x / s ∧ flR x s = x % s := by
  obtain ⟨D, rfl⟩ := Int.eq_ofNat_of_zero_le (Int.le_of_lt hs)
  have hD : 0 < D := by omega
  have key : flQ x D * D ≤ x ∧ x < flQ x D * D + D := by
    have e := Nat.div_add_mod x.natAbs D
    have hr := Nat.mod_lt x.natAbs hD
    unfold flQ
    rw [Int.natAbs_natCast, Int.sign_natCast_of_ne_zero (by omega), Int.mul_one]
    generalize hq : x.natAbs / D = q at e ⊢
    generalize hm : x.natAbs % D = r at e hr ⊢
    have e2 : (x.natAbs : Int) = (q : Int) * D + r := by rw [← e, Nat.mul_comm]; simp
    clear hq hm e
    generalize hp : (q : Int) * D = p at e2
    rcases Int.lt_trichotomy x 0 with h | h | h
    · rw [Int.sign_eq_neg_one_of_neg h]
      by_cases h0 : r = 0
      · rw [if_neg (by omega), Int.sub_zero, Int.neg_mul, Int.one_mul, Int.neg_mul, hp]; omega
      · rw [if_pos (by omega), Int.sub_mul, Int.one_mul, Int.neg_mul, Int.one_mul, Int.neg_mul, hp]; omega
    · subst h; rw [Int.sign_zero, if_neg (by omega), Int.sub_zero, Int.zero_mul, Int.zero_mul]; omega
    · rw [Int.sign_eq_one_of_pos h, if_neg (by omega), Int.sub_zero, Int.one_mul, hp]; omega
  have := (Int.ediv_emod_unique hs (a := x) (r := flR x D) (q := flQ x D)).2 ⟨by unfold flR; rw [Int.mul_comm]; omega, by unfold flR; omega, by unfold flR; omega⟩
  exact ⟨this.1.symm, this.2.symm⟩
theorem cmpP_moved (x y z t a b : Int) : cmpP (x + a) (y + b) (z + a) (t + b) = cmpP x y z t := by
  unfold cmpP cmpI; split <;> split <;> (try split) <;> (try split) <;> (try split) <;> (try split) <;> omega
theorem cmpP_turn (x y z t : Int) : cmpP z t x y = -cmpP x y z t := by
  unfold cmpP cmpI; split <;> split <;> (try split) <;> (try split) <;> (try split) <;> (try split) <;> omega
theorem cmpP_small (x y z t : Int) : -1 ≤ cmpP x y z t ∧ cmpP x y z t ≤ 1 := by
  unfold cmpP cmpI; split <;> split <;> (try split) <;> omega
end Go.Proofs.Ytnemailhijkemaa

namespace Go.Proofs.Ytnemailhijkemaa
open Go.RowKit
set_option linter.unusedVariables false

/-- Twice a triangle's area: (b - a) across (c - a). -/
def areaP (ax ay bx by' cx cy : Int) : Int := (bx - ax) * (cy - ay) - (by' - ay) * (cx - ax)
def distP (ax ay bx by' : Int) : Int := (bx - ax) * (bx - ax) + (by' - ay) * (by' - ay)
/-- The determinant whose rows are p - d and its square, of p being a, b and c. -/
def detP (ax ay bx by' cx cy dx dy : Int) : Int :=
  distP ax ay dx dy * ((bx - dx) * (cy - dy) - (by' - dy) * (cx - dx)) - distP bx by' dx dy * ((ax - dx) * (cy - dy) - (ay - dy) * (cx - dx)) + distP cx cy dx dy * ((ax - dx) * (by' - dy) - (ay - dy) * (bx - dx))
theorem area_turn (ax ay bx by' cx cy : Int) : areaP bx by' cx cy ax ay = areaP ax ay bx by' cx cy := by unfold areaP; grind
theorem area_swap (ax ay bx by' cx cy : Int) : areaP bx by' ax ay cx cy = -areaP ax ay bx by' cx cy := by unfold areaP; grind
theorem det_swap (ax ay bx by' cx cy dx dy : Int) : detP bx by' ax ay cx cy dx dy = -detP ax ay bx by' cx cy dx dy := by unfold detP distP; grind
theorem det_turn (ax ay bx by' cx cy dx dy : Int) : detP bx by' cx cy ax ay dx dy = detP ax ay bx by' cx cy dx dy := by unfold detP distP; grind
theorem det_last (ax ay bx by' cx cy dx dy : Int) : detP ax ay bx by' dx dy cx cy = -detP ax ay bx by' cx cy dx dy := by unfold detP distP; grind
theorem det_first (ax ay bx by' cx cy dx dy : Int) : detP dx dy bx by' cx cy ax ay = -detP ax ay bx by' cx cy dx dy := by unfold detP distP; grind
theorem area_moved (ax ay bx by' cx cy u v : Int) : areaP (ax + u) (ay + v) (bx + u) (by' + v) (cx + u) (cy + v) = areaP ax ay bx by' cx cy := by
  unfold areaP; rw [Int.add_sub_add_right, Int.add_sub_add_right, Int.add_sub_add_right, Int.add_sub_add_right]
theorem dist_moved (ax ay bx by' u v : Int) : distP (ax + u) (ay + v) (bx + u) (by' + v) = distP ax ay bx by' := by
  unfold distP; rw [Int.add_sub_add_right, Int.add_sub_add_right]
theorem det_moved (ax ay bx by' cx cy dx dy u v : Int) : detP (ax + u) (ay + v) (bx + u) (by' + v) (cx + u) (cy + v) (dx + u) (dy + v) = detP ax ay bx by' cx cy dx dy := by
  unfold detP; rw [dist_moved, dist_moved, dist_moved]; simp only [Int.add_sub_add_right]
/-- The determinant by areas about d, and by areas of the whole triangles. -/
theorem det_areas (ax ay bx by' cx cy dx dy : Int) : detP ax ay bx by' cx cy dx dy = distP ax ay dx dy * areaP dx dy bx by' cx cy - distP bx by' dx dy * areaP dx dy ax ay cx cy + distP cx cy dx dy * areaP dx dy ax ay bx by' := by
  unfold detP areaP; rfl
theorem dist_turn (ax ay bx by' : Int) : distP ax ay bx by' = distP bx by' ax ay := by unfold distP; grind
theorem prod_abs {x y : Int} {A B : Nat} (hx : x.natAbs ≤ A) (hy : y.natAbs ≤ B) : (x * y).natAbs ≤ A * B := by
  rw [Int.natAbs_mul]; exact Nat.mul_le_mul hx hy
/-- How great they are, of points that differ by at most D. -/
theorem cross_abs {p q r s : Int} {D : Nat} (h1 : p.natAbs ≤ D) (h2 : q.natAbs ≤ D) (h3 : r.natAbs ≤ D) (h4 : s.natAbs ≤ D) : (p * q - r * s).natAbs ≤ 2 * (D * D) := by
  have a := prod_abs h1 h2
  have b := prod_abs h3 h4
  omega
theorem dist_abs {ax ay bx by' : Int} {D : Nat} (h1 : (bx - ax).natAbs ≤ D) (h2 : (by' - ay).natAbs ≤ D) : (distP ax ay bx by').natAbs ≤ 2 * (D * D) := by
  have a := prod_abs h1 h1
  have b := prod_abs h2 h2
  unfold distP
  omega
theorem area_abs {ax ay bx by' cx cy : Int} {D : Nat} (h1 : (bx - ax).natAbs ≤ D) (h2 : (by' - ay).natAbs ≤ D) (h3 : (cx - ax).natAbs ≤ D) (h4 : (cy - ay).natAbs ≤ D) : (areaP ax ay bx by' cx cy).natAbs ≤ 2 * (D * D) := cross_abs h1 h4 h2 h3
theorem det_abs {ax ay bx by' cx cy dx dy : Int} {D : Nat} (a1 : (ax - dx).natAbs ≤ D) (a2 : (ay - dy).natAbs ≤ D) (b1 : (bx - dx).natAbs ≤ D) (b2 : (by' - dy).natAbs ≤ D) (c1 : (cx - dx).natAbs ≤ D) (c2 : (cy - dy).natAbs ≤ D) :
    (detP ax ay bx by' cx cy dx dy).natAbs ≤ 3 * (2 * (D * D) * (2 * (D * D))) := by
  have A := prod_abs (dist_abs (ax := ax) (ay := ay) (bx := dx) (by' := dy) (D := D) (by omega) (by omega)) (cross_abs b1 c2 b2 c1)
  have B := prod_abs (dist_abs (ax := bx) (ay := by') (bx := dx) (by' := dy) (D := D) (by omega) (by omega)) (cross_abs a1 c2 a2 c1)
  have C := prod_abs (dist_abs (ax := cx) (ay := cy) (bx := dx) (by' := dy) (D := D) (by omega) (by omega)) (cross_abs a1 b2 a2 b1)
  unfold detP
  generalize 2 * (D * D) * (2 * (D * D)) = M at *
  omega
theorem dist_nonneg (ax ay bx by' : Int) : 0 ≤ distP ax ay bx by' := by
  unfold distP
  have a : 0 ≤ (bx - ax) * (bx - ax) := by rw [← Int.natAbs_mul_self]; exact Int.natCast_nonneg _
  have b : 0 ≤ (by' - ay) * (by' - ay) := by rw [← Int.natAbs_mul_self]; exact Int.natCast_nonneg _
  omega
/-- Points that can be differ by at most 2^41. -/
theorem can_diff {x y : Int} (hx : inC x = true) (hy : inC y = true) : (x - y).natAbs ≤ 2199023255552 := by
  have := inC_true.1 hx
  have := inC_true.1 hy
  omega
/-- The sign as it is told. -/
theorem cmp_sign (x : Int) : cmpI x 0 = x.sign := by
  unfold cmpI
  rcases Int.lt_trichotomy x 0 with h | h | h
  · rw [if_pos h, Int.sign_eq_neg_one_of_neg h]
  · subst h; rfl
  · rw [if_neg (by omega), if_pos h, Int.sign_eq_one_of_pos h]
/-- Where a point lies, of the signs of the triangle and of the three that it makes. -/
def whereP (o x y z : Int) : Int := if o ≠ 1 then 0 else if x < 0 ∨ y < 0 ∨ z < 0 then -1 else if x = 0 ∨ y = 0 ∨ z = 0 then 1 else 2
end Go.Proofs.Ytnemailhijkemaa

namespace Go.Proofs.Ytnemailhijkemaa
open Go.RowKit
set_option linter.unusedVariables false

abbrev Pt := Int × Int
def arQ (a b c : Pt) : Int := areaP a.1 a.2 b.1 b.2 c.1 c.2
def deQ (a b c d : Pt) : Int := detP a.1 a.2 b.1 b.2 c.1 c.2 d.1 d.2
/-- p stands ahead of q. -/
def ltQ (p q : Pt) : Bool := decide (p.1 < q.1 ∨ (p.1 = q.1 ∧ p.2 < q.2))
/-- p stands behind the three others. -/
def lastQ (p a b c : Pt) : Bool := ltQ a p && (ltQ b p && ltQ c p)
/-- Four points on a circle: whether d does away with a, b, c. -/
def tieQ (a b c d : Pt) : Bool := if lastQ d a b c then false else if lastQ c a b d then decide (0 < arQ a b d) else if lastQ b a c d then decide (0 < arQ a d c) else decide (0 < arQ d b c)
/-- Whether d does away with a, b, c, of points that can be, a, b, c turning left and d none of them. -/
def cirQ (a b c d : Pt) : Bool := if deQ a b c d = 0 then tieQ a b c d else decide (0 < deQ a b c d)
theorem lt_iff {p q : Pt} : ltQ p q = true ↔ (p.1 < q.1 ∨ (p.1 = q.1 ∧ p.2 < q.2)) := by unfold ltQ; exact decide_eq_true_iff
theorem lt_no {p q : Pt} : ltQ p q = false ↔ ¬(p.1 < q.1 ∨ (p.1 = q.1 ∧ p.2 < q.2)) := by unfold ltQ; exact decide_eq_false_iff_not
theorem pt_ne {p q : Pt} (h : p ≠ q) : p.1 ≠ q.1 ∨ p.2 ≠ q.2 := by
  rcases Decidable.em (p.1 = q.1) with h1 | h1
  · exact Or.inr fun h2 => h (Prod.ext h1 h2)
  · exact Or.inl h1
theorem lt_tri {p q : Pt} (h : p ≠ q) : (ltQ p q = true ∧ ltQ q p = false) ∨ (ltQ q p = true ∧ ltQ p q = false) := by
  have := pt_ne h
  rw [lt_iff, lt_no, lt_iff, lt_no]
  omega
theorem lt_trans {p q r : Pt} (h : ltQ p q = true) (k : ltQ q r = true) : ltQ p r = true := by
  rw [lt_iff] at *
  omega
theorem lt_irr (p : Pt) : ltQ p p = false := by rw [lt_no]; omega
theorem lt_anti {p q : Pt} (h : ltQ p q = true) : ltQ q p = false := by rw [lt_iff] at h; rw [lt_no]; omega
theorem last_iff {p a b c : Pt} : lastQ p a b c = true ↔ (ltQ a p = true ∧ ltQ b p = true ∧ ltQ c p = true) := by unfold lastQ; rw [Bool.and_eq_true_iff, Bool.and_eq_true_iff]
theorem cmp_last (x y z t : Int) : decide (0 < cmpP x y z t) = ltQ (z, t) (x, y) := by
  unfold cmpP cmpI ltQ
  rw [decide_eq_decide]
  dsimp only
  split
  · split
    · constructor <;> intro h <;> omega
    · split <;> constructor <;> intro h <;> omega
  · split
    · constructor <;> intro h <;> omega
    · split <;> constructor <;> intro h <;> omega
theorem last6 {p x y z : Pt} (h1 : ltQ x p = true) (h2 : ltQ y p = true) (h3 : ltQ z p = true) : ltQ x p = true ∧ ltQ y p = true ∧ ltQ z p = true ∧ ltQ p x = false ∧ ltQ p y = false ∧ ltQ p z = false := ⟨h1, h2, h3, lt_anti h1, lt_anti h2, lt_anti h3⟩
/-- Of four points just one stands last. -/
theorem one_last {a b c d : Pt} (ab : a ≠ b) (ac : a ≠ c) (bc : b ≠ c) (da : d ≠ a) (db : d ≠ b) (dc : d ≠ c) :
    (ltQ a d = true ∧ ltQ b d = true ∧ ltQ c d = true ∧ ltQ d a = false ∧ ltQ d b = false ∧ ltQ d c = false) ∨
    (ltQ a c = true ∧ ltQ b c = true ∧ ltQ d c = true ∧ ltQ c a = false ∧ ltQ c b = false ∧ ltQ c d = false) ∨
    (ltQ a b = true ∧ ltQ c b = true ∧ ltQ d b = true ∧ ltQ b a = false ∧ ltQ b c = false ∧ ltQ b d = false) ∨
    (ltQ b a = true ∧ ltQ c a = true ∧ ltQ d a = true ∧ ltQ a b = false ∧ ltQ a c = false ∧ ltQ a d = false) := by
  rcases lt_tri ab with ⟨x, _⟩ | ⟨x, _⟩ <;> rcases lt_tri dc with ⟨y, _⟩ | ⟨y, _⟩
  · rcases lt_tri bc with ⟨z, _⟩ | ⟨z, _⟩
    · exact Or.inr (Or.inl (last6 (lt_trans x z) z y))
    · exact Or.inr (Or.inr (Or.inl (last6 x z (lt_trans y z))))
  · rcases lt_tri db with ⟨z, _⟩ | ⟨z, _⟩
    · exact Or.inr (Or.inr (Or.inl (last6 x (lt_trans y z) z)))
    · exact Or.inl (last6 (lt_trans x z) z y)
  · rcases lt_tri ac with ⟨z, _⟩ | ⟨z, _⟩
    · exact Or.inr (Or.inl (last6 z (lt_trans x z) y))
    · exact Or.inr (Or.inr (Or.inr (last6 x z (lt_trans y z))))
  · rcases lt_tri da with ⟨z, _⟩ | ⟨z, _⟩
    · exact Or.inr (Or.inr (Or.inr (last6 x (lt_trans y z) z)))
    · exact Or.inl (last6 z (lt_trans x z) y)
theorem ar_turnQ (a b c : Pt) : arQ b c a = arQ a b c := area_turn _ _ _ _ _ _
theorem ar_swapQ (a b c : Pt) : arQ b a c = -arQ a b c := area_swap _ _ _ _ _ _
theorem de_turnQ (a b c d : Pt) : deQ b c a d = deQ a b c d := det_turn _ _ _ _ _ _ _ _
theorem de_swapQ (a b c d : Pt) : deQ b a c d = -deQ a b c d := det_swap _ _ _ _ _ _ _ _
theorem de_lastQ (a b c d : Pt) : deQ a b d c = -deQ a b c d := det_last _ _ _ _ _ _ _ _
theorem de_firstQ (a b c d : Pt) : deQ d b c a = -deQ a b c d := det_first _ _ _ _ _ _ _ _
theorem ar_ne {a b c : Pt} (h : 0 < arQ a b c) : a ≠ b ∧ a ≠ c ∧ b ≠ c := by
  refine ⟨?_, ?_, ?_⟩ <;> rintro rfl <;> unfold arQ areaP at h <;> grind
theorem tie_turn {a b c d : Pt} (h : 0 < arQ a b c) (da : d ≠ a) (db : d ≠ b) (dc : d ≠ c) : tieQ b c a d = tieQ a b c d := by
  obtain ⟨ab, ac, bc⟩ := ar_ne h
  have e1 : arQ b d a = arQ a b d := ar_turnQ a b d
  have e2 : arQ d c a = arQ a d c := ar_turnQ a d c
  have e3 : arQ b c d = arQ d b c := ar_turnQ d b c
  unfold tieQ lastQ
  rw [e1, e2, e3]
  rcases one_last ab ac bc da db dc with ⟨h1, h2, h3, h4, h5, h6⟩ | ⟨h1, h2, h3, h4, h5, h6⟩ | ⟨h1, h2, h3, h4, h5, h6⟩ | ⟨h1, h2, h3, h4, h5, h6⟩ <;> simp [h1, h2, h3, h4, h5, h6]
theorem cir_turn {a b c d : Pt} (h : 0 < arQ a b c) (da : d ≠ a) (db : d ≠ b) (dc : d ≠ c) : cirQ b c a d = cirQ a b c d := by
  unfold cirQ; rw [de_turnQ, tie_turn h da db dc]
/-- One of two: four points that turn left all the way. -/
theorem tie_diag {a b c d : Pt} (h1 : 0 < arQ a b c) (h2 : 0 < arQ b c d) (h3 : 0 < arQ c d a) (h4 : 0 < arQ d a b) : tieQ c d a b = tieQ a b c d ∧ tieQ b c d a = !tieQ a b c d ∧ tieQ d a b c = !tieQ a b c d := by
  obtain ⟨ab, ac, bc⟩ := ar_ne h1
  obtain ⟨_, bd, cd⟩ := ar_ne h2
  obtain ⟨_, _, da⟩ := ar_ne h3
  have e : ∀ x y z : Pt, arQ y z x = arQ x y z := ar_turnQ
  have s : ∀ x y z : Pt, arQ y x z = -arQ x y z := ar_swapQ
  have a1 : arQ b c a = arQ a b c := e a b c
  have a2 : arQ c a b = arQ a b c := by rw [e b c a, e a b c]
  have a3 : arQ c b a = -arQ a b c := by rw [s b c a, e a b c]
  have b1 : arQ c d b = arQ b c d := e b c d
  have b2 : arQ d b c = arQ b c d := by rw [e c d b, b1]
  have b3 : arQ d c b = -arQ b c d := by rw [s c d b, b1]
  have c1 : arQ d a c = arQ c d a := e c d a
  have c2 : arQ a c d = arQ c d a := by rw [e d a c, c1]
  have c3 : arQ a d c = -arQ c d a := by rw [s d a c, c1]
  have d1 : arQ a b d = arQ d a b := e d a b
  have d2 : arQ b d a = arQ d a b := by rw [e a b d, d1]
  have d3 : arQ b a d = -arQ d a b := by rw [s a b d, d1]
  have n1 : ¬ 0 < -arQ a b c := by omega
  have n2 : ¬ 0 < -arQ b c d := by omega
  have n3 : ¬ 0 < -arQ c d a := by omega
  have n4 : ¬ 0 < -arQ d a b := by omega
  unfold tieQ lastQ
  rcases one_last ab ac bc da (Ne.symm bd) (Ne.symm cd) with ⟨g1, g2, g3, g4, g5, g6⟩ | ⟨g1, g2, g3, g4, g5, g6⟩ | ⟨g1, g2, g3, g4, g5, g6⟩ | ⟨g1, g2, g3, g4, g5, g6⟩ <;> simp only [g1, g2, g3, g4, g5, g6, a1, a2, a3, b1, b2, b3, c1, c2, c3, d1, d2, d3, h1, h2, h3, h4, n1, n2, n3, n4, Bool.and_true, Bool.and_false, Bool.false_and, if_true, if_false, decide_true, decide_false, Bool.false_eq_true, Bool.not_true, Bool.not_false, and_self]
theorem cir_diag {a b c d : Pt} (h1 : 0 < arQ a b c) (h2 : 0 < arQ b c d) (h3 : 0 < arQ c d a) (h4 : 0 < arQ d a b) : cirQ c d a b = cirQ a b c d ∧ cirQ b c d a = !cirQ a b c d ∧ cirQ d a b c = !cirQ a b c d := by
  obtain ⟨t1, t2, t3⟩ := tie_diag h1 h2 h3 h4
  have t : ∀ x y z u : Pt, deQ y z u x = -deQ x y z u := fun x y z u => (de_turnQ u y z x).trans (de_firstQ x y z u)
  have k1 : deQ b c d a = -deQ a b c d := t a b c d
  have k2 : deQ c d a b = deQ a b c d := by rw [t b c d a, k1, Int.neg_neg]
  have k3 : deQ d a b c = -deQ a b c d := by rw [t c d a b, k2]
  unfold cirQ
  rw [k1, k2, k3, t1, t2, t3]
  rcases Int.lt_trichotomy (deQ a b c d) 0 with h | h | h
  · have q1 : ¬ deQ a b c d = 0 := by omega
    have q2 : ¬ -deQ a b c d = 0 := by omega
    have q3 : ¬ 0 < deQ a b c d := by omega
    have q4 : 0 < -deQ a b c d := by omega
    simp only [if_neg q1, if_neg q2, decide_eq_false q3, decide_eq_true q4, Bool.not_false, and_self]
  · simp [h]
  · have q1 : ¬ deQ a b c d = 0 := by omega
    have q2 : ¬ -deQ a b c d = 0 := by omega
    have q3 : ¬ 0 < -deQ a b c d := by omega
    simp only [if_neg q1, if_neg q2, decide_eq_false q3, decide_eq_true h, Bool.not_true, and_self]
/-- Moved alike. -/
def mvQ (s p : Pt) : Pt := (p.1 + s.1, p.2 + s.2)
theorem lt_mv (s p q : Pt) : ltQ (mvQ s p) (mvQ s q) = ltQ p q := by unfold ltQ mvQ; rw [decide_eq_decide]; dsimp only; omega
theorem ar_mv (s a b c : Pt) : arQ (mvQ s a) (mvQ s b) (mvQ s c) = arQ a b c := area_moved _ _ _ _ _ _ _ _
theorem de_mv (s a b c d : Pt) : deQ (mvQ s a) (mvQ s b) (mvQ s c) (mvQ s d) = deQ a b c d := det_moved _ _ _ _ _ _ _ _ _ _
theorem cir_mv (s a b c d : Pt) : cirQ (mvQ s a) (mvQ s b) (mvQ s c) (mvQ s d) = cirQ a b c d := by
  unfold cirQ tieQ lastQ; simp only [lt_mv, ar_mv, de_mv]
end Go.Proofs.Ytnemailhijkemaa
