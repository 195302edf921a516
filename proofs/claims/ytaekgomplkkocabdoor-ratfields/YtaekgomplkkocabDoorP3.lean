/-
  Joined texts, part 3:
  Decimal digits of numbers of any length, and bytes of texts as numbers. It imports nothing of the program.
  Numbers as digits to the base 1000000000: which digits a sum, a difference, a product has. It imports nothing of the program.
  How many digits a number needs, to the base 1000000000, and its digits without noughts at the end. It imports nothing of the program.
  What nat's piecesOf answers.
  strings.TrimLeft at the cutset "0".
  What nat's Show answers.
  What nat answers, with letters for the lengths: the contracts of the other texts, said once more for those who call nat.
  Slices apart from a block, so that what is stored there leaves them as they are; and what nat answers, apart from all that was there before.
  Whole numbers in memory; what package whole's signed and plus answer.
  What package whole's Add, Sub, Neg, Norm and Mul answer.
  What package whole's Of, Sign and Show answer.
-/
import Derived.Test.YtaekgomplkkocabDoorP2
import Derived.WalkKit
import Derived.Laws.BytesArg
import Derived.Test.YtaekgomplkkocabDoorP1
import Derived.Deep.AppendLies
import Derived.Lib.IndexBytes
import Derived.Deep.RegionHeld3
namespace Go.Proofs.YtaekgomplkkocabDoor

/-- A text's bytes, as numbers. -/
def nums (s : ByteArray) : List Int := s.data.toList.map fun b => (b.toNat : Int)
theorem nums_length (s : ByteArray) : (nums s).length = s.size := by unfold nums; rw [List.length_map]; rfl
theorem nums_range (s : ByteArray) : ∀ c ∈ nums s, 0 ≤ c ∧ c < 256 := by
  intro c hc
  unfold nums at hc
  rw [List.mem_map] at hc
  obtain ⟨b, _, rfl⟩ := hc
  have := b.toNat_lt
  omega
theorem nums_at (s : ByteArray) (k : Nat) (h : k < s.size) : (nums s)[k]? = some ((s[k]).toNat : Int) := by
  have hk : k < s.data.toList.length := by simpa using h
  unfold nums
  rw [List.getElem?_map, List.getElem?_eq_getElem hk]
  rfl
theorem nums_take (s : ByteArray) (k : Nat) (h : k < s.size) : (nums s).take (k + 1) = (nums s).take k ++ [((s[k]).toNat : Int)] := by
  rw [List.take_add_one, nums_at s k h]; rfl
theorem nums_drop (s : ByteArray) (k : Nat) (h : k < s.size) : (nums s).drop k = ((s[k]).toNat : Int) :: (nums s).drop (k + 1) := by
  have hk : k < (nums s).length := by rw [nums_length]; exact h
  rw [List.drop_eq_getElem_cons hk]
  congr 1
  have := nums_at s k h
  rw [List.getElem?_eq_getElem hk] at this
  simpa using this
theorem nums_tail (s : ByteArray) : nums (s.extract 1 s.size) = (nums s).drop 1 := by
  unfold nums
  rw [← List.map_drop]
  congr 1
  simp [ByteArray.data_extract]
  rw [List.take_of_length_le (by simp)]
theorem nums_cons (s : ByteArray) (h0 : 0 < s.size) : nums s = (s[0].toNat : Int) :: nums (s.extract 1 s.size) := by
  have := nums_drop s 0 h0
  rw [List.drop_zero] at this
  rw [nums_tail]
  exact this
theorem str_nums (s : ByteArray) : strOfNums (nums s) = s := by
  unfold nums strOfNums
  apply ByteArray.ext
  simp only [List.map_map]
  have : (fun b : UInt8 => UInt8.ofNat ((b.toNat : Int)).toNat) = id := by funext b; simp
  show (List.map ((fun n => UInt8.ofNat n.toNat) ∘ fun b => (b.toNat : Int)) s.data.toList).toArray = s.data
  rw [show ((fun n : Int => UInt8.ofNat n.toNat) ∘ fun b : UInt8 => (b.toNat : Int)) = id from this]
  simp
theorem nums_str (l : List Int) (h : ∀ c ∈ l, 0 ≤ c ∧ c < 256) : nums (strOfNums l) = l := by
  unfold nums strOfNums
  simp only [List.map_map]
  conv => rhs; rw [← List.map_id l]
  refine List.map_congr_left fun c hc => ?_
  obtain ⟨a, b⟩ := h c hc
  simp only [Function.comp_apply, id]
  rw [UInt8.toNat_ofNat']
  omega
theorem strOfNums_append (a b : List Int) : strOfNums a ++ strOfNums b = strOfNums (a ++ b) := by
  apply ByteArray.ext
  rw [ByteArray.data_append]
  simp [strOfNums]

/-- The last k decimal digits of m, as bytes, the highest first. -/
def digs : Nat → Nat → List Int
  | 0, _ => []
  | k + 1, m => (48 + (m / 10 ^ k % 10 : Nat) : Int) :: digs k m
theorem digs_length (k m : Nat) : (digs k m).length = k := by induction k with | zero => rfl | succ k ih => simp [digs, ih]
theorem digs_snoc (k m : Nat) : digs (k + 1) m = digs k (m / 10) ++ [(48 + (m % 10 : Nat) : Int)] := by
  induction k with
  | zero => simp [digs]
  | succ k ih => rw [digs, ih, digs, List.cons_append, Nat.div_div_eq_div_mul, Nat.pow_succ, Nat.mul_comm 10]
theorem digs_bytes (k m : Nat) : ∀ c ∈ digs k m, 48 ≤ c ∧ c ≤ 57 := by
  induction k with
  | zero => intro c hc; simp [digs] at hc
  | succ k ih =>
    intro c hc
    rw [digs, List.mem_cons] at hc
    rcases hc with rfl | hc
    · have := Nat.mod_lt (m / 10 ^ k) (show 0 < 10 by decide); omega
    · exact ih c hc
/-- m has k digits: nought has one. -/
def IsDec (m k : Nat) : Prop := 1 ≤ k ∧ m < 10 ^ k ∧ (k = 1 ∨ 10 ^ (k - 1) ≤ m)
theorem isDec_one {m k k' : Nat} (h : IsDec m k) (h' : IsDec m k') : k = k' := by
  obtain ⟨a, b, c⟩ := h
  obtain ⟨a', b', c'⟩ := h'
  rcases Nat.lt_trichotomy k k' with e | e | e
  · rcases c' with c' | c'
    · omega
    · have := Nat.pow_le_pow_right (n := 10) (by decide) (show k ≤ k' - 1 by omega)
      omega
  · exact e
  · rcases c with c | c
    · omega
    · have := Nat.pow_le_pow_right (n := 10) (by decide) (show k' ≤ k - 1 by omega)
      omega
def dlenF : Nat → Nat → Nat
  | 0, _ => 1
  | f + 1, m => if m < 10 then 1 else dlenF f (m / 10) + 1
/-- How many decimal digits m has. -/
def dlen (m : Nat) : Nat := dlenF m m
theorem isDec_dlenF : ∀ f m : Nat, m < 10 ^ (f + 1) → IsDec m (dlenF f m)
  | 0, m, h => ⟨Nat.le_refl _, h, Or.inl rfl⟩
  | f + 1, m, h => by
    unfold dlenF
    by_cases hm : m < 10
    · rw [if_pos hm]; exact ⟨Nat.le_refl _, hm, Or.inl rfl⟩
    · rw [if_neg hm]
      obtain ⟨a, b, c⟩ := isDec_dlenF f (m / 10) (by rw [Nat.pow_succ] at h; omega)
      refine ⟨by omega, ?_, Or.inr ?_⟩
      · rw [Nat.pow_succ]; omega
      · rcases c with c | c
        · rw [c]; simp; omega
        · have e : dlenF f (m / 10) + 1 - 1 = dlenF f (m / 10) - 1 + 1 := by omega
          rw [e, Nat.pow_succ]; omega
theorem isDec_dlen (m : Nat) : IsDec m (dlen m) := isDec_dlenF m m (Nat.lt_of_lt_of_le (Nat.lt_pow_self (by decide)) (Nat.pow_le_pow_right (by decide) (by omega)))
theorem dlen_eq {m k : Nat} (h : IsDec m k) : dlen m = k := isDec_one (isDec_dlen m) h
/-- The text of a number. -/
def decS (m : Nat) : ByteArray := strOfNums (digs (dlen m) m)
theorem decS_nums (m : Nat) : nums (decS m) = digs (dlen m) m := nums_str _ fun c hc => by have := digs_bytes _ _ c hc; omega
theorem decS_size (m : Nat) : (decS m).size = dlen m := by rw [← nums_length, decS_nums, digs_length]
/-- Noughts ahead are dropped. -/
theorem digs_zero (k m : Nat) (h : m < 10 ^ k) : digs (k + 1) m = 48 :: digs k m := by
  rw [digs, Nat.div_eq_of_lt h]; rfl
theorem digs_drop : ∀ (j k m : Nat), 0 < m → IsDec m k → (digs (k + j) m).dropWhile (· == 48) = digs k m
  | 0, k, m, hm, h => by
    rw [Nat.add_zero]
    obtain ⟨h1, h2, h3⟩ := h
    rcases k with _ | k
    · omega
    · rw [digs]
      have hl : 10 ^ k ≤ m := by
        rcases h3 with h3 | h3
        · have : k = 0 := by omega
          subst this; simp; omega
        · simpa using h3
      have h4 : 1 ≤ m / 10 ^ k := (Nat.one_le_div_iff (Nat.pow_pos (by decide))).2 hl
      have h5 : m / 10 ^ k < 10 := by rw [Nat.pow_succ] at h2; exact Nat.div_lt_of_lt_mul h2
      have h6 : ((48 + ((m / 10 ^ k % 10 : Nat) : Int)) == 48) = false := by
        rw [Nat.mod_eq_of_lt h5]
        generalize m / 10 ^ k = c at h4
        rw [beq_eq_false_iff_ne]
        omega
      rw [List.dropWhile_cons, h6]; simp
  | j + 1, k, m, hm, h => by
    have h2 := h.2.1
    have : m < 10 ^ (k + j) := Nat.lt_of_lt_of_le h2 (Nat.pow_le_pow_right (by decide) (by omega))
    rw [show k + (j + 1) = (k + j) + 1 by omega, digs_zero _ _ this, List.dropWhile_cons]
    simp only [beq_self_eq_true, if_true]
    exact digs_drop j k m hm h
end Go.Proofs.YtaekgomplkkocabDoor

namespace Go.Proofs.YtaekgomplkkocabDoor.pc
open Go.RowKit

/-- Digit i of v, to the base 1000000000 (of a number below nought: of v modulo as many digits as you like). -/
def dg (v : Int) (i : Nat) : Int := v / 1000000000 ^ i % 1000000000
theorem dg_range (v : Int) (i : Nat) : 0 ≤ dg v i ∧ dg v i < 1000000000 := by unfold dg; omega
theorem p256 (i : Nat) : (0 : Int) < 1000000000 ^ i := Int.pow_pos (by decide)
/-- n digits: at the places that p names those of u, at the others those of v. -/
def fill (n : Nat) (p : Nat → Bool) (u v : Int) : List Value := (List.range n).map fun j => .int .u32 (if p j then dg u j else dg v j)
def dcells (n : Nat) (v : Int) : List Value := (List.range n).map fun j => .int .u32 (dg v j)
def mix (n i : Nat) (u v : Int) : List Value := fill n (fun j => decide (j < i)) u v
theorem fill_length (n : Nat) (p : Nat → Bool) (u v : Int) : (fill n p u v).length = n := by simp [fill]
theorem mix_length (n i : Nat) (u v : Int) : (mix n i u v).length = n := fill_length _ _ _ _
theorem dcells_length (n : Nat) (v : Int) : (dcells n v).length = n := by simp [dcells]
theorem dcells_at (n : Nat) (v : Int) (i : Nat) (h : i < n) : (dcells n v)[i]? = some (.int .u32 (dg v i)) := by simp [dcells, h]
theorem fill_at (n : Nat) (p : Nat → Bool) (u v : Int) (i : Nat) (h : i < n) : (fill n p u v)[i]? = some (.int .u32 (if p i then dg u i else dg v i)) := by simp [fill, h]
theorem mix_at (n k : Nat) (u v : Int) (i : Nat) (h : i < n) (hk : k ≤ i) : (mix n k u v)[i]? = some (.int .u32 (dg v i)) := by
  rw [mix, fill_at _ _ _ _ _ h]; simp; omega
theorem fill_congr {n : Nat} {p q : Nat → Bool} {u v u' v' : Int} (h : ∀ j, j < n → (if p j then dg u j else dg v j) = (if q j then dg u' j else dg v' j)) : fill n p u v = fill n q u' v' := by
  unfold fill
  refine List.map_congr_left fun j hj => ?_
  rw [h j (by simpa using hj)]
theorem fill_set (n : Nat) (p : Nat → Bool) (u v : Int) (i : Nat) : (fill n p u v).set i (.int .u32 (dg u i)) = fill n (fun j => p j || j == i) u v := by
  refine List.ext_getElem? fun j => ?_
  rw [List.getElem?_set]
  by_cases e : i = j
  · subst e
    by_cases h : i < n
    · rw [if_pos rfl, if_pos (by rw [fill_length]; exact h), fill_at _ _ _ _ _ h]; simp
    · rw [if_pos rfl, if_neg (by rw [fill_length]; exact h), List.getElem?_eq_none (by rw [fill_length]; omega)]
  · by_cases h : j < n
    · rw [if_neg e, fill_at _ _ _ _ _ h, fill_at _ _ _ _ _ h]
      have e' : (j == i) = false := by simp; omega
      simp [e']
    · rw [if_neg e, List.getElem?_eq_none (by simp [fill_length]; omega), List.getElem?_eq_none (by simp [fill_length]; omega)]
theorem mix_set (n i : Nat) (u v : Int) : (mix n i u v).set i (.int .u32 (dg u i)) = mix n (i + 1) u v := by
  unfold mix
  rw [fill_set]
  refine fill_congr fun j _ => ?_
  have : (decide (j < i) || j == i) = decide (j < i + 1) := by rw [Bool.eq_iff_iff]; simp; omega
  rw [this]
theorem mix_zero (n : Nat) (u v : Int) : mix n 0 u v = dcells n v := by unfold mix fill dcells; simp
theorem mix_full (n : Nat) (u v : Int) : mix n n u v = dcells n u := by
  unfold mix fill dcells
  refine List.map_congr_left fun j hj => ?_
  have : j < n := by simpa using hj
  simp [this]
/-- The digits of two numbers that are the same modulo 1000000000^i are the same below place i. -/
theorem dg_congr {u v : Int} {i j : Nat} (t : Int) (h : u = v + t * 1000000000 ^ i) (hj : j < i) : dg u j = dg v j := by
  unfold dg
  obtain ⟨d, rfl⟩ : ∃ d, i = j + 1 + d := ⟨i - (j + 1), by omega⟩
  have e : t * (1000000000 : Int) ^ (j + 1 + d) = (1000000000 * (t * 1000000000 ^ d)) * 1000000000 ^ j := by
    rw [show j + 1 + d = d + 1 + j by omega, Int.pow_add, Int.pow_succ, ← Int.mul_assoc, ← Int.mul_assoc, Int.mul_comm (t * 1000000000 ^ d) 1000000000]
  rw [h, e, Int.add_mul_ediv_right _ _ (Int.ne_of_gt (p256 j))]
  omega
theorem dcells_congr {n : Nat} {u v : Int} (t : Int) (h : u = v + t * 1000000000 ^ n) : dcells n u = dcells n v := by
  unfold dcells
  refine List.map_congr_left fun j hj => ?_
  rw [dg_congr t h (by simpa using hj)]
/-- The carry into place i when x and y are added. -/
def carry (x y : Int) (i : Nat) : Int := (x % 1000000000 ^ i + y % 1000000000 ^ i) / 1000000000 ^ i
theorem carry_zero (x y : Int) : carry x y 0 = 0 := by simp [carry]
theorem emod_succ (x : Int) (i : Nat) : x % 1000000000 ^ (i + 1) = dg x i * 1000000000 ^ i + x % 1000000000 ^ i := by
  unfold dg
  have hp := p256 i
  have h1 := Int.mul_ediv_add_emod x (1000000000 ^ i)
  have h2 := Int.mul_ediv_add_emod (x / 1000000000 ^ i) 1000000000
  have b := Int.emod_nonneg x (Int.ne_of_gt hp)
  have b' := Int.emod_lt_of_pos x hp
  have c := Int.emod_nonneg (x / 1000000000 ^ i) (show (1000000000 : Int) ≠ 0 by decide)
  have c' := Int.emod_lt_of_pos (x / 1000000000 ^ i) (show (0 : Int) < 1000000000 by decide)
  have e : x = (x / 1000000000 ^ i % 1000000000 * 1000000000 ^ i + x % 1000000000 ^ i) + (x / 1000000000 ^ i / 1000000000) * 1000000000 ^ (i + 1) := by
    have : (x / 1000000000 ^ i / 1000000000) * (1000000000 : Int) ^ (i + 1) = (1000000000 * (x / 1000000000 ^ i / 1000000000)) * 1000000000 ^ i := by rw [Int.pow_succ, Int.mul_comm ((1000000000 : Int) ^ i) 1000000000, ← Int.mul_assoc, Int.mul_comm _ 1000000000]
    rw [this]
    have h3 : (1000000000 * (x / 1000000000 ^ i / 1000000000)) * (1000000000 : Int) ^ i + x / 1000000000 ^ i % 1000000000 * 1000000000 ^ i = x / 1000000000 ^ i * 1000000000 ^ i := by rw [← Int.add_mul, h2]
    have h4 : x / 1000000000 ^ i * (1000000000 : Int) ^ i = 1000000000 ^ i * (x / 1000000000 ^ i) := Int.mul_comm _ _
    omega
  have l0 : 0 ≤ x / 1000000000 ^ i % 1000000000 * 1000000000 ^ i + x % 1000000000 ^ i := Int.add_nonneg (Int.mul_nonneg c (Int.le_of_lt hp)) b
  have l1 : x / 1000000000 ^ i % 1000000000 * 1000000000 ^ i + x % 1000000000 ^ i < 1000000000 ^ (i + 1) := by
    have : x / 1000000000 ^ i % 1000000000 * (1000000000 : Int) ^ i ≤ 999999999 * 1000000000 ^ i := Int.mul_le_mul_of_nonneg_right (by omega) (Int.le_of_lt hp)
    rw [Int.pow_succ]
    omega
  have key : x % 1000000000 ^ (i + 1) = (x / 1000000000 ^ i % 1000000000 * 1000000000 ^ i + x % 1000000000 ^ i) % 1000000000 ^ (i + 1) := by
    have := congrArg (· % (1000000000 : Int) ^ (i + 1)) e
    simpa [Int.add_mul_emod_self_right] using this
  rw [key, Int.emod_eq_of_lt l0 l1]
theorem carry_sum (x y : Int) (i : Nat) : (x % 1000000000 ^ (i + 1) + y % 1000000000 ^ (i + 1)) / 1000000000 ^ i = carry x y i + dg x i + dg y i := by
  rw [emod_succ, emod_succ]
  unfold carry
  have e : dg x i * 1000000000 ^ i + x % 1000000000 ^ i + (dg y i * 1000000000 ^ i + y % 1000000000 ^ i) = (x % 1000000000 ^ i + y % 1000000000 ^ i) + (dg x i + dg y i) * 1000000000 ^ i := by rw [Int.add_mul]; omega
  rw [e, Int.add_mul_ediv_right _ _ (Int.ne_of_gt (p256 i))]
  omega
theorem carry_succ (x y : Int) (i : Nat) : carry x y (i + 1) = (carry x y i + dg x i + dg y i) / 1000000000 := by
  rw [← carry_sum]
  show (x % 1000000000 ^ (i + 1) + y % 1000000000 ^ (i + 1)) / 1000000000 ^ (i + 1) = _
  have hp := p256 i
  rw [Int.pow_succ, Int.ediv_ediv, if_neg (by omega)]
  omega
theorem add_digit (x y : Int) (i : Nat) : (carry x y i + dg x i + dg y i) % 1000000000 = dg (x + y) i := by
  unfold dg carry
  have hp := p256 i
  have h1 := Int.mul_ediv_add_emod x (1000000000 ^ i)
  have h2 := Int.mul_ediv_add_emod y (1000000000 ^ i)
  have e : x + y = (x % 1000000000 ^ i + y % 1000000000 ^ i) + (x / 1000000000 ^ i + y / 1000000000 ^ i) * 1000000000 ^ i := by
    have a1 : x / 1000000000 ^ i * (1000000000 : Int) ^ i = 1000000000 ^ i * (x / 1000000000 ^ i) := Int.mul_comm _ _
    have a2 : y / 1000000000 ^ i * (1000000000 : Int) ^ i = 1000000000 ^ i * (y / 1000000000 ^ i) := Int.mul_comm _ _
    rw [Int.add_mul]; omega
  have e2 : (x + y) / 1000000000 ^ i = (x % 1000000000 ^ i + y % 1000000000 ^ i) / 1000000000 ^ i + (x / 1000000000 ^ i + y / 1000000000 ^ i) := by
    conv => lhs; rw [e]
    exact Int.add_mul_ediv_right _ _ (Int.ne_of_gt hp)
  rw [e2]
  omega
theorem carry_range (x y : Int) (i : Nat) : 0 ≤ carry x y i ∧ carry x y i ≤ 1 := by
  unfold carry
  have hp := p256 i
  have a := Int.emod_nonneg x (Int.ne_of_gt hp)
  have a' := Int.emod_lt_of_pos x hp
  have b := Int.emod_nonneg y (Int.ne_of_gt hp)
  have b' := Int.emod_lt_of_pos y hp
  refine ⟨Int.ediv_nonneg (by omega) (by omega), ?_⟩
  have : (x % 1000000000 ^ i + y % 1000000000 ^ i) / 1000000000 ^ i < 2 := Int.ediv_lt_of_lt_mul hp (by omega)
  omega
theorem neg_digit (x : Int) (i : Nat) : 999999999 - dg x i = dg (-1 - x) i := by
  unfold dg
  have hp := p256 i
  have h1 := Int.mul_ediv_add_emod x (1000000000 ^ i)
  have a := Int.emod_nonneg x (Int.ne_of_gt hp)
  have a' := Int.emod_lt_of_pos x hp
  have e : -1 - x = (1000000000 ^ i - 1 - x % 1000000000 ^ i) + (-1 - x / 1000000000 ^ i) * 1000000000 ^ i := by
    have a1 : x / 1000000000 ^ i * (1000000000 : Int) ^ i = 1000000000 ^ i * (x / 1000000000 ^ i) := Int.mul_comm _ _
    rw [Int.sub_mul]; omega
  have e2 : (-1 - x) / 1000000000 ^ i = -1 - x / 1000000000 ^ i := by
    conv => lhs; rw [e]
    rw [Int.add_mul_ediv_right _ _ (Int.ne_of_gt hp), Int.ediv_eq_zero_of_lt (by omega) (by omega)]
    omega
  rw [e2]
  omega
end Go.Proofs.YtaekgomplkkocabDoor.pc

namespace Go.Proofs.YtaekgomplkkocabDoor.pc
open Go.RowKit
set_option linter.unusedVariables false

/-- v needs n digits: none for nought. -/
def IsLen (v n : Nat) : Prop := v < 1000000000 ^ n ∧ (n = 0 ∨ 1000000000 ^ (n - 1) ≤ v)
theorem isLen_one {v n m : Nat} (h : IsLen v n) (h' : IsLen v m) : n = m := by
  obtain ⟨a, b⟩ := h
  obtain ⟨a', b'⟩ := h'
  rcases Nat.lt_trichotomy n m with e | e | e
  · rcases b' with b' | b'
    · omega
    · have := Nat.pow_le_pow_right (n := 1000000000) (by decide) (show n ≤ m - 1 by omega)
      omega
  · exact e
  · rcases b with b | b
    · omega
    · have := Nat.pow_le_pow_right (n := 1000000000) (by decide) (show m ≤ n - 1 by omega)
      omega
/-- A number below 1000000000^n has a length of n at most, and is found by cutting noughts off the end. -/
theorem isLen_cut : ∀ (n v : Nat), v < 1000000000 ^ n → ∃ m, m ≤ n ∧ IsLen v m
  | 0, v, h => ⟨0, Nat.le_refl _, h, Or.inl rfl⟩
  | n + 1, v, h => by
    by_cases c : v < 1000000000 ^ n
    · obtain ⟨m, h1, h2⟩ := isLen_cut n v c
      exact ⟨m, by omega, h2⟩
    · exact ⟨n + 1, Nat.le_refl _, h, Or.inr (by simp; omega)⟩
theorem lt_pow_self (v : Nat) : v < 1000000000 ^ v := Nat.lt_pow_self (by decide)
theorem isLen_ex (v : Nat) : ∃ m, IsLen v m := by
  obtain ⟨m, _, h⟩ := isLen_cut v v (lt_pow_self v)
  exact ⟨m, h⟩
/-- How many digits v needs. -/
def nlen (v : Nat) : Nat := if h : v = 0 then 0 else nlen (v / 1000000000) + 1
  termination_by v
  decreasing_by exact Nat.div_lt_self (Nat.pos_of_ne_zero h) (by decide)
theorem nlen_is (v : Nat) : IsLen v (nlen v) := by
  induction v using Nat.strongRecOn with
  | ind v ih =>
    unfold nlen
    split
    · rename_i h
      rw [h]
      exact ⟨by decide, Or.inl rfl⟩
    · rename_i h
      obtain ⟨h1, h2⟩ := ih (v / 1000000000) (Nat.div_lt_self (Nat.pos_of_ne_zero h) (by decide))
      refine ⟨?_, Or.inr ?_⟩
      · rw [Nat.pow_succ]
        exact (Nat.div_lt_iff_lt_mul (by decide)).1 h1
      · rw [Nat.add_sub_cancel]
        rcases h2 with h2 | h2
        · rw [h2]
          exact Nat.pos_of_ne_zero h
        · rcases Nat.eq_zero_or_pos (nlen (v / 1000000000)) with h3 | h3
          · rw [h3]
            exact Nat.pos_of_ne_zero h
          · have h4 := (Nat.le_div_iff_mul_le (by decide)).1 h2
            rw [← Nat.pow_succ] at h4
            rwa [show (nlen (v / 1000000000) - 1).succ = nlen (v / 1000000000) by omega] at h4
theorem nlen_eq {v n : Nat} (h : IsLen v n) : nlen v = n := isLen_one (nlen_is v) h
theorem nlen_le {v n : Nat} (h : v < 1000000000 ^ n) : nlen v ≤ n := by
  obtain ⟨m, h1, h2⟩ := isLen_cut n v h
  rw [nlen_eq h2]; exact h1
theorem nlen_zero : nlen 0 = 0 := nlen_eq ⟨by decide, Or.inl rfl⟩
theorem nlen_lt (v : Nat) : v < 1000000000 ^ nlen v := (nlen_is v).1
theorem nlen_pos {v : Nat} (h : 0 < v) : 0 < nlen v := by
  rcases Nat.lt_or_ge 0 (nlen v) with l | l
  · exact l
  · have := nlen_lt v
    rw [show nlen v = 0 by omega] at this
    simp at this
    omega
/-- The longer number is the greater. -/
theorem lt_of_nlen {u v : Nat} (h : nlen u < nlen v) : u < v := by
  obtain ⟨_, b⟩ := nlen_is v
  rcases b with b | b
  · omega
  · have := nlen_lt u
    have := Nat.pow_le_pow_right (n := 1000000000) (by decide) (show nlen u ≤ nlen v - 1 by omega)
    omega
theorem pow_cast (k : Nat) : ((1000000000 ^ k : Nat) : Int) = (1000000000 : Int) ^ k := by rw [Int.natCast_pow]; rfl
theorem dg_nat (v k : Nat) : dg (v : Int) k = ((v / 1000000000 ^ k % 1000000000 : Nat) : Int) := by
  unfold dg
  rw [← pow_cast]
  omega
/-- The digit at a place that a number does not reach is nought; the highest one that it has is not. -/
theorem dg_over {v k : Nat} (h : v < 1000000000 ^ k) : dg (v : Int) k = 0 := by rw [dg_nat, Nat.div_eq_of_lt h]; rfl
theorem dg_top {v n : Nat} (h : IsLen v (n + 1)) : dg (v : Int) n ≠ 0 := by
  obtain ⟨a, b⟩ := h
  have b : 1000000000 ^ n ≤ v := by
    rcases b with b | b
    · omega
    · exact b
  rw [dg_nat]
  have h1 : 1 ≤ v / 1000000000 ^ n := (Nat.one_le_div_iff (Nat.pow_pos (by decide))).2 b
  have h2 : v / 1000000000 ^ n < 1000000000 := by
    rw [Nat.pow_succ] at a
    exact Nat.div_lt_of_lt_mul a
  rw [Nat.mod_eq_of_lt h2]
  omega
/-- One nought at the end cut off. -/
theorem lt_of_dg_zero {v n : Nat} (h : v < 1000000000 ^ (n + 1)) (z : dg (v : Int) n = 0) : v < 1000000000 ^ n := by
  rcases Nat.lt_or_ge v (1000000000 ^ n) with l | l
  · exact l
  · exact absurd z (dg_top ⟨h, Or.inr (by simpa using l)⟩)
/-- Two numbers of n digits with the same digits are the same. -/
theorem eq_of_dcells : ∀ (n : Nat) (u v : Nat), u < 1000000000 ^ n → v < 1000000000 ^ n → (∀ j, j < n → dg (u : Int) j = dg (v : Int) j) → u = v := by
  intro n
  induction n with
  | zero => intro u v hu hv _; simp at hu hv; omega
  | succ n ih =>
    intro u v hu hv h
    have e := ih (u % 1000000000 ^ n) (v % 1000000000 ^ n) (Nat.mod_lt _ (Nat.pow_pos (by decide))) (Nat.mod_lt _ (Nat.pow_pos (by decide))) (fun j hj => by
      have a : ∀ x : Nat, dg ((x % 1000000000 ^ n : Nat) : Int) j = dg (x : Int) j := fun x => by
        refine dg_congr (i := n) (-((x / 1000000000 ^ n : Nat) : Int)) ?_ hj
        have := Nat.mod_add_div x (1000000000 ^ n)
        rw [← pow_cast, Int.neg_mul, ← Int.natCast_mul, Nat.mul_comm (x / 1000000000 ^ n)]
        omega
      rw [a, a]
      exact h j (by omega))
    have t := h n (by omega)
    rw [dg_nat, dg_nat] at t
    have du : u / 1000000000 ^ n < 1000000000 := by rw [Nat.pow_succ] at hu; exact Nat.div_lt_of_lt_mul hu
    have dv : v / 1000000000 ^ n < 1000000000 := by rw [Nat.pow_succ] at hv; exact Nat.div_lt_of_lt_mul hv
    rw [Nat.mod_eq_of_lt du, Nat.mod_eq_of_lt dv] at t
    have t' : u / 1000000000 ^ n = v / 1000000000 ^ n := by omega
    have h1 := Nat.mod_add_div u (1000000000 ^ n)
    have h2 := Nat.mod_add_div v (1000000000 ^ n)
    rw [e, t'] at h1
    omega
end Go.Proofs.YtaekgomplkkocabDoor.pc

namespace Go.Proofs.YtaekgomplkkocabDoor
open Go.RowKit
set_option linter.unusedVariables false

/-- How long a slice is. -/
def slen : Value → Nat
  | .slice _ n _ => n
  | _ => 0
theorem pc_succ (t : Nat) (a : Int) : pc.dcells (t + 1) a = pc.dcells t a ++ [.int .u32 (pc.dg a t)] := by
  unfold pc.dcells; rw [List.range_succ, List.map_append]; rfl
theorem pc_small {u t l : Nat} (h : 1000000000 ^ t ≤ u) (hu : u < 4294967296 ^ l) : t ≤ 2 * l := by
  rcases Nat.lt_or_ge (2 * l) t with h1 | h1
  · have h2 : 4294967296 ^ l ≤ (1000000000 ^ 2) ^ l := Nat.pow_le_pow_left (by decide) l
    rw [← Nat.pow_mul] at h2
    have h3 := Nat.pow_le_pow_right (n := 1000000000) (by decide) (show 2 * l ≤ t by omega)
    omega
  · exact h1
/-- What holds at the head of each round. -/
def PieceRel (w : World) (u la : Nat) (pv rv : Value) (wr : World) : Prop := ∃ (t U : Nat) (ap ar : Option Addr) (cp cr : Nat), t ≤ 2 * la + 1 ∧ (t = 0 ∨ 1000000000 ^ (t - 1) ≤ u) ∧ Hid (U = u / 1000000000 ^ t) ∧ pv = .slice ap t cp ∧ rv = .slice ar (wd.nlen U) cr ∧
  Own wr w.heap.size 53 ap t cp (pc.dcells t (u : Int)) ∧ Own wr w.heap.size 53 ar (wd.nlen U) cr (wd.dcells (wd.nlen U) (U : Int)) ∧
  (∀ b, ar = some b → (Value.slice ap t cp).ownBlock ≠ some b.block) ∧ Below w.heap.size w wr
theorem piece_dg (u t : Nat) : ((u / 1000000000 ^ t : Nat) : Int) % 1000000000 = pc.dg (u : Int) t := by
  rw [pc.dg_nat]; omega
theorem piece_next (u t : Nat) : ((u / 1000000000 ^ t : Nat) : Int) / 1000000000 = ((u / 1000000000 ^ (t + 1) : Nat) : Int) := by
  rw [Nat.pow_succ, ← Nat.div_div_eq_div_mul]; omega
theorem next_le (u t : Nat) : u / 1000000000 ^ (t + 1) ≤ u / 1000000000 ^ t := by
  rw [Nat.pow_succ, ← Nat.div_div_eq_div_mul]; exact Nat.div_le_self _ _
/-- The round's end. -/
theorem pieceRel_next {w wr w2 w4 : World} {u la t g cp cr g' cap' cr' U U' : Nat} {r : Int} {ap ar' : Option Addr} {T : TypeId} (hU' : U' = u / 1000000000 ^ (t + 1)) (hr : r = pc.dg u t) (hle : 1000000000 ^ t ≤ u) (hu : u < 4294967296 ^ la) (hbel : Below w.heap.size w wr) (hg : g < wr.heap.size) (hg2 : w.heap.size ≤ g)
    (hownp : Own wr w.heap.size 53 ap t cp (pc.dcells t (u : Int))) (hne : ∀ b, some (⟨g, 0, none⟩ : Addr) = some b → (Value.slice ap t cp).ownBlock ≠ some b.block)
    (hwr : Wr wr w2 g 0 (wd.nlen U)) (hownr2 : Own w2 w.heap.size 53 (some ⟨g, 0, none⟩) (wd.nlen U) cr (wd.dcells (wd.nlen U) (U' : Int)))
    (h4 : w4.ownsRow w.heap.size 53 1 (.slice (some ⟨g', 0, none⟩) (t + 1) cap') (t + 1) (pc.dcells t (u : Int) ++ [.int .u32 r])) (hgr : (w2.alloc (.cells #[.int .u32 r] T)).grownBy w4 (Value.slice ap t cp).ownBlock)
    (hat : (Value.slice ap t cp).ownBlock = some g' ∨ g' = (w2.alloc (.cells #[.int .u32 r] T)).heap.size) :
    Own w4 w.heap.size 53 (some ⟨g, 0, none⟩) (wd.nlen U) cr (wd.dcells (wd.nlen U) (U' : Int)) ∧
    (∀ cut : Cut (some ⟨g, 0, none⟩) (wd.nlen U) cr ar' (wd.nlen U') cr', PieceRel w u la (.slice (some ⟨g', 0, none⟩) (t + 1) cap') (.slice ar' (wd.nlen U') cr') w4) := by
  subst hr
  have hne' := hne _ rfl
  have hsz := hwr.grown.size
  have hr4 : Own w4 w.heap.size 53 (some ⟨g, 0, none⟩) (wd.nlen U) cr (wd.dcells (wd.nlen U) (U' : Int)) :=
    World.ownsRow.kept (World.ownsRow.alloc hownr2 _) hgr (Or.inr fun e => hne' (by rw [← e]; rfl))
  refine ⟨hr4, fun cut => ⟨t + 1, U', _, ar', cap', cr', by have := pc_small hle hu; omega, Or.inr (by simpa using hle), hU', rfl, rfl, ?_, cut.own hr4, ?_, ?_⟩⟩
  · rw [pc_succ]; exact h4
  · intro b hb e
    simp only [Value.ownBlock, Option.some.injEq] at e
    rcases cut with ⟨_, h, _⟩ | ⟨_, _, h, _⟩
    · rw [h] at hb; cases hb
    · rw [h] at hb
      cases hb
      dsimp only at e
      rcases hat with hat | hat
      · exact hne' (by rw [hat, e])
      · rw [World.size_alloc] at hat; omega
  · have hb2 := hwr.after hbel hg2 (Nat.le_refl _)
    refine ((hb2.alloc hb2.size _).grown hgr ?_ ?_)
    · rw [World.size_alloc]; have := hb2.size; omega
    · intro k hk
      exact (World.ownsRow.lt hownp k hk).1

set_option maxRecDepth 100000 in
set_option maxHeartbeats 2000000 in
theorem pieces_any (a : Option Addr) (la ca u : Nat) (w : World) (ha : Sl w a la ca (wd.dcells la (u : Int))) (hu : u < 4294967296 ^ la) (hla : la ≤ 1000000000) :
    Calls Tryd.prog 41 #[.slice a la ca] w fun e w' => ∃ ap cp, e = .returned (.slice ap (pc.nlen u) cp) ∧ Own w' w.heap.size 53 ap (pc.nlen u) cp (pc.dcells (pc.nlen u) (u : Int)) ∧ Below w.heap.size w w' := by
  obtain ⟨i0, hi0, hz0, hz1, hz2⟩ := info_parts infoWord
  go_enter Tryd.func41, Tryd.ntmps41
  go_wp2_with (go_at_call 47; refine (trim_any a la ca u _ ha hu hla).mono ?_; rintro e w1 ⟨a1, ca1, rfl, hown, hbel⟩)
  go_loopw [3, 4] (fun pv rv wr => PieceRel w u la pv rv wr) (fun pv _ _ => 2 * la + 3 - slen pv)
  case atStart =>
    exact ⟨0, u, none, a1, 0, ca1, by omega, Or.inl rfl, by unfold Hid; rw [Nat.pow_zero, Nat.div_one], rfl, rfl, World.ownsRow_nil _ _ _ _, hown, fun b e h => (by cases h), hbel⟩
  case round =>
    clear hown hbel
    obtain ⟨t, U, ap, ar, cp, cr, ht, hl, HU, rfl, rfl, hownp, hownr, hne, hbel⟩ := hrel
    by_cases hz : wd.nlen U = 0
    · have h0 := wd.nlen_eq_zero.1 hz
      have HL : Hid (pc.nlen u = t) := by
        refine pc.nlen_eq ⟨?_, hl⟩
        have hU := HU.out
        rcases Nat.div_eq_zero_iff.1 (hU.symm.trans h0) with h | h
        · have := Nat.pow_pos (n := t) (show 0 < 1000000000 by decide); omega
        · exact h
      have hz' : ¬ (0 : Int) < (wd.nlen U : Int) := by omega
      clear h0 hz
      go_wp2
      go_ret
      exact ⟨ap, cp, by rw [HL.out]; rfl, by rw [HL.out]; exact hownp, hbel⟩
    · obtain ⟨g, rfl, hg, hg2, _⟩ := Own.at hownr (by omega)
      have hle : 1000000000 ^ t ≤ u := by
        rcases Nat.lt_or_ge u (1000000000 ^ t) with h | h
        · exact absurd (by rw [HU.out, Nat.div_eq_of_lt h, wd.nlen_zero]) hz
        · exact h
      have ht2 := pc_small hle hu
      have hz' : (0 : Int) < (wd.nlen U : Int) := by omega
      obtain ⟨U', hU'⟩ : ∃ U', U' = u / 1000000000 ^ (t + 1) := ⟨_, rfl⟩
      obtain ⟨r, hr⟩ : ∃ r, r = pc.dg (u : Int) t := ⟨_, rfl⟩
      have HNX : Hid _ := fun w2 w4 g' cap' ar' cr' => pieceRel_next (T := 53) (U := U) (w2 := w2) (w4 := w4) (g' := g') (cap' := cap') (ar' := ar') (cr' := cr') (cr := cr) hU' hr hle hu hbel hg hg2 hownp hne
      have hsz := hbel.size
      have HX : Hid (U' < 4294967296 ^ wd.nlen U) := Nat.lt_of_le_of_lt (by rw [HU.out, hU']; exact next_le u t) (wd.nlen_lt _)
      have HP : Hid _ := fun (w2 : World) (h : Wr wr w2 g 0 (wd.nlen U)) => h.own hownp (fun o e => by have := hne _ rfl; rw [e] at this; exact this rfl)
      obtain ⟨p0, p1⟩ := pc.dg_range u t
      rw [← hr] at p0 p1
      have E1 : Hid ((U : Int) % 1000000000 = r) := by unfold Hid; rw [HU.out, hr]; exact piece_dg u t
      have E2 : Hid ((U : Int) / 1000000000 = (U' : Int)) := by unfold Hid; rw [HU.out, hU']; exact piece_next u t
      clear hU' hr hne hle hl hz
      go_wp2_with (first
        | (go_at_call 52; refine (divWord_any g _ cr U w.heap.size 1000000000 _ hownr (wd.nlen_lt _) (by decide) (by decide)).mono ?_; rw [E1.out, E2.out]; rintro e w2 ⟨rfl, hownr2, hwr2⟩; have hownp2 := HP.out w2 hwr2; have hsz2 := hwr2.grown.size)
        | (at_builtin; refine wpList_append_lies _ rfl (.tmp 10) (.tmp 13) 22 rfl w.heap.size 53 i0 (.int .u32 0) 1 4 Tryd.underlying22 hi0 hz0 hz1 hz2 rfl (by decide) (.slice ap t cp) t (pc.dcells t (u : Int)) rfl (World.ownsRow.alloc hownp2 _) ⟨w2.heap.size, 0, none⟩ 1 1 [.int .u32 r] rfl rfl (cell_one_new _ _ _) (ints_oneCell .u32 [r]) (by decide) (by unfold maxLen; omega) (by omega) (by simp; omega) _ rfl ?_; intro g' cap' w4 hown4 hgrow4 hat4 hlt4; have hr4 := (HNX.out w2 w4 g' cap' none 0 hwr2 hownr2 hown4 hgrow4 hat4).1)
        | (go_at_call 38; refine (strip_any _ _ _ U' _ hr4.sl HX.out).mono ?_; rintro e w' ⟨a3, c3, rfl, hw, hcut3⟩; subst hw))
      go_roundw
      case rel => exact (HNX.out w2 w4 g' cap' a3 c3 hwr2 hownr2 hown4 hgrow4 hat4).2 hcut3
      case measure => simp only [slen]; omega
end Go.Proofs.YtaekgomplkkocabDoor

namespace Go.Proofs.YtaekgomplkkocabDoor
open Go.RowKit
set_option linter.unusedVariables false

/-- What holds at the head of each round. -/
def TrimRel (s : ByteArray) (v : Value) : Prop := ∃ t : ByteArray, t.size ≤ s.size ∧ (nums t).dropWhile (· == 48) = (nums s).dropWhile (· == 48) ∧ v = .string t
def strLen : Value → Nat
  | .string s => s.size
  | _ => 0
theorem strLen_str (s : ByteArray) : strLen (.string s) = s.size := rfl
theorem str_of_nums {t : ByteArray} {l : List Int} (h : nums t = l) : t = strOfNums l := by rw [← h, str_nums]
theorem size_tail (t : ByteArray) : (t.extract 1 t.size).size = t.size - 1 := by simp

set_option maxRecDepth 100000 in
set_option maxHeartbeats 1000000 in
theorem trimByte_any (s : ByteArray) (w : World) (hs : s.size ≤ 9223372036854775807) :
    Calls Tryd.prog 59 #[.string s, .int .u8 48] w fun e w' => e = .returned (.string (strOfNums ((nums s).dropWhile (· == 48)))) ∧ w = w' := by
  go_enter Tryd.func59, Tryd.ntmps59
  go_wp2
  go_loop [0] (fun v => TrimRel s v) (fun v => strLen v)
  case atStart => exact ⟨s, Nat.le_refl _, rfl, rfl⟩
  case round =>
    obtain ⟨t, ht, hd, rfl⟩ := hrel
    have HD : Hid _ := hd
    clear hd
    by_cases h0 : 0 < t.size
    · have hc := nums_cons t h0
      have HC : Hid _ := hc
      clear hc
      by_cases h48 : (t[0].toNat : Int) = 48
      · have h48' : ((t[0].toNat : Int) == 48) = true := by simpa using h48
        have HE : Hid ((nums (t.extract 1 t.size)).dropWhile (· == 48) = (nums s).dropWhile (· == 48)) := by
          have := HD.out
          rw [HC.out, List.dropWhile_cons, h48', if_pos rfl] at this
          exact this
        clear h48
        go_wp2
        go_round
        case rel => exact ⟨t.extract 1 t.size, by rw [size_tail]; omega, HE.out, rfl⟩
        case measure => rw [strLen_str, strLen_str, size_tail]; omega
      · have h48' : ((t[0].toNat : Int) == 48) = false := by simpa using h48
        have HE : Hid (nums t = (nums s).dropWhile (· == 48)) := by
          have := HD.out
          rw [HC.out, List.dropWhile_cons, h48', if_neg (by simp), ← HC.out] at this
          exact this
        clear h48
        go_wp2
        go_ret
        exact ⟨by rw [← HE.out, str_nums]; rfl, rfl⟩
    · have HE : Hid (nums t = (nums s).dropWhile (· == 48)) := by
        have h1 : nums t = [] := List.length_eq_zero_iff.1 (by rw [nums_length]; omega)
        have := HD.out
        rw [h1] at this
        unfold Hid
        rw [h1, ← this]; rfl
      go_wp2
      go_ret
      exact ⟨by rw [← HE.out, str_nums]; rfl, rfl⟩
set_option maxRecDepth 100000 in
set_option maxHeartbeats 1000000 in
theorem trimLeft_any (s : ByteArray) (w : World) (hs : s.size ≤ 9223372036854775807) (h0 : s.toList.isEmpty = false) :
    Calls Tryd.prog 42 #[.string s, .string ⟨#[48]⟩] w fun e w' => e = .returned (.string (strOfNums ((nums s).dropWhile (· == 48)))) ∧ w = w' := by
  go_enter Tryd.func42, Tryd.ntmps42
  go_wp2_with (go_at_call 59; refine (trimByte_any s _ hs).mono ?_; rintro e w' ⟨rfl, hw⟩; subst hw)
  go_ret
  exact ⟨rfl, rfl⟩
end Go.Proofs.YtaekgomplkkocabDoor

namespace Go.Proofs.YtaekgomplkkocabDoor
open Go.RowKit
set_option linter.unusedVariables false

/-- Bytes written from place p on, noughts ahead. -/
def cellsD (p : Nat) (l : List Int) : List Value := List.replicate p (.int .u8 0) ++ l.map (Value.int .u8)
theorem cellsD_length (p : Nat) (l : List Int) : (cellsD p l).length = p + l.length := by simp [cellsD]
theorem set_replicate {α : Type} (z d : α) (n : Nat) (l : List α) : (List.replicate (n + 1) z ++ l).set n d = List.replicate n z ++ d :: l := by
  rw [List.replicate_succ', List.append_assoc, List.set_append_right _ _ (by simp)]
  simp
theorem cellsD_set (p : Nat) (l : List Int) (d : Int) : (cellsD (p + 1) l).set p (.int .u8 d) = cellsD p (d :: l) := by
  unfold cellsD
  rw [set_replicate, List.map_cons]
theorem cellsD_at (p : Nat) (l : List Int) : (cellsD (p + 1) l)[p]? = some (.int .u8 0) := by
  unfold cellsD
  rw [List.getElem?_append_left (by simp), List.getElem?_replicate, if_pos (by omega)]
theorem infoByte : (Tryd.prog.info? 5).map (fun i => (i.zero, i.size, i.bytes)) = some (some (.int .u8 0), 1, 1) := by kernel_rfl
/-- The digit at a place, out of a piece. -/
theorem piece_digit (u j k : Nat) (hk : k < 9) : ((u / 1000000000 ^ j % 1000000000 / 10 ^ k : Nat) : Int) % 10 = ((u / 10 ^ (9 * j + k) % 10 : Nat) : Int) := by
  have e1 : (1000000000 : Nat) ^ j = 10 ^ (9 * j) := by rw [Nat.pow_mul]
  have e2 : u / 10 ^ (9 * j + k) = u / 10 ^ (9 * j) / 10 ^ k := by rw [Nat.pow_add, Nat.div_div_eq_div_mul]
  rw [e1, e2]
  generalize u / 10 ^ (9 * j) = x
  have h : (1000000000 : Nat) = 10 ^ k * (10 * 10 ^ (8 - k)) := by
    rw [← Nat.pow_succ', ← Nat.pow_add, show k + (8 - k + 1) = 9 by omega]
  have h2 : x % 1000000000 / 10 ^ k = x / 10 ^ k % (10 * 10 ^ (8 - k)) := by rw [h, Nat.mod_mul_right_div_self]
  rw [h2]
  have h3 := Nat.mod_mul_right_mod (x / 10 ^ k) 10 (10 ^ (8 - k))
  omega
/-- What holds at the head of each round of the inner loop. -/
def TextIn (w2 : World) (base u c j b : Nat) (ev xv iv : Value) (wr : World) : Prop := ∃ (k p : Nat) (X : Int), k ≤ 9 ∧ k + p + 9 * j = 9 * c ∧ iv = .int .i64 (k : Int) ∧ ev = .int .i64 (p : Int) ∧ xv = .int .u32 X ∧ Hid (X = ((u / 1000000000 ^ j % 1000000000 / 10 ^ k : Nat) : Int)) ∧ 0 ≤ X ∧ X < 4294967296 ∧
  Own wr base 5 (some ⟨b, 0, none⟩) (9 * c) (9 * c) (cellsD p (digs (9 * j + k) u)) ∧ Wr w2 wr b 0 (9 * c)
def TextOut (w2 : World) (base u c b : Nat) (ev iv : Value) (wr : World) : Prop := ∃ (j p : Nat), j ≤ c ∧ p + 9 * j = 9 * c ∧ iv = .int .i64 (j : Int) ∧ ev = .int .i64 (p : Int) ∧
  Own wr base 5 (some ⟨b, 0, none⟩) (9 * c) (9 * c) (cellsD p (digs (9 * j) u)) ∧ Wr w2 wr b 0 (9 * c)
theorem textIn_next {w2 wr : World} {base u c j b k p : Nat} {X : Int} (hk : k < 9) (hp : k + (p + 1) + 9 * j = 9 * c) (hX : Hid (X = ((u / 1000000000 ^ j % 1000000000 / 10 ^ k : Nat) : Int))) (h0 : 0 ≤ X) (h1 : X < 4294967296)
    (hown : Own wr base 5 (some ⟨b, 0, none⟩) (9 * c) (9 * c) (cellsD (p + 1) (digs (9 * j + k) u))) (hw : Wr w2 wr b 0 (9 * c)) :
    TextIn w2 base u c j b (.int .i64 (p : Int)) (.int .u32 (X / 10)) (.int .i64 ((k : Int) + 1)) (wr.setCell ⟨b, p, none⟩ (.int .u8 (48 + X % 10))) := by
  refine ⟨k + 1, p, X / 10, by omega, by omega, by simp, rfl, rfl, ?_, by omega, by omega, ?_, hw.set _ (Nat.zero_le _) (by omega)⟩
  · unfold Hid
    rw [hX.out, Nat.pow_succ, ← Nat.div_div_eq_div_mul]
    omega
  · have := Own.set hown (i := p) (.int .u8 (48 + X % 10)) (by omega)
    rw [cellsD_set, hX.out, piece_digit u j k hk, show (48 + ((u / 10 ^ (9 * j + k) % 10 : Nat) : Int)) :: digs (9 * j + k) u = digs (9 * j + (k + 1)) u from rfl] at this
    rw [hX.out, piece_digit u j k hk]
    exact this
theorem pc_piece (u j : Nat) : pc.dg (u : Int) j = ((u / 1000000000 ^ j % 1000000000 : Nat) : Int) := pc.dg_nat u j
theorem digs_text (u : Nat) (hu : 0 < u) : strOfNums ((nums (strOfNums (digs (9 * pc.nlen u) u))).dropWhile (· == 48)) = decS u := by
  rw [nums_str _ fun c hc => by have := digs_bytes _ _ c hc; omega]
  have h1 := isDec_dlen u
  have h2 : dlen u ≤ 9 * pc.nlen u := by
    have hl := pc.nlen_lt u
    have e : (1000000000 : Nat) ^ pc.nlen u = 10 ^ (9 * pc.nlen u) := by rw [Nat.pow_mul]
    rw [e] at hl
    rcases Nat.lt_or_ge (9 * pc.nlen u) (dlen u) with h | h
    · rcases h1.2.2 with h3 | h3
      · have := pc.nlen_pos hu; omega
      · have := Nat.pow_le_pow_right (n := 10) (by decide) (show 9 * pc.nlen u ≤ dlen u - 1 by omega)
        omega
    · exact h
  have := digs_drop (9 * pc.nlen u - dlen u) (dlen u) u hu h1
  rw [show dlen u + (9 * pc.nlen u - dlen u) = 9 * pc.nlen u by omega] at this
  rw [this]
  rfl
theorem pc_few {u l : Nat} (h : u < 4294967296 ^ l) : pc.nlen u ≤ 2 * l + 1 := by
  rcases (pc.nlen_is u).2 with h1 | h1
  · omega
  · have := pc_small h1 h; omega

set_option maxRecDepth 100000 in
set_option maxHeartbeats 2000000 in
theorem show_any (a : Option Addr) (la ca u : Nat) (w : World) (ha : Sl w a la ca (wd.dcells la (u : Int))) (hu : u < 4294967296 ^ la) (hla : la ≤ 1000000000) :
    Calls Tryd.prog 27 #[.slice a la ca] w fun e w' => e = .returned (.string (decS u)) ∧ Below w.heap.size w w' := by
  by_cases h0 : u = 0
  · subst h0
    have hz : pc.nlen 0 = 0 := pc.nlen_zero
    have HP : Hid _ := fun ap cp => (show Value.slice ap (pc.nlen 0) cp = Value.slice ap 0 cp by rw [hz])
    clear hz
    go_enter Tryd.func27, Tryd.ntmps27
    go_wp2_with (go_at_call 41; refine (pieces_any a la ca 0 _ ha hu hla).mono ?_; rintro e w1 ⟨ap, cp, rfl, hown, hbel⟩; rw [HP.out ap cp])
    go_ret
    exact ⟨rfl, hbel⟩
  · have hpos : 0 < u := by omega
    have hc1 := pc.nlen_pos hpos
    have hc2 := pc_few hu
    have HT : Hid _ := digs_text u hpos
    obtain ⟨i0, hi0, hz0, hz1, hz2⟩ := info_parts infoByte
    obtain ⟨c, hc⟩ : ∃ c, pc.nlen u = c := ⟨_, rfl⟩
    have HC : Hid _ := hc
    rw [hc] at hc1 hc2
    have HP : Hid _ := fun (w : World) (ha : Sl w a la ca (wd.dcells la (u : Int))) => pieces_any a la ca u w ha hu hla
    rw [hc] at HT
    have hmax : 9 * c ≤ maxLen := by unfold maxLen; omega
    clear hc h0
    go_enter Tryd.func27, Tryd.ntmps27
    go_wp2_with (first
      | (go_at_call 41; refine (HP.out _ ha).mono ?_; rw [HC.out]; rintro e w1 ⟨ap, cp, rfl, hownp, hbel⟩; have hsz := hbel.size)
      | (at_make; refine make_any _ rfl (.tmp 15) (.tmp 15) 71 rfl w.heap.size 5 i0 (.int .u8 0) Tryd.underlying71 hi0 hz0 hz1 rfl .i64 .i64 _ _ (9 * c) rfl rfl (by omega) (by omega) (by rw [hz2]; omega) (by omega) hsz ?_; intro w2 hown hbel2))
    have hb1 : Below w.heap.size w w2 := hbel.trans (hbel2.mono hsz)
    have hown0 : Own w2 w.heap.size 5 (some ⟨w1.heap.size, 0, none⟩) (9 * c) (9 * c) (cellsD (9 * c) (digs (9 * 0) u)) := by
      have : cellsD (9 * c) (digs (9 * 0) u) = List.replicate (9 * c) (.int .u8 0) := by simp [cellsD, digs]
      rw [this]; exact hown
    have hpSl : Sl w2 ap c cp (pc.dcells c (u : Int)) := (Own.sl hownp).below hbel2
    have hpne : ∀ o, ap ≠ some ⟨w1.heap.size, o, none⟩ := fun o e => by
      obtain ⟨b', e', hb', _, _⟩ := Own.at hownp hc1
      rw [e'] at e
      cases e
      omega
    clear hown hownp hbel hbel2
    go_loopw [5, 21] (fun ev iv wr => TextOut w2 w.heap.size u c w1.heap.size ev iv wr) (fun _ iv _ => c - (intOf iv).toNat)
    case atStart => exact ⟨0, 9 * c, by omega, by omega, rfl, by go_num, hown0, Wr.refl _ _ _ _⟩
    case round =>
      clear hown0
      obtain ⟨j, p, hj, hp, rfl, rfl, hown, hwr⟩ := hrel
      by_cases hlt : j < c
      · obtain ⟨bp, op, rfl, hbp, hsp⟩ := hpSl.at hc1
        have hroom := hpSl.room
        have hne : bp ≠ w1.heap.size := fun e => hpne op (by rw [e])
        have c1 : wr.cell? ⟨bp, op + j, none⟩ = some (.int .u32 (pc.dg u j)) := (hwr.seg hsp hbp hne).cell j _ (pc.dcells_at _ _ _ hlt)
        obtain ⟨X, hX⟩ : ∃ X, X = pc.dg (u : Int) j := ⟨_, rfl⟩
        obtain ⟨x0, x1⟩ := pc.dg_range u j
        rw [← hX] at c1 x0 x1
        have HX : Hid (X = ((u / 1000000000 ^ j % 1000000000 / 10 ^ 0 : Nat) : Int)) := by unfold Hid; rw [hX, pc_piece, Nat.pow_zero, Nat.div_one]
        have HI : Hid (TextIn w2 w.heap.size u c j w1.heap.size (.int .i64 (p : Int)) (.int .u32 X) (.int .i64 0) wr) := ⟨0, p, X, by omega, by omega, rfl, rfl, rfl, HX, x0, by omega, by rw [Nat.add_zero]; exact hown, hwr⟩
        clear hown hwr hX HX
        go_wp2
        go_loopw [5, 7, 25] (fun ev xv iv wr => TextIn w2 w.heap.size u c j w1.heap.size ev xv iv wr) (fun _ _ iv _ => 9 - (intOf iv).toNat)
        case atStart => exact HI.out
        case round =>
          obtain ⟨k, p', Y, hk, hp', rfl, rfl, rfl, HY, y0, y1, hown, hwr⟩ := hrel
          by_cases hk9 : k < 9
          · obtain ⟨p', rfl⟩ : ∃ q, p' = q + 1 := ⟨p' - 1, by omega⟩
            have c3 := Own.cell hown p' _ (cellsD_at p' _)
            have c4 := Own.free hown p' (by omega)
            have HN : Hid _ := textIn_next hk9 hp' HY y0 y1 hown hwr
            have e1 : ((p' + 1 : Nat) : Int) - 1 = (p' : Int) := by omega
            clear hown
            go_wp2
            go_roundw
            case rel => exact HN.out
            case measure => simp [intOf]; omega
          · obtain rfl : k = 9 := by omega
            have HO : Hid (TextOut w2 w.heap.size u c w1.heap.size (.int .i64 (p' : Int)) (.int .i64 ((j : Int) + 1)) wr) := ⟨j + 1, p', by omega, by omega, by simp, rfl, by rw [show 9 * (j + 1) = 9 * j + 9 by omega]; exact hown, hwr⟩
            clear hown
            go_wp2
            go_roundw
            case rel => exact HO.out
            case measure => simp [intOf]; omega
      · obtain rfl : j = c := by omega
        obtain rfl : p = 0 := by omega
        have hconv : (convert 71 9 (.slice (some ⟨w1.heap.size, 0, none⟩) (9 * j) (9 * j))).run Tryd.prog wr = .ok (.string (strOfNums (digs (9 * j) u))) wr := by
          refine run_convert_bytes_arg wr 71 5 Tryd.underlying71 Tryd.underlying5 w1.heap.size 0 (9 * j) (9 * j) _ (digs_length _ _) (fun i hi => ?_) 9 Tryd.underlying9
          rw [Nat.zero_add]
          refine Own.cell hown i _ ?_
          unfold cellsD
          rw [List.replicate_zero, List.nil_append, List.getElem?_map, List.getElem?_eq_getElem (by rw [digs_length]; exact hi), List.getD, List.getElem?_eq_getElem (by rw [digs_length]; exact hi)]
          rfl
        have hbel := hwr.after hb1 hsz (Nat.le_refl _)
        have hsize : (strOfNums (digs (9 * j) u)).size ≤ 9223372036854775807 := by rw [strOfNums_size, digs_length]; omega
        have hne0 : (strOfNums (digs (9 * j) u)).toList.isEmpty = false := by
          rw [ByteArray.toList_eq, List.isEmpty_eq_false_iff, ← List.length_pos_iff]
          show 0 < (strOfNums (digs (9 * j) u)).size
          rw [strOfNums_size, digs_length]; omega
        clear hown
        go_wp2_with (go_at_call 42; refine (trimLeft_any _ _ hsize hne0).mono ?_; rintro e w' ⟨rfl, hw⟩; subst hw)
        go_ret
        exact ⟨by rw [← HT.out]; rfl, hbel⟩
end Go.Proofs.YtaekgomplkkocabDoor

namespace Go.Proofs.YtaekgomplkkocabDoor
open Go.RowKit
set_option linter.unusedVariables false

/-- The slice is the number u, without noughts at its end. -/
structure ND (w : World) (a : Option Addr) (l c u : Nat) : Prop where
  sl : Sl w a l c (wd.dcells l (u : Int))
  len : l = wd.nlen u
/-- The slice is the number u, and not too long. -/
structure NI (w : World) (a : Option Addr) (l c u : Nat) : Prop where
  sl : Sl w a l c (wd.dcells l (u : Int))
  lt : u < 4294967296 ^ l
  few : l ≤ 1000000
theorem ND.below {w w' : World} {a : Option Addr} {l c u : Nat} (h : ND w a l c u) (hb : Below w.heap.size w w') : ND w' a l c u := ⟨h.sl.below hb, h.len⟩
theorem NI.below {w w' : World} {a : Option Addr} {l c u : Nat} (h : NI w a l c u) (hb : Below w.heap.size w w') : NI w' a l c u := ⟨h.sl.below hb, h.lt, h.few⟩
theorem ND.lt {w : World} {a : Option Addr} {l c u : Nat} (h : ND w a l c u) : u < 4294967296 ^ l := by rw [h.len]; exact wd.nlen_lt u
theorem ND.ni {w : World} {a : Option Addr} {l c u : Nat} (h : ND w a l c u) (K : Nat) (hK : K ≤ 1000000) (hu : u < 4294967296 ^ K) : NI w a l c u := ⟨h.sl, h.lt, by rw [h.len]; exact Nat.le_trans (wd.nlen_le hu) hK⟩
theorem ND.to {w : World} {a : Option Addr} {l c u : Nat} (h : ND w a l c u) (hl : l ≤ 1000000) : NI w a l c u := ⟨h.sl, h.lt, hl⟩
theorem nd_nil (w : World) : ND w none 0 0 0 := ⟨sl_nil w, wd.nlen_zero.symm⟩
def GotN (w : World) (u : Nat) (e : Ending) (w' : World) : Prop := ∃ a l c, e = .returned (.slice a l c) ∧ ND w' a l c u ∧ Below w.heap.size w w'
theorem gotN {w w' : World} {u : Nat} {e : Ending} (h : ∃ a' cap', e = .returned (.slice a' (wd.nlen u) cap') ∧ Own w' w.heap.size 53 a' (wd.nlen u) cap' (wd.dcells (wd.nlen u) (u : Int)) ∧ Below w.heap.size w w') : GotN w u e w' := by
  obtain ⟨a, c, he, ho, hb⟩ := h
  exact ⟨a, _, c, he, ⟨Own.sl ho, rfl⟩, hb⟩
def GotB (w : World) (q r : Nat) (e : Ending) (w' : World) : Prop := ∃ aq lq cq ar lr cr, e = .returned (.tuple #[.slice aq lq cq, .slice ar lr cr, .int .i64 0]) ∧ ND w' aq lq cq q ∧ ND w' ar lr cr r ∧ Below w.heap.size w w'
def GotS (w : World) (u : Nat) (e : Ending) (w' : World) : Prop := ∃ a l c, e = .returned (.tuple #[.slice a l c, .bool true]) ∧ ND w' a l c u ∧ Below w.heap.size w w'
theorem nTrim (a : Option Addr) (l c u : Nat) (w : World) (h : NI w a l c u) : Calls Tryd.prog 47 #[.slice a l c] w (GotN w u) :=
  (trim_any a l c u w h.sl h.lt (by have := h.few; omega)).mono fun _ _ h => gotN h
theorem nOf (x : Nat) (hx : x < 18446744073709551616) {xv : Int} (hxv : xv = (x : Int)) (w : World) : Calls Tryd.prog 25 #[.int .u64 xv] w (GotN w x) :=
  (of_any x hx hxv w).mono fun _ _ h => gotN h
theorem nAdd (a b : Option Addr) (la lb ca cb u v : Nat) (w : World) (ha : NI w a la ca u) (hb : NI w b lb cb v) : Calls Tryd.prog 44 #[.slice a la ca, .slice b lb cb] w (GotN w (u + v)) :=
  (add_any a b la lb ca cb u v w ha.sl ha.lt (by have := ha.few; omega) hb.sl hb.lt (by have := hb.few; omega)).mono fun _ _ h => gotN h
theorem nMul (a b : Option Addr) (la lb ca cb u v : Nat) (w : World) (ha : NI w a la ca u) (hb : NI w b lb cb v) : Calls Tryd.prog 35 #[.slice a la ca, .slice b lb cb] w (GotN w (u * v)) :=
  (mul_any a b la lb ca cb u v w ha.sl ha.lt (by have := ha.few; omega) hb.sl hb.lt (by have := hb.few; omega)).mono fun _ _ h => gotN h
theorem nSubY (a b : Option Addr) (la lb ca cb u v : Nat) (w : World) (ha : NI w a la ca u) (hb : NI w b lb cb v) (hle : v ≤ u) : Calls Tryd.prog 56 #[.slice a la ca, .slice b lb cb] w (GotS w (u - v)) :=
  (sub_yes a b la lb ca cb u v w ha.sl ha.lt (by have := ha.few; omega) hb.sl hb.lt hle).mono fun _ _ h => by
    obtain ⟨a, c, he, ho, hb⟩ := h
    exact ⟨a, _, c, he, ⟨Own.sl ho, rfl⟩, hb⟩
theorem nSubN (a b : Option Addr) (la lb ca cb u v : Nat) (w : World) (ha : NI w a la ca u) (hb : NI w b lb cb v) (hlt : u < v) : Calls Tryd.prog 56 #[.slice a la ca, .slice b lb cb] w fun e w' => e = .returned (.tuple #[.slice none 0 0, .bool false]) ∧ Below w.heap.size w w' :=
  sub_no a b la lb ca cb u v w ha.sl ha.lt hb.sl hb.lt hlt
theorem nDiv (a b : Option Addr) (la lb ca cb u v : Nat) (w : World) (ha : NI w a la ca u) (hb : NI w b lb cb v) (h0 : 0 < v) : Calls Tryd.prog 32 #[.slice a la ca, .slice b lb cb] w (GotB w (u / v) (u % v)) :=
  (divMod_any a b la lb ca cb u v w ha.sl ha.lt (by have := ha.few; omega) hb.sl hb.lt h0).mono fun _ _ h => by
    obtain ⟨aq, cq, ar, cr, he, hq, hr, hb⟩ := h
    exact ⟨aq, _, cq, ar, _, cr, he, ⟨Own.sl hq, rfl⟩, ⟨Own.sl hr, rfl⟩, hb⟩
theorem nDiv0 (a b : Option Addr) (la lb ca cb u v : Nat) (w : World) (ha : NI w a la ca u) (hb : NI w b lb cb v) (h0 : v = 0) : Calls Tryd.prog 32 #[.slice a la ca, .slice b lb cb] w fun e w' => e = .returned (.tuple #[.slice none 0 0, .slice none 0 0, .int .i64 3]) ∧ w = w' := by
  subst h0
  exact divMod_zero a b la lb ca cb u w ha.sl ha.lt hb.sl
theorem nCmp (a b : Option Addr) (la lb ca cb u v : Nat) (w : World) (ha : NI w a la ca u) (hb : NI w b lb cb v) {c : Int} (hc : c = cmpI u v) : Calls Tryd.prog 24 #[.slice a la ca, .slice b lb cb] w fun e w' => e = .returned (.int .i64 c) ∧ Below w.heap.size w w' := by
  subst hc
  exact cmp_any a b la lb ca cb u v w ha.sl ha.lt hb.sl hb.lt
theorem nBits (a : Option Addr) (la ca u : Nat) (w : World) (ha : NI w a la ca u) {n : Nat} (hn : n = bt.nlen u) : Calls Tryd.prog 30 #[.slice a la ca] w fun e w' => e = .returned (.int .i64 (n : Int)) ∧ w = w' := by
  subst hn
  exact bits_any a la ca u w ha.sl ha.lt (by have := ha.few; omega)
theorem nShow (a : Option Addr) (la ca u : Nat) (w : World) (ha : NI w a la ca u) {s : ByteArray} (hs : s = decS u) : Calls Tryd.prog 27 #[.slice a la ca] w fun e w' => e = .returned (.string s) ∧ Below w.heap.size w w' := by
  subst hs
  exact show_any a la ca u w ha.sl ha.lt (by have := ha.few; omega)
end Go.Proofs.YtaekgomplkkocabDoor

namespace Go.Proofs.YtaekgomplkkocabDoor
open Go.RowKit
set_option linter.unusedVariables false

/-- The slice has nothing in block k. -/
def NA (k : Nat) (a : Option Addr) (l : Nat) : Prop := l = 0 ∨ ∀ o, a ≠ some ⟨k, o, none⟩
/-- The slice has nothing in the blocks ahead of base. -/
def Far (base : Nat) (a : Option Addr) (l : Nat) : Prop := ∀ k, k < base → NA k a l
theorem Far.mono {base base' : Nat} {a : Option Addr} {l : Nat} (h : Far base a l) (hb : base' ≤ base) : Far base' a l := fun k hk => h k (by omega)
theorem far_nil (base : Nat) (a : Option Addr) : Far base a 0 := fun _ _ => Or.inl rfl
theorem Sl.na {w : World} {a : Option Addr} {l c k : Nat} {xs : List Value} (h : Sl w a l c xs) (hk : w.heap.size ≤ k) : NA k a l := by
  rcases Nat.eq_zero_or_pos l with e | e
  · exact Or.inl e
  · obtain ⟨b, o, rfl, hb, _⟩ := h.at e
    exact Or.inr fun o' e' => by cases e'; omega
theorem Sl.put {w : World} {a : Option Addr} {l c b : Nat} {xs : List Value} (h : Sl w a l c xs) (hn : NA b a l) (i : Nat) (v : Value) : Sl (w.setCell ⟨b, i, none⟩ v) a l c xs := by
  refine ⟨h.len, h.room, h.big, h.nil, ?_⟩
  rcases hn with e | hn
  · exact Or.inl e
  · refine h.seg.imp id ?_
    rintro ⟨k, o, e, hk, hs⟩
    exact ⟨k, o, e, by simpa using hk, hs.other v (by rintro rfl; exact hn o e)⟩
theorem Own.far {w : World} {base n cap : Nat} {T : TypeId} {a : Option Addr} {xs : List Value} (h : Own w base T a n cap xs) : Far base a n := by
  intro k hk
  right
  intro o e
  obtain ⟨hl, ⟨h1, _⟩ | ⟨g, cap', cur, hv, hb', r⟩⟩ := h
  · rw [e] at h1
    cases h1
  · rw [e] at hv
    cases hv
    omega
theorem ND.put {w : World} {a : Option Addr} {l c u b : Nat} (h : ND w a l c u) (hn : NA b a l) (i : Nat) (v : Value) : ND (w.setCell ⟨b, i, none⟩ v) a l c u := ⟨h.sl.put hn i v, h.len⟩
theorem NI.put {w : World} {a : Option Addr} {l c u b : Nat} (h : NI w a l c u) (hn : NA b a l) (i : Nat) (v : Value) : NI (w.setCell ⟨b, i, none⟩ v) a l c u := ⟨h.sl.put hn i v, h.lt, h.few⟩
def GotF (w : World) (u : Nat) (e : Ending) (w' : World) : Prop := ∃ a l c, e = .returned (.slice a l c) ∧ ND w' a l c u ∧ Far w.heap.size a l ∧ Below w.heap.size w w'
theorem gotF {w w' : World} {u : Nat} {e : Ending} (h : ∃ a' cap', e = .returned (.slice a' (wd.nlen u) cap') ∧ Own w' w.heap.size 53 a' (wd.nlen u) cap' (wd.dcells (wd.nlen u) (u : Int)) ∧ Below w.heap.size w w') : GotF w u e w' := by
  obtain ⟨a, c, he, ho, hb⟩ := h
  exact ⟨a, _, c, he, ⟨Own.sl ho, rfl⟩, Own.far ho, hb⟩
def GotBF (w : World) (q r : Nat) (e : Ending) (w' : World) : Prop := ∃ aq lq cq ar lr cr, e = .returned (.tuple #[.slice aq lq cq, .slice ar lr cr, .int .i64 0]) ∧ ND w' aq lq cq q ∧ ND w' ar lr cr r ∧ Far w.heap.size aq lq ∧ Far w.heap.size ar lr ∧ Below w.heap.size w w'
def GotSF (w : World) (u : Nat) (e : Ending) (w' : World) : Prop := ∃ a l c, e = .returned (.tuple #[.slice a l c, .bool true]) ∧ ND w' a l c u ∧ Far w.heap.size a l ∧ Below w.heap.size w w'
theorem fTrim (a : Option Addr) (l c u : Nat) (w : World) (h : NI w a l c u) : Calls Tryd.prog 47 #[.slice a l c] w (GotF w u) :=
  (trim_any a l c u w h.sl h.lt (by have := h.few; omega)).mono fun _ _ h => gotF h
theorem fOf (x : Nat) (hx : x < 18446744073709551616) {xv : Int} (hxv : xv = (x : Int)) (w : World) : Calls Tryd.prog 25 #[.int .u64 xv] w (GotF w x) :=
  (of_any x hx hxv w).mono fun _ _ h => gotF h
theorem fAdd (a b : Option Addr) (la lb ca cb u v : Nat) (w : World) (ha : NI w a la ca u) (hb : NI w b lb cb v) : Calls Tryd.prog 44 #[.slice a la ca, .slice b lb cb] w (GotF w (u + v)) :=
  (add_any a b la lb ca cb u v w ha.sl ha.lt (by have := ha.few; omega) hb.sl hb.lt (by have := hb.few; omega)).mono fun _ _ h => gotF h
theorem fMul (a b : Option Addr) (la lb ca cb u v : Nat) (w : World) (ha : NI w a la ca u) (hb : NI w b lb cb v) : Calls Tryd.prog 35 #[.slice a la ca, .slice b lb cb] w (GotF w (u * v)) :=
  (mul_any a b la lb ca cb u v w ha.sl ha.lt (by have := ha.few; omega) hb.sl hb.lt (by have := hb.few; omega)).mono fun _ _ h => gotF h
theorem fSubY (a b : Option Addr) (la lb ca cb u v : Nat) (w : World) (ha : NI w a la ca u) (hb : NI w b lb cb v) (hle : v ≤ u) : Calls Tryd.prog 56 #[.slice a la ca, .slice b lb cb] w (GotSF w (u - v)) :=
  (sub_yes a b la lb ca cb u v w ha.sl ha.lt (by have := ha.few; omega) hb.sl hb.lt hle).mono fun _ _ h => by
    obtain ⟨a, c, he, ho, hb⟩ := h
    exact ⟨a, _, c, he, ⟨Own.sl ho, rfl⟩, Own.far ho, hb⟩
theorem fDiv (a b : Option Addr) (la lb ca cb u v : Nat) (w : World) (ha : NI w a la ca u) (hb : NI w b lb cb v) (h0 : 0 < v) : Calls Tryd.prog 32 #[.slice a la ca, .slice b lb cb] w (GotBF w (u / v) (u % v)) :=
  (divMod_any a b la lb ca cb u v w ha.sl ha.lt (by have := ha.few; omega) hb.sl hb.lt h0).mono fun _ _ h => by
    obtain ⟨aq, cq, ar, cr, he, hq, hr, hb⟩ := h
    exact ⟨aq, _, cq, ar, _, cr, he, ⟨Own.sl hq, rfl⟩, ⟨Own.sl hr, rfl⟩, Own.far hq, Own.far hr, hb⟩
theorem cell_on {w w' : World} {p : Addr} {v : Value} (hb : Below w.heap.size w w') (h : w.cell? p = some v) : w'.cell? p = some v := by
  refine (hb.cell (p := p) ?_).trans h
  refine Nat.lt_of_not_le fun hle => ?_
  unfold World.cell? at h
  rw [Array.getElem?_eq_none hle] at h
  simp at h
theorem free_on {w w' : World} {p : Addr} {v : Value} {f : Bool} (hb : Below w.heap.size w w') (h : w.cell? p = some v) (hf : w.frozen? p = f) : w'.frozen? p = f := by
  refine (hb.frozen (p := p) ?_).trans hf
  refine Nat.lt_of_not_le fun hle => ?_
  unfold World.cell? at h
  rw [Array.getElem?_eq_none hle] at h
  simp at h
/-- A block of two cells: what they hold, and that they can be written. -/
structure Bx (w : World) (b : Nat) (x y : Value) : Prop where
  c0 : w.cell? ⟨b, 0, none⟩ = some x
  c1 : w.cell? ⟨b, 1, none⟩ = some y
  f0 : w.frozen? ⟨b, 0, none⟩ = false
  f1 : w.frozen? ⟨b, 1, none⟩ = false
theorem Bx.on {w w' : World} {b : Nat} {x y : Value} (h : Bx w b x y) (hb : Below w.heap.size w w') : Bx w' b x y := ⟨cell_on hb h.c0, cell_on hb h.c1, free_on hb h.c0 h.f0, free_on hb h.c1 h.f1⟩
theorem bx_new (w : World) (x y : Value) (t : TypeId) : Bx (w.alloc (.cells #[x, y] t)) w.heap.size x y := by
  have h := Row.new w [x, y] t
  exact ⟨h.cell 0 _ rfl, h.cell 1 _ rfl, h.free 0 (by simp), h.free 1 (by simp)⟩
theorem bx_lt {w : World} {b : Nat} {x y : Value} (h : Bx w b x y) : b < w.heap.size := by
  refine Nat.lt_of_not_le fun hle => ?_
  have := h.c0
  unfold World.cell? at this
  rw [Array.getElem?_eq_none hle] at this
  simp at this
theorem Bx.put {w : World} {b k i : Nat} {x y v : Value} (h : Bx w b x y) (hk : k ≠ b) : Bx (w.setCell ⟨k, i, none⟩ v) b x y := by
  have hne : ∀ j, (⟨k, i, none⟩ : Addr) ≠ ⟨b, j, none⟩ := fun j e => by cases e; exact hk rfl
  refine ⟨?_, ?_, by rw [World.frozen?_setCell]; exact h.f0, by rw [World.frozen?_setCell]; exact h.f1⟩
  · rw [World.cell?_setCell_other _ _ _ _ (by intro q; simp only [Addr.mk.injEq] at q; omega)]; exact h.c0
  · rw [World.cell?_setCell_other _ _ _ _ (by intro q; simp only [Addr.mk.injEq] at q; omega)]; exact h.c1
theorem Bx.set {w : World} {b : Nat} {x y u v : Value} (h : Bx w b x y) : Bx ((w.setCell ⟨b, 0, none⟩ u).setCell ⟨b, 1, none⟩ v) b u v := by
  refine ⟨?_, ?_, by rw [World.frozen?_setCell, World.frozen?_setCell]; exact h.f0, by rw [World.frozen?_setCell, World.frozen?_setCell]; exact h.f1⟩
  · rw [World.cell?_setCell_other _ _ _ _ (by intro q; simp only [Addr.mk.injEq] at q; omega)]
    exact World.cell?_setCell_same _ _ _ h.c0
  · have h1 : (w.setCell ⟨b, 0, none⟩ u).cell? ⟨b, 1, none⟩ = some y := by
      rw [World.cell?_setCell_other _ _ _ _ (by intro q; simp only [Addr.mk.injEq] at q; omega)]
      exact h.c1
    exact World.cell?_setCell_same _ _ _ h1
end Go.Proofs.YtaekgomplkkocabDoor

namespace Go.Proofs.YtaekgomplkkocabDoor
open Go.RowKit
set_option linter.unusedVariables false

/-- A whole number as it comes: a sign, which does not count of nought, and how much. -/
structure WI (w : World) (n : Bool) (a : Option Addr) (l c : Nat) (z : Int) : Prop where
  ni : NI w a l c z.natAbs
  neg : n = true → z ≤ 0
  pos : n = false → 0 ≤ z
/-- A whole number in its one form. -/
structure WN (w : World) (n : Bool) (a : Option Addr) (l c : Nat) (z : Int) : Prop where
  nd : ND w a l c z.natAbs
  sg : n = decide (z < 0)
theorem WI.below {w w' : World} {n : Bool} {a : Option Addr} {l c : Nat} {z : Int} (h : WI w n a l c z) (hb : Below w.heap.size w w') : WI w' n a l c z := ⟨h.ni.below hb, h.neg, h.pos⟩
theorem WN.below {w w' : World} {n : Bool} {a : Option Addr} {l c : Nat} {z : Int} (h : WN w n a l c z) (hb : Below w.heap.size w w') : WN w' n a l c z := ⟨h.nd.below hb, h.sg⟩
theorem WN.wi {w : World} {n : Bool} {a : Option Addr} {l c : Nat} {z : Int} (h : WN w n a l c z) (K : Nat) (hK : K ≤ 1000000) (hz : z.natAbs < 4294967296 ^ K) : WI w n a l c z :=
  ⟨h.nd.ni K hK hz, fun e => by have := h.sg; rw [e] at this; have := of_decide_eq_true this.symm; omega, fun e => by have := h.sg; rw [e] at this; have := of_decide_eq_false this.symm; omega⟩
/-- The number of a sign and how much. -/
def sgz (n : Bool) (u : Nat) : Int := if n then -(u : Int) else u
theorem sgz_abs (n : Bool) (u : Nat) : (sgz n u).natAbs = u := by unfold sgz; split <;> omega
theorem WI.is {w : World} {n : Bool} {a : Option Addr} {l c : Nat} {z : Int} (h : WI w n a l c z) : z = sgz n z.natAbs := by
  have h1 := h.neg
  have h2 := h.pos
  unfold sgz
  cases n
  · have := h2 rfl; simp; omega
  · have := h1 rfl; simp; omega
theorem wi_of {w : World} {n : Bool} {a : Option Addr} {l c u : Nat} (h : NI w a l c u) : WI w n a l c (sgz n u) := by
  refine ⟨by rw [sgz_abs]; exact h, fun e => ?_, fun e => ?_⟩ <;> subst e <;> simp [sgz] <;> omega
def GotW (w : World) (z : Int) (e : Ending) (w' : World) : Prop := ∃ (n : Bool) (a : Option Addr) (l c : Nat), e = .returned (.agg #[.bool n, .slice a l c]) ∧ WN w' n a l c z ∧ Far w.heap.size a l ∧ Below w.heap.size w w'

theorem WN.put {w : World} {n : Bool} {a : Option Addr} {l c b : Nat} {z : Int} (h : WN w n a l c z) (hn : NA b a l) (i : Nat) (v : Value) : WN (w.setCell ⟨b, i, none⟩ v) n a l c z := ⟨h.nd.put hn i v, h.sg⟩
theorem WI.put {w : World} {n : Bool} {a : Option Addr} {l c b : Nat} {z : Int} (h : WI w n a l c z) (hn : NA b a l) (i : Nat) (v : Value) : WI (w.setCell ⟨b, i, none⟩ v) n a l c z := ⟨h.ni.put hn i v, h.neg, h.pos⟩
theorem WN.put2 {w : World} {n : Bool} {a : Option Addr} {l c b : Nat} {z : Int} (h : WN w n a l c z) (hn : NA b a l) (u v : Value) : WN ((w.setCell ⟨b, 0, none⟩ u).setCell ⟨b, 1, none⟩ v) n a l c z := (h.put hn 0 u).put hn 1 v
theorem WI.put2 {w : World} {n : Bool} {a : Option Addr} {l c b : Nat} {z : Int} (h : WI w n a l c z) (hn : NA b a l) (u v : Value) : WI ((w.setCell ⟨b, 0, none⟩ u).setCell ⟨b, 1, none⟩ v) n a l c z := (h.put hn 0 u).put hn 1 v
theorem below_put2 {B b : Nat} {w w' : World} (h : Below B w w') (hb : B ≤ b) (u v : Value) : Below B w ((w'.setCell ⟨b, 0, none⟩ u).setCell ⟨b, 1, none⟩ v) := (h.setCell hb _).setCell hb _
set_option maxHeartbeats 1000000 in
theorem signed_run (n : Bool) (a : Option Addr) (l c : Nat) (w : World) : Calls Tryd.prog 34 #[.bool n, .slice a l c] w fun e w' => e = .returned (.agg #[.bool (n && decide (0 < l)), .slice a l c]) ∧ Below w.heap.size w w' := by
  cases n
  · go_enter Tryd.func34, Tryd.ntmps34
    go_wp2
    refine bodyPost_ret (v := .agg #[.bool false, .slice a l c]) (by simp [results, Tryd.results34, go_sem, *]) rfl ⟨by simp, (Below.refl _ _).alloc (Nat.le_refl _) _⟩
  · rcases Nat.eq_zero_or_pos l with h0 | h0
    · subst h0
      go_enter Tryd.func34, Tryd.ntmps34
      go_wp2
      refine bodyPost_ret (v := .agg #[.bool false, .slice a 0 c]) (by simp [results, Tryd.results34, go_sem, *]) rfl ⟨by simp, (Below.refl _ _).alloc (Nat.le_refl _) _⟩
    · have h1 : (0 : Int) < l := by omega
      go_enter Tryd.func34, Tryd.ntmps34
      go_wp2
      refine bodyPost_ret (v := .agg #[.bool true, .slice a l c]) (by simp [results, Tryd.results34, go_sem, *]) rfl ⟨by simp [h0], (Below.refl _ _).alloc (Nat.le_refl _) _⟩
/-- The number with this sign, in its one form. -/
def Signed (w : World) (a : Option Addr) (l c : Nat) (z : Int) (e : Ending) (w' : World) : Prop := ∃ n, e = .returned (.agg #[.bool n, .slice a l c]) ∧ WN w' n a l c z ∧ Below w.heap.size w w'
theorem wSigned (n : Bool) (a : Option Addr) (l c u : Nat) (w : World) (h : ND w a l c u) (z : Int) (hz : z = sgz n u) : Calls Tryd.prog 34 #[.bool n, .slice a l c] w (Signed w a l c z) := by
  refine (signed_run n a l c w).mono ?_
  rintro e w' ⟨he, hb⟩
  refine ⟨_, he, ⟨by rw [hz, sgz_abs]; exact h.below hb, ?_⟩, hb⟩
  have hl : 0 < l ↔ 0 < u := by
    rw [h.len]
    constructor
    · intro h0
      rcases Nat.eq_zero_or_pos u with e | e
      · rw [e, wd.nlen_zero] at h0; omega
      · exact e
    · exact wd.nlen_pos
  rw [hz]
  unfold sgz
  cases n
  · simp
  · simp [hl]
theorem add_same (n : Bool) (u v : Nat) : sgz n (u + v) = sgz n u + sgz n v := by unfold sgz; split <;> omega
theorem add_more (n m : Bool) (u v : Nat) (h : n ≠ m) (hle : v ≤ u) : sgz n (u - v) = sgz n u + sgz m v := by
  unfold sgz
  cases n <;> cases m <;> simp_all <;> omega
theorem add_less (n m : Bool) (u v : Nat) (h : n ≠ m) (hle : u ≤ v) : sgz m (v - u) = sgz n u + sgz m v := by
  unfold sgz
  cases n <;> cases m <;> simp_all <;> omega

theorem endW {w W w2 : World} {n : Bool} {a : Option Addr} {l c : Nat} {z : Int} (k : Nat) (hk : w.heap.size ≤ k) (hs : k < W.heap.size) (B : Below w.heap.size w w2) (h : WN w2 n a l c z) (f : Far W.heap.size a l) (u v : Value) :
    GotW w z (.returned (.agg #[.bool n, .slice a l c])) ((w2.setCell ⟨k, 0, none⟩ u).setCell ⟨k, 1, none⟩ v) :=
  ⟨n, a, l, c, rfl, h.put2 (f k hs) u v, f.mono (by omega), below_put2 B hk u v⟩
theorem also {w w1 w2 : World} (h : Below w.heap.size w w1) (k : Below w1.heap.size w1 w2) : Below w.heap.size w w2 := h.trans (k.mono h.size)

set_option maxRecDepth 100000 in
set_option maxHeartbeats 1000000 in
theorem wPlus (n m : Bool) (a b : Option Addr) (la lb ca cb u v : Nat) (w : World) (ha : NI w a la ca u) (hb : NI w b lb cb v) (z : Int) (hz : z = sgz n u + sgz m v) :
    Calls Tryd.prog 37 #[.bool n, .slice a la ca, .bool m, .slice b lb cb] w (GotW w z) := by
  have HZ : Hid _ := hz
  clear hz
  have B0 : Below w.heap.size w (w.alloc (.cells #[.bool false, .slice none 0 0] 25)) := (Below.refl _ _).alloc (Nat.le_refl _) _
  have x0 := bx_new w (.bool false) (.slice none 0 0) 25
  have na := ha.below B0
  have nb := hb.below B0
  obtain ⟨W, hW⟩ : ∃ W, W = w.alloc (.cells #[.bool false, .slice none 0 0] 25) := ⟨_, rfl⟩
  rw [← hW] at B0 x0 na nb
  have hs : w.heap.size < W.heap.size := by rw [hW]; simp
  by_cases hnm : n = m
  · subst hnm
    go_enter Tryd.func37, Tryd.ntmps37
    go_wp2_with (go_at_call 44; fail)
    rw [← hW]
    clear hW
    refine (fAdd a b la lb ca cb u v W na nb).mono ?_
    rintro e w1 ⟨a1, l1, c1, rfl, h1, f1, b1⟩
    go_wp2_with (go_at_call 34; fail)
    refine (wSigned n a1 l1 c1 (u + v) w1 h1 z (by rw [HZ.out, add_same])).mono ?_
    rintro e w2 ⟨n2, rfl, h2, b2⟩
    obtain ⟨k0, k1, k2, k3⟩ := (x0.on b1).on b2
    go_wp2
    exact bodyPost_ret (v := .agg #[.bool n2, .slice a1 l1 c1]) (by simp [results, Tryd.results37, go_sem, *]) rfl (endW _ (Nat.le_refl _) hs (also (also B0 b1) b2) h2 (f1.mono (Nat.le_refl _)) _ _)
  · have hnm' : (n == m) = false := by simpa using hnm
    rcases Nat.lt_or_ge u v with hlt | hge
    · go_enter Tryd.func37, Tryd.ntmps37
      go_wp2_with (go_at_call 56; fail)
      rw [← hW]
      clear hW
      refine (nSubN a b la lb ca cb u v W na nb hlt).mono ?_
      rintro e w1 ⟨rfl, b1⟩
      go_wp2_with (go_at_call 56; fail)
      refine (fSubY b a lb la cb ca v u w1 (nb.below b1) (na.below b1) (Nat.le_of_lt hlt)).mono ?_
      rintro e w2 ⟨a2, l2, c2, rfl, h2, f2, b2⟩
      go_wp2_with (go_at_call 34; fail)
      refine (wSigned m a2 l2 c2 (v - u) w2 h2 z (by rw [HZ.out, add_less n m u v hnm (by omega)])).mono ?_
      rintro e w3 ⟨n3, rfl, h3, b3⟩
      obtain ⟨k0, k1, k2, k3⟩ := ((x0.on b1).on b2).on b3
      go_wp2
      exact bodyPost_ret (v := .agg #[.bool n3, .slice a2 l2 c2]) (by simp [results, Tryd.results37, go_sem, *]) rfl (endW (W := W) _ (Nat.le_refl _) hs (also (also (also B0 b1) b2) b3) h3 (f2.mono b1.size) _ _)
    · go_enter Tryd.func37, Tryd.ntmps37
      go_wp2_with (go_at_call 56; fail)
      rw [← hW]
      clear hW
      refine (fSubY a b la lb ca cb u v W na nb hge).mono ?_
      rintro e w2 ⟨a2, l2, c2, rfl, h2, f2, b2⟩
      go_wp2_with (go_at_call 34; fail)
      refine (wSigned n a2 l2 c2 (u - v) w2 h2 z (by rw [HZ.out, add_more n m u v hnm hge])).mono ?_
      rintro e w3 ⟨n3, rfl, h3, b3⟩
      obtain ⟨k0, k1, k2, k3⟩ := (x0.on b2).on b3
      go_wp2
      exact bodyPost_ret (v := .agg #[.bool n3, .slice a2 l2 c2]) (by simp [results, Tryd.results37, go_sem, *]) rfl (endW (W := W) _ (Nat.le_refl _) hs (also (also B0 b2) b3) h3 f2 _ _)
end Go.Proofs.YtaekgomplkkocabDoor

namespace Go.Proofs.YtaekgomplkkocabDoor
open Go.RowKit
set_option linter.unusedVariables false

theorem box1 (w : World) (x1 y1 z1 z2 : Value) (t1 t2 : TypeId) : Below w.heap.size w ((w.alloc (.cells #[x1, y1] t1)).alloc (.cells #[z1, z2] t2)) ∧ Bx ((w.alloc (.cells #[x1, y1] t1)).alloc (.cells #[z1, z2] t2)) w.heap.size x1 y1 ∧
    Bx ((w.alloc (.cells #[x1, y1] t1)).alloc (.cells #[z1, z2] t2)) (w.heap.size + 1) z1 z2 ∧ w.heap.size + 1 < ((w.alloc (.cells #[x1, y1] t1)).alloc (.cells #[z1, z2] t2)).heap.size := by
  have h1 := (bx_new w x1 y1 t1).on ((Below.refl _ _).alloc (Nat.le_refl _) (.cells #[z1, z2] t2))
  have h2 := bx_new (w.alloc (.cells #[x1, y1] t1)) z1 z2 t2
  rw [World.size_alloc] at h2
  exact ⟨((Below.refl _ _).alloc (Nat.le_refl _) _).alloc (by simp) _, h1, h2, by simp⟩
theorem box2 (w : World) (x1 y1 x2 y2 z1 z2 : Value) (t1 t2 t3 : TypeId) : Below w.heap.size w (((w.alloc (.cells #[x1, y1] t1)).alloc (.cells #[x2, y2] t2)).alloc (.cells #[z1, z2] t3)) ∧ Bx (((w.alloc (.cells #[x1, y1] t1)).alloc (.cells #[x2, y2] t2)).alloc (.cells #[z1, z2] t3)) w.heap.size x1 y1 ∧
    Bx (((w.alloc (.cells #[x1, y1] t1)).alloc (.cells #[x2, y2] t2)).alloc (.cells #[z1, z2] t3)) (w.heap.size + 1) x2 y2 ∧ Bx (((w.alloc (.cells #[x1, y1] t1)).alloc (.cells #[x2, y2] t2)).alloc (.cells #[z1, z2] t3)) (w.heap.size + 1 + 1) z1 z2 ∧
    w.heap.size + 1 + 1 < (((w.alloc (.cells #[x1, y1] t1)).alloc (.cells #[x2, y2] t2)).alloc (.cells #[z1, z2] t3)).heap.size := by
  obtain ⟨h1, h2, h3, h4⟩ := box1 w x1 y1 x2 y2 t1 t2
  have hb : Below ((w.alloc (.cells #[x1, y1] t1)).alloc (.cells #[x2, y2] t2)).heap.size ((w.alloc (.cells #[x1, y1] t1)).alloc (.cells #[x2, y2] t2)) (((w.alloc (.cells #[x1, y1] t1)).alloc (.cells #[x2, y2] t2)).alloc (.cells #[z1, z2] t3)) := (Below.refl _ _).alloc (Nat.le_refl _) _
  have h5 := bx_new ((w.alloc (.cells #[x1, y1] t1)).alloc (.cells #[x2, y2] t2)) z1 z2 t3
  rw [World.size_alloc, World.size_alloc] at h5
  exact ⟨also h1 hb, h2.on hb, h3.on hb, h5, by simp⟩
theorem keepB1 {n : Nat} {v1 v2 : Value} {w0 w w' : World} (h : w.cell? ⟨n, 0, none⟩ = some v1 ∧ w.cell? ⟨n, 1, none⟩ = some v2 ∧ Below w0.heap.size w0 w) (hb : Below w.heap.size w w') : w'.cell? ⟨n, 0, none⟩ = some v1 ∧ w'.cell? ⟨n, 1, none⟩ = some v2 ∧ Below w0.heap.size w0 w' :=
  ⟨cell_on hb h.1, cell_on hb h.2.1, also h.2.2 hb⟩
theorem keepB2 {n : Nat} {v1 v2 v3 v4 : Value} {w0 w w' : World} (h : w.cell? ⟨n, 0, none⟩ = some v1 ∧ w.cell? ⟨n, 1, none⟩ = some v2 ∧ w.cell? ⟨n + 1, 0, none⟩ = some v3 ∧ w.cell? ⟨n + 1, 1, none⟩ = some v4 ∧ Below w0.heap.size w0 w) (hb : Below w.heap.size w w') :
    w'.cell? ⟨n, 0, none⟩ = some v1 ∧ w'.cell? ⟨n, 1, none⟩ = some v2 ∧ w'.cell? ⟨n + 1, 0, none⟩ = some v3 ∧ w'.cell? ⟨n + 1, 1, none⟩ = some v4 ∧ Below w0.heap.size w0 w' :=
  ⟨cell_on hb h.1, cell_on hb h.2.1, cell_on hb h.2.2.1, cell_on hb h.2.2.2.1, also h.2.2.2.2 hb⟩
theorem keepS1 {n k : Nat} {v1 v2 : Value} {w0 w : World} (h : w.cell? ⟨n, 0, none⟩ = some v1 ∧ w.cell? ⟨n, 1, none⟩ = some v2 ∧ Below w0.heap.size w0 w) (hk : n < k) (hB : w0.heap.size ≤ k) (u v : Value) :
    ((w.setCell ⟨k, 0, none⟩ u).setCell ⟨k, 1, none⟩ v).cell? ⟨n, 0, none⟩ = some v1 ∧ ((w.setCell ⟨k, 0, none⟩ u).setCell ⟨k, 1, none⟩ v).cell? ⟨n, 1, none⟩ = some v2 ∧ Below w0.heap.size w0 ((w.setCell ⟨k, 0, none⟩ u).setCell ⟨k, 1, none⟩ v) := by
  have hne : ∀ i j : Nat, (⟨k, i, none⟩ : Addr) ≠ ⟨n, j, none⟩ := fun i j e => by simp only [Addr.mk.injEq] at e; omega
  exact ⟨by rw [World.cell?_setCell_other _ _ _ _ (hne _ _), World.cell?_setCell_other _ _ _ _ (hne _ _)]; exact h.1, by rw [World.cell?_setCell_other _ _ _ _ (hne _ _), World.cell?_setCell_other _ _ _ _ (hne _ _)]; exact h.2.1, below_put2 h.2.2 hB u v⟩
theorem keepS2 {n k : Nat} {v1 v2 v3 v4 : Value} {w0 w : World} (h : w.cell? ⟨n, 0, none⟩ = some v1 ∧ w.cell? ⟨n, 1, none⟩ = some v2 ∧ w.cell? ⟨n + 1, 0, none⟩ = some v3 ∧ w.cell? ⟨n + 1, 1, none⟩ = some v4 ∧ Below w0.heap.size w0 w) (hk : n + 1 < k) (hB : w0.heap.size ≤ k) (u v : Value) :
    ((w.setCell ⟨k, 0, none⟩ u).setCell ⟨k, 1, none⟩ v).cell? ⟨n, 0, none⟩ = some v1 ∧ ((w.setCell ⟨k, 0, none⟩ u).setCell ⟨k, 1, none⟩ v).cell? ⟨n, 1, none⟩ = some v2 ∧ ((w.setCell ⟨k, 0, none⟩ u).setCell ⟨k, 1, none⟩ v).cell? ⟨n + 1, 0, none⟩ = some v3 ∧ ((w.setCell ⟨k, 0, none⟩ u).setCell ⟨k, 1, none⟩ v).cell? ⟨n + 1, 1, none⟩ = some v4 ∧ Below w0.heap.size w0 ((w.setCell ⟨k, 0, none⟩ u).setCell ⟨k, 1, none⟩ v) := by
  obtain ⟨h1, h2, h3, h4, h5⟩ := h
  obtain ⟨a1, a2, _⟩ := keepS1 ⟨h1, h2, h5⟩ (by omega) hB u v
  obtain ⟨b1, b2, b3⟩ := keepS1 ⟨h3, h4, h5⟩ hk hB u v
  exact ⟨a1, a2, b1, b2, b3⟩
theorem Bx.drew {w : World} {b : Nat} {x y : Value} (h : Bx w b x y) : Bx w.drew b x y := ⟨h.c0, h.c1, h.f0, h.f1⟩
theorem sub_sg (n m : Bool) (u v : Nat) : sgz n u - sgz m v = sgz n u + sgz (!m) v := by
  unfold sgz
  cases m <;> simp <;> omega
theorem neg_sg (n : Bool) (u : Nat) : - sgz n u = sgz (!n) u := by
  unfold sgz
  cases n <;> simp

set_option maxRecDepth 100000 in
set_option maxHeartbeats 1000000 in
theorem wAdd (n m : Bool) (a b : Option Addr) (la lb ca cb : Nat) (x y : Int) (w : World) (ha : WI w n a la ca x) (hb : WI w m b lb cb y) (z : Int) (hz : z = x + y) :
    Calls Tryd.prog 20 #[.agg #[.bool n, .slice a la ca], .agg #[.bool m, .slice b lb cb]] w (GotW w z) := by
  have HZ : Hid (z = sgz n x.natAbs + sgz m y.natAbs) := by unfold Hid; rw [hz, ← ha.is, ← hb.is]
  clear hz
  obtain ⟨B0, xa, xb, xz, hs⟩ := box2 w (.bool n) (.slice a la ca) (.bool m) (.slice b lb cb) (.bool false) (.slice none 0 0) 25 25 25
  have na := ha.ni.below B0
  have nb := hb.ni.below B0
  go_enter Tryd.func20, Tryd.ntmps20
  go_wp2_with (go_at_call 37; fail)
  refine (wPlus n m a b la lb ca cb _ _ _ na nb z HZ.out).mono ?_
  rintro e w1 ⟨n1, a1, l1, c1, rfl, h1, f1, b1⟩
  obtain ⟨k0, k1, k2, k3⟩ := xz.on b1
  go_wp2
  exact bodyPost_ret (v := .agg #[.bool n1, .slice a1 l1 c1]) (by simp [results, Tryd.results20, go_sem, *]) rfl (endW _ (by omega) hs (also B0 b1) h1 f1 _ _)

set_option maxRecDepth 100000 in
set_option maxHeartbeats 1000000 in
theorem wSub (n m : Bool) (a b : Option Addr) (la lb ca cb : Nat) (x y : Int) (w : World) (ha : WI w n a la ca x) (hb : WI w m b lb cb y) (z : Int) (hz : z = x - y) :
    Calls Tryd.prog 22 #[.agg #[.bool n, .slice a la ca], .agg #[.bool m, .slice b lb cb]] w (GotW w z) := by
  have HZ : Hid (z = sgz n x.natAbs + sgz (!m) y.natAbs) := by unfold Hid; rw [hz, ← sub_sg, ← ha.is, ← hb.is]
  clear hz
  obtain ⟨B0, xa, xb, xz, hs⟩ := box2 w (.bool n) (.slice a la ca) (.bool m) (.slice b lb cb) (.bool false) (.slice none 0 0) 25 25 25
  have na := ha.ni.below B0
  have nb := hb.ni.below B0
  go_enter Tryd.func22, Tryd.ntmps22
  go_wp2_with (go_at_call 37; fail)
  refine (wPlus n (!m) a b la lb ca cb _ _ _ na nb z HZ.out).mono ?_
  rintro e w1 ⟨n1, a1, l1, c1, rfl, h1, f1, b1⟩
  obtain ⟨k0, k1, k2, k3⟩ := xz.on b1
  go_wp2
  exact bodyPost_ret (v := .agg #[.bool n1, .slice a1 l1 c1]) (by simp [results, Tryd.results22, go_sem, *]) rfl (endW _ (by omega) hs (also B0 b1) h1 f1 _ _)

set_option maxRecDepth 100000 in
set_option maxHeartbeats 1000000 in
theorem wNorm (n : Bool) (a : Option Addr) (la ca : Nat) (x : Int) (w : World) (ha : WI w n a la ca x) (z : Int) (hz : z = x) :
    Calls Tryd.prog 33 #[.agg #[.bool n, .slice a la ca]] w (GotW w z) := by
  have HZ : Hid (z = sgz n x.natAbs) := by unfold Hid; rw [hz]; exact ha.is
  clear hz
  obtain ⟨B0, xa, xz, hs⟩ := box1 w (.bool n) (.slice a la ca) (.bool false) (.slice none 0 0) 25 25
  replace B0 := B0.drew
  replace xa := xa.drew
  replace xz := xz.drew
  have na := ha.ni
  go_enter Tryd.func33, Tryd.ntmps33
  go_wp2
  refine wp_region_held_drew (S := (fun w' => w'.cell? ⟨w.heap.size, 0, none⟩ = some (.bool n) ∧ w'.cell? ⟨w.heap.size, 1, none⟩ = some (.slice a la ca) ∧ Below w.heap.size w w')) (by kernel_rfl) ?_ (fun hHeld => ?_)
  · first | exact keepB1 hHeld b2 | exact keepB1 hHeld b1 | exact ⟨xa.c0, xa.c1, B0⟩ | exact keepS1 hHeld (by omega) (by omega) _ _
  refine take_yes (i := 0) (v := ?v0) rfl (by kernel_rfl) (by kernel_rfl) (by kernel_rfl) (fun _ _ _ h => h) (by rfl) (by assumption) ?hy0 ?rest0
  case hy0 => (intro w hSw; (try dsimp only at hSw); first | (go_simp; done) | (go_simp; with_reducible rfl))
  simp only [Act.put, List.setIfInBounds_toArray, List.set_cons_zero, List.set_cons_succ]
  refine take_yes (i := 1) (v := ?v1) rfl (by kernel_rfl) (by kernel_rfl) (by kernel_rfl) (fun _ _ _ h => h) (by rfl) (by assumption) ?hy1 ?rest1
  case hy1 => (intro w hSw; (try dsimp only at hSw); first | (go_simp; done) | (go_simp; with_reducible rfl))
  simp only [Act.put, List.setIfInBounds_toArray, List.set_cons_zero, List.set_cons_succ]
  refine take_yes (i := 2) (v := ?v2) rfl (by kernel_rfl) (by kernel_rfl) (by kernel_rfl) (fun _ _ _ h => h) (by rfl) (by assumption) ?hy2 ?rest2
  case hy2 => (intro w hSw; (try dsimp only at hSw); first | (go_simp; done) | (go_simp; with_reducible rfl))
  simp only [Act.put, List.setIfInBounds_toArray, List.set_cons_zero, List.set_cons_succ]
  refine take_yes (i := 3) (v := ?v3) rfl (by kernel_rfl) (by kernel_rfl) (by kernel_rfl) (fun _ _ _ h => h) (by rfl) (by assumption) ?hy3 ?rest3
  case hy3 => (intro w hSw; (try dsimp only at hSw); first | (go_simp; done) | (go_simp; with_reducible rfl))
  simp only [Act.put, List.setIfInBounds_toArray, List.set_cons_zero, List.set_cons_succ]
  refine take_call (i := 4) rfl (by kernel_rfl) (fun K hK => ?_)
  go_simp
  first
      | (go_at_call 47; refine (fTrim a la ca _ _ (na.below hHeld.2.2)).mono ?_; rintro e w1 ⟨a1, l1, c1, rfl, h1, f1, b1⟩)
      | (go_at_call 34; refine (wSigned n a1 l1 c1 _ _ h1 z HZ.out).mono ?_; rintro e w2 ⟨n2, rfl, h2, b2⟩)
  refine hK.out _ _ ?_ (fun hHeld => ?_)
  · first | exact keepB1 hHeld b2 | exact keepB1 hHeld b1 | exact ⟨xa.c0, xa.c1, B0⟩ | exact keepS1 hHeld (by omega) (by omega) _ _
  clear hK K
  refine take_call (i := 5) rfl (by kernel_rfl) (fun K hK => ?_)
  go_simp
  first
      | (go_at_call 47; refine (fTrim a la ca _ _ (na.below hHeld.2.2)).mono ?_; rintro e w1 ⟨a1, l1, c1, rfl, h1, f1, b1⟩)
      | (go_at_call 34; refine (wSigned n a1 l1 c1 _ _ h1 z HZ.out).mono ?_; rintro e w2 ⟨n2, rfl, h2, b2⟩)
  refine hK.out _ _ ?_ (fun hHeld => ?_)
  · first | exact keepB1 hHeld b2 | exact keepB1 hHeld b1 | exact ⟨xa.c0, xa.c1, B0⟩ | exact keepS1 hHeld (by omega) (by omega) _ _
  clear hK K
  obtain ⟨k0, k1, k2, k3⟩ := (xz.on b1).on b2
  refine take_call (i := 6) rfl (by kernel_rfl) (fun K hK => ?_)
  go_simp
  refine hK.out _ _ ?_ (fun hHeld => ?_)
  · first | exact keepB1 hHeld b2 | exact keepB1 hHeld b1 | exact ⟨xa.c0, xa.c1, B0⟩ | exact keepS1 hHeld (by omega) (by omega) _ _
  clear hK K
  refine wpAnyH_done (by kernel_rfl) ?_ _
  go_wp2
  exact bodyPost_ret (v := .agg #[.bool n2, .slice a1 l1 c1]) (by simp [results, Tryd.results33, go_sem, *]) rfl (endW _ (by omega) hs (also (also B0 b1) b2) h2 f1 _ _)

theorem mul_sg (n m : Bool) (u v : Nat) : sgz n u * sgz m v = sgz (n != m) (u * v) := by
  unfold sgz
  cases n <;> cases m <;> simp [Int.natCast_mul, Int.mul_neg, Int.neg_mul]
set_option maxRecDepth 100000 in
set_option maxHeartbeats 1000000 in
theorem wMul (n m : Bool) (a b : Option Addr) (la lb ca cb : Nat) (x y : Int) (w : World) (ha : WI w n a la ca x) (hb : WI w m b lb cb y) (z : Int) (hz : z = x * y) :
    Calls Tryd.prog 17 #[.agg #[.bool n, .slice a la ca], .agg #[.bool m, .slice b lb cb]] w (GotW w z) := by
  have HZ : Hid (z = sgz (n != m) (x.natAbs * y.natAbs)) := by
    unfold Hid
    rw [hz, ← mul_sg, ← ha.is, ← hb.is]
  clear hz
  obtain ⟨B0, xa, xb, xz, hs⟩ := box2 w (.bool n) (.slice a la ca) (.bool m) (.slice b lb cb) (.bool false) (.slice none 0 0) 25 25 25
  replace B0 := B0.drew
  replace xa := xa.drew
  replace xb := xb.drew
  replace xz := xz.drew
  have na := ha.ni
  have nb := hb.ni
  go_enter Tryd.func17, Tryd.ntmps17
  go_wp2
  refine wp_region_held_drew (S := (fun w' => w'.cell? ⟨w.heap.size, 0, none⟩ = some (.bool n) ∧ w'.cell? ⟨w.heap.size, 1, none⟩ = some (.slice a la ca) ∧ w'.cell? ⟨w.heap.size + 1, 0, none⟩ = some (.bool m) ∧ w'.cell? ⟨w.heap.size + 1, 1, none⟩ = some (.slice b lb cb) ∧ Below w.heap.size w w')) (by kernel_rfl) ?_ (fun hHeld => ?_)
  · first | exact keepB2 hHeld b2 | exact keepB2 hHeld b1 | exact ⟨xa.c0, xa.c1, xb.c0, xb.c1, B0⟩ | exact keepS2 hHeld (by omega) (by omega) _ _
  refine take_yes (i := 0) (v := ?v0) rfl (by kernel_rfl) (by kernel_rfl) (by kernel_rfl) (fun _ _ _ h => h) (by rfl) (by assumption) ?hy0 ?rest0
  case hy0 => (intro w hSw; (try dsimp only at hSw); first | (go_simp; done) | (go_simp; with_reducible rfl))
  simp only [Act.put, List.setIfInBounds_toArray, List.set_cons_zero, List.set_cons_succ]
  refine take_yes (i := 1) (v := ?v1) rfl (by kernel_rfl) (by kernel_rfl) (by kernel_rfl) (fun _ _ _ h => h) (by rfl) (by assumption) ?hy1 ?rest1
  case hy1 => (intro w hSw; (try dsimp only at hSw); first | (go_simp; done) | (go_simp; with_reducible rfl))
  simp only [Act.put, List.setIfInBounds_toArray, List.set_cons_zero, List.set_cons_succ]
  refine take_yes (i := 2) (v := ?v2) rfl (by kernel_rfl) (by kernel_rfl) (by kernel_rfl) (fun _ _ _ h => h) (by rfl) (by assumption) ?hy2 ?rest2
  case hy2 => (intro w hSw; (try dsimp only at hSw); first | (go_simp; done) | (go_simp; with_reducible rfl))
  simp only [Act.put, List.setIfInBounds_toArray, List.set_cons_zero, List.set_cons_succ]
  refine take_yes (i := 3) (v := ?v3) rfl (by kernel_rfl) (by kernel_rfl) (by kernel_rfl) (fun _ _ _ h => h) (by rfl) (by assumption) ?hy3 ?rest3
  case hy3 => (intro w hSw; (try dsimp only at hSw); first | (go_simp; done) | (go_simp; with_reducible rfl))
  simp only [Act.put, List.setIfInBounds_toArray, List.set_cons_zero, List.set_cons_succ]
  refine take_yes (i := 4) (v := ?v4) rfl (by kernel_rfl) (by kernel_rfl) (by kernel_rfl) (fun _ _ _ h => h) (by rfl) (by assumption) ?hy4 ?rest4
  case hy4 => (intro w hSw; (try dsimp only at hSw); first | (go_simp; done) | (go_simp; with_reducible rfl))
  simp only [Act.put, List.setIfInBounds_toArray, List.set_cons_zero, List.set_cons_succ]
  refine take_yes (i := 5) (v := ?v5) rfl (by kernel_rfl) (by kernel_rfl) (by kernel_rfl) (fun _ _ _ h => h) (by rfl) (by assumption) ?hy5 ?rest5
  case hy5 => (intro w hSw; (try dsimp only at hSw); first | (go_simp; done) | (go_simp; with_reducible rfl))
  simp only [Act.put, List.setIfInBounds_toArray, List.set_cons_zero, List.set_cons_succ]
  refine take_yes (i := 6) (v := ?v6) rfl (by kernel_rfl) (by kernel_rfl) (by kernel_rfl) (fun _ _ _ h => h) (by rfl) (by assumption) ?hy6 ?rest6
  case hy6 => (intro w hSw; (try dsimp only at hSw); first | (go_simp; done) | (go_simp; with_reducible rfl))
  simp only [Act.put, List.setIfInBounds_toArray, List.set_cons_zero, List.set_cons_succ]
  refine take_yes (i := 7) (v := ?v7) rfl (by kernel_rfl) (by kernel_rfl) (by kernel_rfl) (fun _ _ _ h => h) (by rfl) (by assumption) ?hy7 ?rest7
  case hy7 => (intro w hSw; (try dsimp only at hSw); first | (go_simp; done) | (go_simp; with_reducible rfl))
  simp only [Act.put, List.setIfInBounds_toArray, List.set_cons_zero, List.set_cons_succ]
  refine take_yes (i := 8) (v := ?v8) rfl (by kernel_rfl) (by kernel_rfl) (by kernel_rfl) (fun _ _ _ h => h) (by rfl) (by assumption) ?hy8 ?rest8
  case hy8 => (intro w hSw; (try dsimp only at hSw); first | (go_simp; done) | (go_simp; with_reducible rfl))
  simp only [Act.put, List.setIfInBounds_toArray, List.set_cons_zero, List.set_cons_succ]
  refine take_call (i := 9) rfl (by kernel_rfl) (fun K hK => ?_)
  go_simp
  first
      | (go_at_call 35; refine (fMul a b la lb ca cb _ _ _ (na.below hHeld.2.2.2.2) (nb.below hHeld.2.2.2.2)).mono ?_; rintro e w1 ⟨a1, l1, c1, rfl, h1, f1, b1⟩)
      | (go_at_call 34; refine (wSigned (n != m) a1 l1 c1 _ _ h1 z HZ.out).mono ?_; rintro e w2 ⟨n2, rfl, h2, b2⟩)
  refine hK.out _ _ ?_ (fun hHeld => ?_)
  · first | exact keepB2 hHeld b2 | exact keepB2 hHeld b1 | exact ⟨xa.c0, xa.c1, xb.c0, xb.c1, B0⟩ | exact keepS2 hHeld (by omega) (by omega) _ _
  clear hK K
  refine take_call (i := 10) rfl (by kernel_rfl) (fun K hK => ?_)
  go_simp
  first
      | (go_at_call 35; refine (fMul a b la lb ca cb _ _ _ (na.below hHeld.2.2.2.2) (nb.below hHeld.2.2.2.2)).mono ?_; rintro e w1 ⟨a1, l1, c1, rfl, h1, f1, b1⟩)
      | (go_at_call 34; refine (wSigned (n != m) a1 l1 c1 _ _ h1 z HZ.out).mono ?_; rintro e w2 ⟨n2, rfl, h2, b2⟩)
  refine hK.out _ _ ?_ (fun hHeld => ?_)
  · first | exact keepB2 hHeld b2 | exact keepB2 hHeld b1 | exact ⟨xa.c0, xa.c1, xb.c0, xb.c1, B0⟩ | exact keepS2 hHeld (by omega) (by omega) _ _
  clear hK K
  obtain ⟨k0, k1, k2, k3⟩ := (xz.on b1).on b2
  refine take_call (i := 11) rfl (by kernel_rfl) (fun K hK => ?_)
  go_simp
  refine hK.out _ _ ?_ (fun hHeld => ?_)
  · first | exact keepB2 hHeld b2 | exact keepB2 hHeld b1 | exact ⟨xa.c0, xa.c1, xb.c0, xb.c1, B0⟩ | exact keepS2 hHeld (by omega) (by omega) _ _
  clear hK K
  refine wpAnyH_done (by kernel_rfl) ?_ _
  go_wp2
  exact bodyPost_ret (v := .agg #[.bool n2, .slice a1 l1 c1]) (by simp [results, Tryd.results17, go_sem, *]) rfl (endW _ (by omega) hs (also (also B0 b1) b2) h2 f1 _ _)
end Go.Proofs.YtaekgomplkkocabDoor

namespace Go.Proofs.YtaekgomplkkocabDoor
open Go.RowKit
set_option linter.unusedVariables false

set_option maxRecDepth 100000 in
set_option maxHeartbeats 1000000 in
theorem wOf (x : Int) (w : World) (h1 : -9223372036854775808 ≤ x) (h2 : x ≤ 9223372036854775807) : Calls Tryd.prog 45 #[.int .i64 x] w (GotW w x) := by
  have B0 : Below w.heap.size w (w.alloc (.cells #[.bool false, .slice none 0 0] 25)) := (Below.refl _ _).alloc (Nat.le_refl _) _
  have x0 := bx_new w (.bool false) (.slice none 0 0) 25
  have hs : w.heap.size < (w.alloc (.cells #[.bool false, .slice none 0 0] 25)).heap.size := by simp
  obtain ⟨u, hu⟩ : ∃ u, u = x.natAbs := ⟨_, rfl⟩
  by_cases hx : x < 0
  · have HX : Hid (x = sgz true u) := by unfold Hid sgz; simp; omega
    go_enter Tryd.func45, Tryd.ntmps45
    have hw : wrap64 (-x) = (if x = -9223372036854775808 then x else -x) := by
      unfold wrap64
      split <;> omega
    have E : IntKind.u64.wrap (wrap64 (-x)) = (u : Int) := by
      rw [IntKind.wrap_u64, hw]
      split <;> omega
    have hul : u < 18446744073709551616 := by omega
    clear hw hu
    go_wp2_with (go_at_call 25; fail)
    refine (fOf u hul rfl _).mono ?_
    rintro e w1 ⟨a1, l1, c1, rfl, h1, f1, b1⟩
    go_wp2_with (go_at_call 34; fail)
    refine (wSigned true a1 l1 c1 u w1 h1 x HX.out).mono ?_
    rintro e w2 ⟨n2, rfl, h2, b2⟩
    obtain ⟨k0, k1, k2, k3⟩ := (x0.on b1).on b2
    go_wp2
    exact bodyPost_ret (v := .agg #[.bool n2, .slice a1 l1 c1]) (by simp [results, Tryd.results45, go_sem, *]) rfl (endW _ (Nat.le_refl _) hs (also (also B0 b1) b2) h2 f1 _ _)
  · have HX : Hid (x = sgz false u) := by unfold Hid sgz; simp; omega
    go_enter Tryd.func45, Tryd.ntmps45
    go_wp2_with (go_at_call 25; fail)
    refine (fOf u (by omega) (show x = (u : Int) by omega) _).mono ?_
    rintro e w1 ⟨a1, l1, c1, rfl, h1, f1, b1⟩
    go_wp2_with (go_at_call 34; fail)
    refine (wSigned false a1 l1 c1 u w1 h1 x HX.out).mono ?_
    rintro e w2 ⟨n2, rfl, h2, b2⟩
    obtain ⟨k0, k1, k2, k3⟩ := (x0.on b1).on b2
    clear hu
    go_wp2
    exact bodyPost_ret (v := .agg #[.bool n2, .slice a1 l1 c1]) (by simp [results, Tryd.results45, go_sem, *]) rfl (endW _ (Nat.le_refl _) hs (also (also B0 b1) b2) h2 f1 _ _)
theorem bt_zero {u : Nat} : bt.nlen u = 0 ↔ u = 0 := by
  constructor
  · intro h
    have := bt.nlen_lt u
    rw [h] at this
    simpa using this
  · rintro rfl
    exact bt.nlen_zero
set_option maxRecDepth 100000 in
set_option maxHeartbeats 1000000 in
theorem wSign (n : Bool) (a : Option Addr) (la ca : Nat) (x : Int) (w : World) (ha : WI w n a la ca x) {s : Int} (hs : s = x.sign) :
    Calls Tryd.prog 21 #[.agg #[.bool n, .slice a la ca]] w fun e w' => e = .returned (.int .i64 s) ∧ Below w.heap.size w w' := by
  have B0 : Below w.heap.size w (w.alloc (.cells #[.bool n, .slice a la ca] 25)) := (Below.refl _ _).alloc (Nat.le_refl _) _
  have na := ha.ni.below B0
  obtain ⟨k, hk⟩ : ∃ k, k = bt.nlen x.natAbs := ⟨_, rfl⟩
  have HK : Hid _ := hk
  have hk0 : k = 0 ↔ x = 0 := by rw [hk, bt_zero]; omega
  by_cases h0 : x = 0
  · obtain rfl : k = 0 := hk0.2 h0
    obtain rfl : s = 0 := by rw [hs, h0]; rfl
    clear hk hk0 hs
    go_enter Tryd.func21, Tryd.ntmps21
    go_wp2_with (go_at_call 30; refine (nBits a la ca _ _ na HK.out).mono ?_; rintro e w' ⟨rfl, hw⟩; subst hw)
    go_ret
    exact ⟨rfl, B0⟩
  · have hk1 : ¬ (k : Int) = 0 := by omega
    cases n
    · have := ha.pos rfl
      obtain rfl : s = 1 := by rw [hs]; exact Int.sign_eq_one_of_pos (by omega)
      clear hk hk0 hs
      go_enter Tryd.func21, Tryd.ntmps21
      go_wp2_with (go_at_call 30; refine (nBits a la ca _ _ na HK.out).mono ?_; rintro e w' ⟨rfl, hw⟩; subst hw)
      go_ret
      exact ⟨rfl, B0⟩
    · have := ha.neg rfl
      obtain rfl : s = -1 := by rw [hs]; exact Int.sign_eq_neg_one_of_neg (by omega)
      clear hk hk0 hs
      go_enter Tryd.func21, Tryd.ntmps21
      go_wp2_with (go_at_call 30; refine (nBits a la ca _ _ na HK.out).mono ?_; rintro e w' ⟨rfl, hw⟩; subst hw)
      go_ret
      exact ⟨rfl, B0⟩
theorem dlen_le {u l : Nat} (h : u < 4294967296 ^ l) : dlen u ≤ 10 * l + 1 := by
  obtain ⟨h1, h2, h3⟩ := isDec_dlen u
  rcases h3 with h3 | h3
  · omega
  · rcases Nat.lt_or_ge (10 * l) (dlen u - 1) with h4 | h4
    · have a1 := Nat.pow_le_pow_right (n := 10) (by decide) (show 10 * l ≤ dlen u - 1 by omega)
      have a2 : 4294967296 ^ l ≤ (10 ^ 10) ^ l := Nat.pow_le_pow_left (by decide) l
      rw [← Nat.pow_mul] at a2
      omega
    · omega
/-- A whole number's text. -/
def decZ (z : Int) : ByteArray := if z < 0 then ⟨#[45]⟩ ++ decS z.natAbs else decS z.natAbs
set_option maxRecDepth 100000 in
set_option maxHeartbeats 1000000 in
theorem wShow (n : Bool) (a : Option Addr) (la ca : Nat) (x : Int) (w : World) (ha : WI w n a la ca x) {s : ByteArray} (hs : s = decZ x) :
    Calls Tryd.prog 26 #[.agg #[.bool n, .slice a la ca]] w fun e w' => e = .returned (.string s) ∧ Below w.heap.size w w' := by
  have B0 : Below w.heap.size w (w.alloc (.cells #[.bool n, .slice a la ca] 25)) := (Below.refl _ _).alloc (Nat.le_refl _) _
  have x0 := bx_new w (.bool n) (.slice a la ca) 25
  have wa := ha.below B0
  obtain ⟨t, ht⟩ : ∃ t, t = decS x.natAbs := ⟨_, rfl⟩
  have HT : Hid _ := ht
  have hsz : ¬ 9223372036854775807 < 1 + t.size := by
    rw [ht, decS_size]
    have := dlen_le ha.ni.lt
    have := ha.ni.few
    omega
  by_cases hx : x < 0
  · obtain rfl : s = ⟨#[45]⟩ ++ t := by rw [hs]; unfold decZ; rw [if_pos hx, ht]
    have HS : Hid ((-1 : Int) = x.sign) := (Int.sign_eq_neg_one_of_neg hx).symm
    clear hs ht
    go_enter Tryd.func26, Tryd.ntmps26
    go_wp2_with (go_at_call 21; fail)
    refine (wSign n a la ca x _ wa HS.out).mono ?_
    rintro e w1 ⟨rfl, b1⟩
    obtain ⟨k0, k1, k2, k3⟩ := x0.on b1
    go_wp2_with (go_at_call 27; fail)
    refine (nShow a la ca _ _ (wa.below b1).ni HT.out).mono ?_
    rintro e w2 ⟨rfl, b2⟩
    go_wp2
    go_ret
    exact ⟨rfl, also (also B0 b1) b2⟩
  · obtain rfl : s = t := by rw [hs]; unfold decZ; rw [if_neg hx, ht]
    obtain ⟨g, hg⟩ : ∃ g, g = x.sign := ⟨_, rfl⟩
    have HS : Hid _ := hg
    have hg0 : ¬ g < 0 := by
      rw [hg]
      rcases Int.lt_or_gt_of_ne (show x ≠ -1 by omega) with h | h
      · omega
      · have := Int.sign_nonneg_iff.2 (show 0 ≤ x by omega)
        omega
    clear hs ht hg
    go_enter Tryd.func26, Tryd.ntmps26
    go_wp2_with (go_at_call 21; fail)
    refine (wSign n a la ca x _ wa HS.out).mono ?_
    rintro e w1 ⟨rfl, b1⟩
    obtain ⟨k0, k1, k2, k3⟩ := x0.on b1
    go_wp2_with (go_at_call 27; fail)
    refine (nShow a la ca _ _ (wa.below b1).ni HT.out).mono ?_
    rintro e w2 ⟨rfl, b2⟩
    go_wp2
    go_ret
    exact ⟨rfl, also (also B0 b1) b2⟩
end Go.Proofs.YtaekgomplkkocabDoor
