/-
  Decimal digits of numbers of any length, and bytes of texts as numbers. It imports nothing of the program.
-/
import Derived.WalkKit
import Derived.Laws.BytesArg
namespace Go.Proofs.YteoepelmapjhcaaDoor

/-- A text's bytes, as numbers. -/
def nums (s : ByteArray) : List Int := s.data.toList.map fun b => (b.toNat : Int)
theorem nums_length (s : ByteArray) : (nums s).length = s.size := by unfold nums; rw [List.length_map]; rfl
theorem nums_range (s : ByteArray) : ∀ c ∈ nums s, 0 ≤ c ∧ c < 256 := by
  intro c hc
  unfold nums at hc
  rw [List.mem_map] at hc
  obtain ⟨b, _, rfl⟩ := hc
  have := b.toNat_lt
  omega
theorem nums_at (s : ByteArray) (k : Nat) (h : k < s.size) : (nums s)[k]? = some ((s[k]).toNat : Int) := by
  have hk : k < s.data.toList.length := by simpa using h
  unfold nums
  rw [List.getElem?_map, List.getElem?_eq_getElem hk]
  rfl
theorem nums_take (s : ByteArray) (k : Nat) (h : k < s.size) : (nums s).take (k + 1) = (nums s).take k ++ [((s[k]).toNat : Int)] := by
  rw [List.take_add_one, nums_at s k h]; rfl
theorem nums_drop (s : ByteArray) (k : Nat) (h : k < s.size) : (nums s).drop k = ((s[k]).toNat : Int) :: (nums s).drop (k + 1) := by
  have hk : k < (nums s).length := by rw [nums_length]; exact h
  rw [List.drop_eq_getElem_cons hk]
  congr 1
  have := nums_at s k h
  rw [List.getElem?_eq_getElem hk] at this
  simpa using this
theorem nums_tail (s : ByteArray) : nums (s.extract 1 s.size) = (nums s).drop 1 := by
  unfold nums
  rw [← List.map_drop]
  congr 1
  simp [ByteArray.data_extract]
  rw [List.take_of_length_le (by simp)]
theorem nums_cons (s : ByteArray) (h0 : 0 < s.size) : nums s = (s[0].toNat : Int) :: nums (s.extract 1 s.size) := by
  have := nums_drop s 0 h0
  rw [List.drop_zero] at this
  rw [nums_tail]
  exact this
theorem str_nums (s : ByteArray) : strOfNums (nums s) = s := by
  unfold nums strOfNums
  apply ByteArray.ext
  simp only [List.map_map]
  have : (fun b : UInt8 => UInt8.ofNat ((b.toNat : Int)).toNat) = id := by funext b; simp
  show (List.map ((fun n => UInt8.ofNat n.toNat) ∘ fun b => (b.toNat : Int)) s.data.toList).toArray = s.data
  rw [show ((fun n : Int => UInt8.ofNat n.toNat) ∘ fun b : UInt8 => (b.toNat : Int)) = id from this]
  simp
theorem nums_str (l : List Int) (h : ∀ c ∈ l, 0 ≤ c ∧ c < 256) : nums (strOfNums l) = l := by
  unfold nums strOfNums
  simp only [List.map_map]
  conv => rhs; rw [← List.map_id l]
  refine List.map_congr_left fun c hc => ?_
  obtain ⟨a, b⟩ := h c hc
  simp only [Function.comp_apply, id]
  rw [UInt8.toNat_ofNat']
  omega
theorem strOfNums_append (a b : List Int) : strOfNums a ++ strOfNums b = strOfNums (a ++ b) := by
  apply ByteArray.ext
  rw [ByteArray.data_append]
  simp [strOfNums]

/-- The last k decimal digits of m, as bytes, the highest first. -/
def digs : Nat → Nat → List Int
  | 0, _ => []
  | k + 1, m => (48 + (m / 10 ^ k % 10 : Nat) : Int) :: digs k m
theorem digs_length (k m : Nat) : (digs k m).length = k := by induction k with | zero => rfl | succ k ih => simp [digs, ih]
theorem digs_snoc (k m : Nat) : digs (k + 1) m = digs k (m / 10) ++ [(48 + (m % 10 : Nat) : Int)] := by
  induction k with
  | zero => simp [digs]
  | succ k ih => rw [digs, ih, digs, List.cons_append, Nat.div_div_eq_div_mul, Nat.pow_succ, Nat.mul_comm 10]
theorem digs_bytes (k m : Nat) : ∀ c ∈ digs k m, 48 ≤ c ∧ c ≤ 57 := by
  induction k with
  | zero => intro c hc; simp [digs] at hc
  | succ k ih =>
    intro c hc
    rw [digs, List.mem_cons] at hc
    rcases hc with rfl | hc
    · have := Nat.mod_lt (m / 10 ^ k) (show 0 < 10 by decide); omega
    · exact ih c hc
/-- m has k digits: nought has one. -/
def IsDec (m k : Nat) : Prop := 1 ≤ k ∧ m < 10 ^ k ∧ (k = 1 ∨ 10 ^ (k - 1) ≤ m)
theorem isDec_one {m k k' : Nat} (h : IsDec m k) (h' : IsDec m k') : k = k' := by
  obtain ⟨a, b, c⟩ := h
  obtain ⟨a', b', c'⟩ := h'
  rcases Nat.lt_trichotomy k k' with e | e | e
  · rcases c' with c' | c'
    · omega
    · have := Nat.pow_le_pow_right (n := 10) (by decide) (show k ≤ k' - 1 by omega)
      omega
  · exact e
  · rcases c with c | c
    · omega
    · have := Nat.pow_le_pow_right (n := 10) (by decide) (show k' ≤ k - 1 by omega)
      omega
def dlenF : Nat → Nat → Nat
  | 0, _ => 1
  | f + 1, m => if m < 10 then 1 else dlenF f (m / 10) + 1
/-- How many decimal digits m has. -/
def dlen (m : Nat) : Nat := dlenF m m
theorem isDec_dlenF : ∀ f m : Nat, m < 10 ^ (f + 1) → IsDec m (dlenF f m)
  | 0, m, h => ⟨Nat.le_refl _, h, Or.inl rfl⟩
  | f + 1, m, h => by
    unfold dlenF
    by_cases hm : m < 10
    · rw [if_pos hm]; exact ⟨Nat.le_refl _, hm, Or.inl rfl⟩
    · rw [if_neg hm]
      obtain ⟨a, b, c⟩ := isDec_dlenF f (m / 10) (by rw [Nat.pow_succ] at h; omega)
      refine ⟨by omega, ?_, Or.inr ?_⟩
      · rw [Nat.pow_succ]; omega
      · rcases c with c | c
        · rw [c]; simp; omega
        · have e : dlenF f (m / 10) + 1 - 1 = dlenF f (m / 10) - 1 + 1 := by omega
          rw [e, Nat.pow_succ]; omega
theorem isDec_dlen (m : Nat) : IsDec m (dlen m) := isDec_dlenF m m (Nat.lt_of_lt_of_le (Nat.lt_pow_self (by decide)) (Nat.pow_le_pow_right (by decide) (by omega)))
theorem dlen_eq {m k : Nat} (h : IsDec m k) : dlen m = k := isDec_one (isDec_dlen m) h
/-- The text of a number. -/
def decS (m : Nat) : ByteArray := strOfNums (digs (dlen m) m)
theorem decS_nums (m : Nat) : nums (decS m) = digs (dlen m) m := nums_str _ fun c hc => by have := digs_bytes _ _ c hc; omega
theorem decS_size (m : Nat) : (decS m).size = dlen m := by rw [← nums_length, decS_nums, digs_length]
/-- Noughts ahead are dropped. -/
theorem digs_zero (k m : Nat) (h : m < 10 ^ k) : digs (k + 1) m = 48 :: digs k m := by
  rw [digs, Nat.div_eq_of_lt h]; rfl
theorem digs_drop : ∀ (j k m : Nat), 0 < m → IsDec m k → (digs (k + j) m).dropWhile (· == 48) = digs k m
  | 0, k, m, hm, h => by
    rw [Nat.add_zero]
    obtain ⟨h1, h2, h3⟩ := h
    rcases k with _ | k
    · omega
    · rw [digs]
      have hl : 10 ^ k ≤ m := by
        rcases h3 with h3 | h3
        · have : k = 0 := by omega
          subst this; simp; omega
        · simpa using h3
      have h4 : 1 ≤ m / 10 ^ k := (Nat.one_le_div_iff (Nat.pow_pos (by decide))).2 hl
      have h5 : m / 10 ^ k < 10 := by rw [Nat.pow_succ] at h2; exact Nat.div_lt_of_lt_mul h2
      have h6 : ((48 + ((m / 10 ^ k % 10 : Nat) : Int)) == 48) = false := by
        rw [Nat.mod_eq_of_lt h5]
        generalize m / 10 ^ k = c at h4
        rw [beq_eq_false_iff_ne]
        omega
      rw [List.dropWhile_cons, h6]; simp
  | j + 1, k, m, hm, h => by
    have h2 := h.2.1
    have : m < 10 ^ (k + j) := Nat.lt_of_lt_of_le h2 (Nat.pow_le_pow_right (by decide) (by omega))
    rw [show k + (j + 1) = (k + j) + 1 by omega, digs_zero _ _ this, List.dropWhile_cons]
    simp only [beq_self_eq_true, if_true]
    exact digs_drop j k m hm h
end Go.Proofs.YteoepelmapjhcaaDoor
