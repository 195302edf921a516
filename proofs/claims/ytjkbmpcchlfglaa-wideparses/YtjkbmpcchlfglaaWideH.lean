/-
  wide.timesTen, wide.read and wide.Parse: the number of a text.
-/
import Derived.Test.YtjkbmpcchlfglaaWideF
import Derived.Lib.Strings
import Derived.Lib.IndexBytes
namespace Go.Proofs.Ytjkbmpcchlfglaa
open Go.RowKit
set_option linter.unusedVariables false

/-- The number of a list of bytes taken for digits. -/
def rd : List Int → Int → Int
  | [], v => v
  | c :: l, v => rd l (v * 10 + (c - 48) % 256)
theorem rd_append (l : List Int) (c v : Int) : rd (l ++ [c]) v = rd l v * 10 + (c - 48) % 256 := by
  induction l generalizing v with
  | nil => rfl
  | cons d l ih => simp only [List.cons_append, rd, ih]

theorem times_words (v more : Int) (h0 : 0 ≤ more) (h1 : more ≤ 255) :
    IntKind.u64.wrap (IntKind.u64.wrap (IntKind.u64.wrap (v / 18446744073709551616 % 18446744073709551616 * 10) + v % 18446744073709551616 * 10 / 18446744073709551616) + (v % 18446744073709551616 * 10 % 18446744073709551616 + more) / 18446744073709551616) = (v * 10 + more) / 18446744073709551616 % 18446744073709551616 ∧
    (v % 18446744073709551616 * 10 % 18446744073709551616 + more) % 18446744073709551616 = (v * 10 + more) % 18446744073709551616 := by
  simp only [IntKind.wrap_u64]; omega
theorem timesTen_any {h l : Int} (v more : Int) (hh : h = v / 18446744073709551616 % 18446744073709551616) (hl : l = v % 18446744073709551616) (h0 : 0 ≤ more) (h1 : more ≤ 255) (w : World) :
    Calls Try.prog 41 #[.int .u64 h, .int .u64 l, .int .u64 more] w fun e w' => e = .returned (.tuple #[.int .u64 ((v * 10 + more) / 18446744073709551616 % 18446744073709551616), .int .u64 ((v * 10 + more) % 18446744073709551616)]) ∧ w' = w := by
  have E : Hid _ := times_words v more h0 h1
  rw [← hh, ← hl] at E
  have l0 : 0 ≤ l := by omega
  have l1 : l < 18446744073709551616 := by omega
  have k0 : 0 ≤ l * 10 % 18446744073709551616 := by omega
  clear hh hl
  go_enter Try.func41, Try.ntmps41
  go_wp2_with (first
    | (go_at_call 31; refine (mul64_any l 10 l0 l1 (by decide) (by decide) _).mono ?_; rintro e w' ⟨rfl, hw⟩; have hw := hw.symm; subst hw)
    | simp only [add64_0 _ more k0 h0])
  go_ret2
  exact ⟨ret_tup2 E.out.1 ((by omega : (l * 10 + more) % 18446744073709551616 = (l * 10 % 18446744073709551616 + more) % 18446744073709551616).trans E.out.2), rfl⟩

/-- A text's bytes, as numbers. -/
def nums (s : ByteArray) : List Int := s.data.toList.map fun b => (b.toNat : Int)
theorem nums_length (s : ByteArray) : (nums s).length = s.size := by unfold nums; rw [List.length_map]; rfl
theorem nums_take (s : ByteArray) (k : Nat) (h : k < s.size) : (nums s).take (k + 1) = (nums s).take k ++ [((s[k]).toNat : Int)] := by
  have hk : k < (nums s).length := by rw [nums_length]; exact h
  rw [List.take_succ_eq_append_getElem hk]
  congr 2
  simp [nums]
  rfl
/-- What holds at the head of each round of read's loop. -/
def ReadRel (u : ByteArray) (x y i : Value) : Prop := ∃ (k : Nat) (v : Int), k ≤ u.size ∧ v = rd ((nums u).take k) 0 ∧ x = .int .u64 (v / 18446744073709551616 % 18446744073709551616) ∧ y = .int .u64 (v % 18446744073709551616) ∧ i = .int .i64 (k : Int)
theorem words_wide (v : Int) : wrap64 (v / 18446744073709551616 % 18446744073709551616) = hi v ∧ v % 18446744073709551616 = lo v := by unfold wrap64 hi lo; omega
theorem wrap_u8 (n : Int) : IntKind.u8.wrap n = n % 256 := by simp [IntKind.wrap, IntKind.bits, IntKind.signed]
theorem readRel_next (u : ByteArray) (k : Nat) (v : Int) (hk : k < u.size) (hv : v = rd ((nums u).take k) 0) :
    ReadRel u (.int .u64 ((v * 10 + ((u[k].toNat : Int) - 48) % 256) / 18446744073709551616 % 18446744073709551616)) (.int .u64 ((v * 10 + ((u[k].toNat : Int) - 48) % 256) % 18446744073709551616)) (.int .i64 ((k : Int) + 1)) :=
  ⟨k + 1, _, hk, by rw [nums_take u k hk, rd_append, ← hv], rfl, rfl, by simp⟩
theorem empty_of (s : ByteArray) (h : s.size = 0) : s.toList.isEmpty = true := by
  rw [ByteArray.toList_eq]
  have : s.data.toList.length = 0 := h
  rw [List.length_eq_zero_iff.1 this]; rfl
theorem nonempty_of (s : ByteArray) (h : 0 < s.size) : s.toList.isEmpty = false := by
  rw [ByteArray.toList_eq]
  have : 0 < s.data.toList.length := h
  cases hl : s.data.toList with
  | nil => rw [hl] at this; simp at this
  | cons _ _ => rfl
set_option maxHeartbeats 1000000 in
theorem read_plain (s : ByteArray) (w : World) (hs : s.size ≤ maxLen) (h : ∀ h0 : 0 < s.size, ((s[0].toNat : Int) == 45) = false) :
    Calls Try.prog 37 #[.string s] w fun e w' => e = .returned (.agg #[.int .i64 (hi (rd (nums s) 0)), .int .u64 (lo (rd (nums s) 0))]) ∧ Below w.heap.size w w' := by
  unfold maxLen at hs
  by_cases hz : s.size = 0
  · have he := empty_of s hz
    have HZ : Hid (s.size = 0) := hz
    clear hz h
    go_enter Try.func37, Try.ntmps37
    go_wp2
    clear he
    go_loop [4, 5, 6] (fun x y i => ReadRel s x y i) (fun _ _ i => s.size - (intOf i).toNat)
    case atStart => exact ⟨0, 0, Nat.zero_le _, rfl, rfl, rfl, rfl⟩
    case round =>
      obtain ⟨k, v, hk, hv, rfl, rfl, rfl⟩ := hrel
      have HV : Hid (v = rd ((nums s).take k) 0) := hv
      clear hv
      by_cases hlt : k < s.size
      · have hn := readRel_next s k v hlt HV.out
        have hw8 : IntKind.u8.wrap ((s[k].toNat : Int) - 48) = ((s[k].toNat : Int) - 48) % 256 := by rw [wrap_u8]
        have z0 : 0 ≤ ((s[k].toNat : Int) - 48) % 256 := by omega
        have z1 : ((s[k].toNat : Int) - 48) % 256 ≤ 255 := by omega
        go_wp2_with (go_at_call 41; refine (timesTen_any v _ rfl rfl z0 z1 _).mono ?_; rintro e w' ⟨rfl, hw⟩; have hw := hw.symm; subst hw)
        go_round
        case rel => exact hn
        case measure => simp [intOf]; omega
      · have e : v = rd (nums s) 0 := by rw [HV.out, List.take_of_length_le (by rw [nums_length]; omega)]
        obtain ⟨f1, f2⟩ := words_wide v
        clear HV
        subst e
        go_wp2
        exact bodyPost_ret (v := .agg #[.int .i64 (hi (rd (nums s) 0)), .int .u64 (lo (rd (nums s) 0))]) (by simp [results, Try.results37, go_sem]) rfl ⟨rfl, by first | exact ((Below.refl _ _).alloc (Nat.le_refl _) _).alloc (by simp) _⟩
  · have h0 : 0 < s.size := by omega
    have he := nonempty_of s h0
    have h45 := h h0
    clear h
    go_enter Try.func37, Try.ntmps37
    go_wp2
    clear he h45
    go_loop [4, 5, 6] (fun x y i => ReadRel s x y i) (fun _ _ i => s.size - (intOf i).toNat)
    case atStart => exact ⟨0, 0, Nat.zero_le _, rfl, rfl, rfl, rfl⟩
    case round =>
      obtain ⟨k, v, hk, hv, rfl, rfl, rfl⟩ := hrel
      have HV : Hid (v = rd ((nums s).take k) 0) := hv
      clear hv
      by_cases hlt : k < s.size
      · have hn := readRel_next s k v hlt HV.out
        have hw8 : IntKind.u8.wrap ((s[k].toNat : Int) - 48) = ((s[k].toNat : Int) - 48) % 256 := by rw [wrap_u8]
        have z0 : 0 ≤ ((s[k].toNat : Int) - 48) % 256 := by omega
        have z1 : ((s[k].toNat : Int) - 48) % 256 ≤ 255 := by omega
        go_wp2_with (go_at_call 41; refine (timesTen_any v _ rfl rfl z0 z1 _).mono ?_; rintro e w' ⟨rfl, hw⟩; have hw := hw.symm; subst hw)
        go_round
        case rel => exact hn
        case measure => simp [intOf]; omega
      · have e : v = rd (nums s) 0 := by rw [HV.out, List.take_of_length_le (by rw [nums_length]; omega)]
        obtain ⟨f1, f2⟩ := words_wide v
        clear HV
        subst e
        go_wp2
        exact bodyPost_ret (v := .agg #[.int .i64 (hi (rd (nums s) 0)), .int .u64 (lo (rd (nums s) 0))]) (by simp [results, Try.results37, go_sem]) rfl ⟨rfl, by first | exact ((Below.refl _ _).alloc (Nat.le_refl _) _).alloc (by simp) _⟩
set_option maxHeartbeats 1000000 in
theorem read_minus (s : ByteArray) (w : World) (hs : s.size ≤ maxLen) (h0 : 0 < s.size) (h45 : ((s[0].toNat : Int) == 45) = true) :
    Calls Try.prog 37 #[.string s] w fun e w' => e = .returned (.agg #[.int .i64 (hi (-(rd (nums (s.extract 1 s.size)) 0))), .int .u64 (lo (-(rd (nums (s.extract 1 s.size)) 0)))]) ∧ Below w.heap.size w w' := by
  unfold maxLen at hs
  have he := nonempty_of s h0
  have h45' : (s[0].toNat : Int) = 45 := by simpa using h45
  have hsz : (s.extract 1 s.size).size ≤ s.size := by simp
  go_enter Try.func37, Try.ntmps37
  go_wp2
  clear he h45 h45'
  obtain ⟨u, hu0⟩ : ∃ u, s.extract 1 s.size = u := ⟨_, rfl⟩
  have HU : Hid (s.extract 1 s.size = u) := hu0
  rw [hu0] at hsz ⊢
  clear hu0
  have hu : u.size ≤ 9223372036854775807 := by omega
  go_loop [4, 5, 6] (fun x y i => ReadRel u x y i) (fun _ _ i => u.size - (intOf i).toNat)
  case atStart => exact ⟨0, 0, Nat.zero_le _, rfl, rfl, rfl, rfl⟩
  case round =>
    obtain ⟨k, v, hk, hv, rfl, rfl, rfl⟩ := hrel
    have HV : Hid (v = rd ((nums u).take k) 0) := hv
    clear hv
    by_cases hlt : k < u.size
    · have hn := readRel_next u k v hlt HV.out
      have hw8 : IntKind.u8.wrap ((u[k].toNat : Int) - 48) = ((u[k].toNat : Int) - 48) % 256 := by rw [wrap_u8]
      have z0 : 0 ≤ ((u[k].toNat : Int) - 48) % 256 := by omega
      have z1 : ((u[k].toNat : Int) - 48) % 256 ≤ 255 := by omega
      go_wp2_with (go_at_call 41; refine (timesTen_any v _ rfl rfl z0 z1 _).mono ?_; rintro e w' ⟨rfl, hw⟩; have hw := hw.symm; subst hw)
      go_round
      case rel => exact hn
      case measure => simp [intOf]; omega
    · have e : v = rd (nums u) 0 := by rw [HV.out, List.take_of_length_le (by rw [nums_length]; omega)]
      obtain ⟨f1, f2⟩ := words_wide v
      clear HV
      subst e
      go_wp2_with (go_at_call 15; refine (neg_any (rd (nums u) 0) rfl rfl _).mono ?_; rintro e w' ⟨rfl, hb⟩; obtain ⟨hc, hf⟩ := bcell hb)
      have q0 := hc w.heap.size 0 (by simp; omega)
      have q1 := hc w.heap.size 1 (by simp; omega)
      refine bodyPost_ret (v := .agg #[.int .i64 (hi (-(rd (nums u) 0))), .int .u64 (lo (-(rd (nums u) 0)))]) (by simp [results, Try.results37, go_sem, q0, q1]) rfl ⟨by rw [HU.out], ?_⟩
      exact (((((Below.refl _ _).alloc (Nat.le_refl _) _).alloc (by simp) _).trans (hb.mono (by simp; omega))).setCell (by simp) _).setCell (by simp) _

/-- The number that wide.read makes of a text: any number, where the text is none's. -/
def readI (s : ByteArray) : Int := if (nums s).head? = some 45 then -(rd (nums s).tail 0) else rd (nums s) 0
theorem nums_cons (s : ByteArray) (h0 : 0 < s.size) : nums s = (s[0].toNat : Int) :: nums (s.extract 1 s.size) := by
  unfold nums
  have h : 0 < s.data.toList.length := h0
  have e : (s.extract 1 s.size).data.toList = s.data.toList.drop 1 := by
    have := Lib.extract_to_end s 1
    simpa using this
  rw [e]
  cases hl : s.data.toList with
  | nil => rw [hl] at h; simp at h
  | cons a l =>
    simp
    have : s[0] = s.data.toList[0] := rfl
    rw [this]; simp [hl]
theorem read_any (s : ByteArray) (w : World) (hs : s.size ≤ maxLen) :
    Calls Try.prog 37 #[.string s] w fun e w' => e = .returned (.agg #[.int .i64 (hi (readI s)), .int .u64 (lo (readI s))]) ∧ Below w.heap.size w w' := by
  by_cases h0 : 0 < s.size
  · have hc := nums_cons s h0
    by_cases h45 : (s[0].toNat : Int) = 45
    · have e : readI s = -(rd (nums (s.extract 1 s.size)) 0) := by unfold readI; rw [hc, h45, if_pos (by simp)]; rfl
      rw [e]
      exact read_minus s w hs h0 (by simpa using h45)
    · have e : readI s = rd (nums s) 0 := by
        unfold readI
        rw [if_neg (by rw [hc]; simpa using h45)]
      rw [e]
      exact read_plain s w hs fun _ => by simpa using h45
  · have e : readI s = rd (nums s) 0 := by
      have : nums s = [] := List.length_eq_zero_iff.1 (by rw [nums_length]; omega)
      unfold readI; rw [this, if_neg (by simp)]
    rw [e]
    exact read_plain s w hs fun h => absurd h h0

/-- A number's canonical fellow: the one of 128 bits that has the same words. -/
def canon (z : Int) : Int := (z + 170141183460469231731687303715884105728) % 340282366920938463463374607431768211456 - 170141183460469231731687303715884105728
theorem canon_hi (z : Int) : hi (canon z) = hi z := by unfold canon hi; omega
theorem canon_lo (z : Int) : lo (canon z) = lo z := by unfold canon lo; omega
theorem canon_range (z : Int) : -170141183460469231731687303715884105728 ≤ canon z ∧ canon z < 170141183460469231731687303715884105728 := by unfold canon; omega
theorem canon_same (z : Int) (h0 : -170141183460469231731687303715884105728 ≤ z) (h1 : z < 170141183460469231731687303715884105728) : canon z = z := by unfold canon; omega
theorem bytes_eq {a b : ByteArray} (h : a.data.toList = b.data.toList) : a = b := by
  apply ByteArray.ext
  exact Array.toList_inj.1 h
set_option maxHeartbeats 1000000 in
theorem parse_long (s : ByteArray) (w : World) (hs : s.size ≤ maxLen) (h : 40 < s.size) :
    Calls Try.prog 26 #[.string s] w fun e w' => e = .returned (.tuple #[.agg #[.int .i64 0, .int .u64 0], .int .i64 4]) ∧ Below w.heap.size w w' := by
  unfold maxLen at hs
  have h' : (40 : Int) < (s.size : Int) := by omega
  go_enter Try.func26, Try.ntmps26
  go_wp2
  exact bodyPost_ret (v := .tuple #[.agg #[.int .i64 0, .int .u64 0], .int .i64 4]) (by simp [results, Try.results26, go_sem]) rfl ⟨rfl, (Below.refl _ _).alloc (Nat.le_refl _) _⟩
set_option maxHeartbeats 1000000 in
theorem parse_no (s : ByteArray) (w : World) (h : s.size ≤ 40) (hn : showS (canon (readI s)) ≠ s) :
    Calls Try.prog 26 #[.string s] w fun e w' => e = .returned (.tuple #[.agg #[.int .i64 0, .int .u64 0], .int .i64 4]) ∧ Below w.heap.size w w' := by
  have h' : ¬ (40 : Int) < (s.size : Int) := by omega
  have hm : s.size ≤ maxLen := by unfold maxLen; omega
  have HM : Hid _ := hm
  have hd : ((showS (canon (readI s))).toList == s.toList) = false := by
    rw [ByteArray.toList_eq, ByteArray.toList_eq]
    simpa using fun e => hn (bytes_eq e)
  clear hm hn
  obtain ⟨c0, c1⟩ := canon_range (readI s)
  go_enter Try.func26, Try.ntmps26
  go_wp2_with (first
    | (go_at_call 37; refine (read_any s _ HM.out).mono ?_; rintro e w1 ⟨rfl, hb⟩; obtain ⟨hc, hf⟩ := bcell hb; have hz : w.heap.size < w1.heap.size := by have := hb.size; simp at this; omega)
    | (go_at_call 25; refine (show_any (canon (readI s)) (canon_hi _).symm (canon_lo _).symm c0 c1 _).mono ?_; rintro e w2 ⟨rfl, hb2⟩; obtain ⟨hc2, hf2⟩ := bcell hb2))
  have q0 := hc2 w.heap.size 0 (by simp; omega)
  have q1 := hc2 w.heap.size 1 (by simp; omega)
  have p0 := hc w.heap.size 0 (by simp)
  have p1 := hc w.heap.size 1 (by simp)
  have hB1 : Below w.heap.size w w1 := ((Below.refl _ _).alloc (Nat.le_refl _) _).trans (hb.mono (by simp))
  have hB2 : Below w.heap.size w w2 := (hB1.alloc (by omega) _).trans (hb2.mono (by simp; omega))
  exact bodyPost_ret (v := .tuple #[.agg #[.int .i64 0, .int .u64 0], .int .i64 4]) (by simp [results, Try.results26, go_sem, q0, q1, p0, p1, hz]) rfl ⟨rfl, (hB2.setCell (Nat.le_refl _) _).setCell (Nat.le_refl _) _⟩
set_option maxHeartbeats 1000000 in
theorem parse_yes (s : ByteArray) (w : World) (h : s.size ≤ 40) (hn : showS (canon (readI s)) = s) :
    Calls Try.prog 26 #[.string s] w fun e w' => e = .returned (.tuple #[.agg #[.int .i64 (hi (readI s)), .int .u64 (lo (readI s))], .int .i64 0]) ∧ Below w.heap.size w w' := by
  have h' : ¬ (40 : Int) < (s.size : Int) := by omega
  have hm : s.size ≤ maxLen := by unfold maxLen; omega
  have HM : Hid _ := hm
  have hd : ((showS (canon (readI s))).toList == s.toList) = true := by rw [hn]; simp
  clear hm hn
  obtain ⟨c0, c1⟩ := canon_range (readI s)
  go_enter Try.func26, Try.ntmps26
  go_wp2_with (first
    | (go_at_call 37; refine (read_any s _ HM.out).mono ?_; rintro e w1 ⟨rfl, hb⟩; obtain ⟨hc, hf⟩ := bcell hb; have hz : w.heap.size < w1.heap.size := by have := hb.size; simp at this; omega)
    | (go_at_call 25; refine (show_any (canon (readI s)) (canon_hi _).symm (canon_lo _).symm c0 c1 _).mono ?_; rintro e w2 ⟨rfl, hb2⟩; obtain ⟨hc2, hf2⟩ := bcell hb2))
  have q0 := hc2 w.heap.size 0 (by simp; omega)
  have q1 := hc2 w.heap.size 1 (by simp; omega)
  have p0 := hc w.heap.size 0 (by simp)
  have p1 := hc w.heap.size 1 (by simp)
  have hB1 : Below w.heap.size w w1 := ((Below.refl _ _).alloc (Nat.le_refl _) _).trans (hb.mono (by simp))
  have hB2 : Below w.heap.size w w2 := (hB1.alloc (by omega) _).trans (hb2.mono (by simp; omega))
  exact bodyPost_ret (v := .tuple #[.agg #[.int .i64 (hi (readI s)), .int .u64 (lo (readI s))], .int .i64 0]) (by simp [results, Try.results26, go_sem, q0, q1, p0, p1, hz]) rfl ⟨rfl, (hB2.setCell (Nat.le_refl _) _).setCell (Nat.le_refl _) _⟩
end Go.Proofs.Ytjkbmpcchlfglaa
