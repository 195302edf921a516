/-
  What nat's Parse answers.
-/
import Derived.Test.YteoepelmapjhcaaDoorParseA
namespace Go.Proofs.YteoepelmapjhcaaDoor
open Go.RowKit
set_option linter.unusedVariables false

/-- The number of digits' bytes. -/
def rdN (l : List Int) : Nat := l.foldl (fun v c => 10 * v + (c - 48).toNat) 0
theorem rdN_snoc (l : List Int) (c : Int) : rdN (l ++ [c]) = 10 * rdN l + (c - 48).toNat := by unfold rdN; rw [List.foldl_append]; rfl
theorem rdN_lt : ∀ (n : Nat) (l : List Int), l.length = n → (∀ c ∈ l, 48 ≤ c ∧ c ≤ 57) → rdN l < 10 ^ n
  | 0, l, h, _ => by rw [List.length_eq_zero_iff.1 h]; decide
  | n + 1, l, h, hd => by
    have hne : l ≠ [] := fun e => by rw [e] at h; simp at h
    rw [← List.dropLast_concat_getLast hne] at hd ⊢
    rw [rdN_snoc, Nat.pow_succ]
    have h1 := rdN_lt n l.dropLast (by rw [List.length_dropLast]; omega) (fun c hc => hd c (List.mem_append_left _ hc))
    have h2 := hd (l.getLast hne) (List.mem_append_right _ (List.mem_singleton.2 rfl))
    omega
theorem rdN_digs (k m : Nat) : rdN (digs k m) = m % 10 ^ k := by
  induction k generalizing m with
  | zero => simp [digs, rdN, Nat.mod_one]
  | succ k ih =>
    rw [digs_snoc, rdN_snoc, ih]
    have h : m % 10 ^ (k + 1) = m / 10 % 10 ^ k * 10 + m % 10 := by
      rw [Nat.pow_succ, Nat.mul_comm (10 ^ k) 10, Nat.mod_mul]; omega
    rw [h]
    omega
theorem nlen_dec {N k : Nat} (h : N < 10 ^ k) : wd.nlen N ≤ k := wd.nlen_le (Nat.lt_of_lt_of_le h (Nat.pow_le_pow_left (by decide) k))

/-- What holds at the head of each round. -/
def ParseRel (w : World) (s : ByteArray) (nv pv iv : Value) (wr : World) : Prop := ∃ (k N P m cap : Nat) (a : Option Addr), k ≤ s.size ∧ iv = .int .i64 (k : Int) ∧ nv = .slice a (wd.nlen N) cap ∧ pv = .int .u32 (P : Int) ∧
  Hid (rdN ((nums s).take k) = N * 10 ^ m + P ∧ P < 10 ^ m ∧ m = (9 - (s.size - k) % 9) % 9) ∧ P < 100000000 ∧ wd.nlen N ≤ 2000 ∧ Own wr w.heap.size 44 a (wd.nlen N) cap (wd.dcells (wd.nlen N) (N : Int)) ∧ Below w.heap.size w wr
theorem pow10_le {m : Nat} (h : m ≤ 8) : 10 ^ m ≤ 100000000 := Nat.pow_le_pow_right (n := 10) (by decide) h
theorem parse_on {w wr : World} {s : ByteArray} {k N P m cap : Nat} {a : Option Addr} (hk : k < s.size) (H : Hid (rdN ((nums s).take k) = N * 10 ^ m + P ∧ P < 10 ^ m ∧ m = (9 - (s.size - k) % 9) % 9)) (d0 : 48 ≤ (s[k].toNat : Int)) (d1 : (s[k].toNat : Int) ≤ 57) (hne : (s.size - 1 - k) % 9 ≠ 0) (hn : wd.nlen N ≤ 2000)
    (hown : Own wr w.heap.size 44 a (wd.nlen N) cap (wd.dcells (wd.nlen N) (N : Int))) (hb : Below w.heap.size w wr) : ParseRel w s (.slice a (wd.nlen N) cap) (.int .u32 ((P : Int) * 10 + ((s[k].toNat : Int) - 48))) (.int .i64 ((k : Int) + 1)) wr := by
  obtain ⟨h1, h2, h3⟩ := H.out
  have e : (P : Int) * 10 + ((s[k].toNat : Int) - 48) = ((P * 10 + ((s[k].toNat : Int) - 48).toNat : Nat) : Int) := by omega
  have hm : m ≤ 7 := by omega
  have hp := pow10_le (m := m + 1) (by omega)
  rw [Nat.pow_succ] at hp
  refine ⟨k + 1, N, P * 10 + ((s[k].toNat : Int) - 48).toNat, m + 1, cap, a, hk, by simp, rfl, by rw [e], ⟨?_, by rw [Nat.pow_succ]; omega, by omega⟩, by omega, hn, hown, hb⟩
  rw [nums_take s k hk, rdN_snoc, h1, Nat.pow_succ, ← Nat.mul_assoc]
  omega
theorem parse_cut {w wr : World} {s : ByteArray} {k N P m cap N' : Nat} {a : Option Addr} (hk : k < s.size) (H : Hid (rdN ((nums s).take k) = N * 10 ^ m + P ∧ P < 10 ^ m ∧ m = (9 - (s.size - k) % 9) % 9)) (d0 : 48 ≤ (s[k].toNat : Int)) (d1 : (s[k].toNat : Int) ≤ 57) (hz : (s.size - 1 - k) % 9 = 0) (hN : N' = N * 1000000000 + (P * 10 + ((s[k].toNat : Int) - 48).toNat)) (hn : wd.nlen N' ≤ 2000)
    (hown : Own wr w.heap.size 44 a (wd.nlen N') cap (wd.dcells (wd.nlen N') (N' : Int))) (hb : Below w.heap.size w wr) : ParseRel w s (.slice a (wd.nlen N') cap) (.int .u32 0) (.int .i64 ((k : Int) + 1)) wr := by
  obtain ⟨h1, h2, h3⟩ := H.out
  refine ⟨k + 1, N', 0, 0, cap, a, hk, by simp, rfl, rfl, ⟨?_, by decide, by omega⟩, by omega, hn, hown, hb⟩
  obtain rfl : m = 8 := by omega
  rw [nums_take s k hk, rdN_snoc, h1, hN]
  omega

set_option maxRecDepth 100000 in
set_option maxHeartbeats 1000000 in
theorem parse_form (s : ByteArray) (w : World) (hs : s.size ≤ 9223372036854775807) (h : showsB (nums s) = false) :
    Calls Tryd.prog 29 #[.string s] w fun e w' => e = .returned (.tuple #[.slice none 0 0, .int .i64 4]) ∧ w = w' := by
  go_enter Tryd.func29, Tryd.ntmps29
  go_wp2_with (go_at_call 53; refine (isShow_any s _ hs).mono ?_; rintro e w' ⟨rfl, hw⟩; subst hw)
  go_ret2
  exact ⟨rfl, rfl⟩
set_option maxRecDepth 100000 in
set_option maxHeartbeats 1000000 in
theorem parse_long (s : ByteArray) (w : World) (hs : s.size ≤ 9223372036854775807) (h : showsB (nums s) = true) (hl : 2000 < s.size) :
    Calls Tryd.prog 29 #[.string s] w fun e w' => e = .returned (.tuple #[.slice none 0 0, .int .i64 5]) ∧ w = w' := by
  go_enter Tryd.func29, Tryd.ntmps29
  go_wp2_with (go_at_call 53; refine (isShow_any s _ hs).mono ?_; rintro e w' ⟨rfl, hw⟩; subst hw)
  go_ret2
  exact ⟨rfl, rfl⟩
set_option maxRecDepth 100000 in
set_option maxHeartbeats 1000000 in
theorem parse_num (s : ByteArray) (w : World) (h : showsB (nums s) = true) (hl : s.size ≤ 2000) :
    Calls Tryd.prog 29 #[.string s] w fun e w' => ∃ a cap, e = .returned (.tuple #[.slice a (wd.nlen (rdN (nums s))) cap, .int .i64 0]) ∧ Own w' w.heap.size 44 a (wd.nlen (rdN (nums s))) cap (wd.dcells (wd.nlen (rdN (nums s))) (rdN (nums s) : Int)) ∧ Below w.heap.size w w' := by
  have hd : ∀ k (hk : k < s.size), 48 ≤ (s[k].toNat : Int) ∧ (s[k].toNat : Int) ≤ 57 := fun k hk => by
    unfold showsB at h
    exact (of_decide_eq_true h).2.2 _ (List.mem_of_getElem? (nums_at s k hk))
  have HD : Hid _ := hd
  have HR : Hid (∀ k, k ≤ s.size → rdN ((nums s).take k) < 10 ^ k) := fun k hk => by
    refine rdN_lt k _ (by rw [List.length_take, nums_length]; omega) fun c hc => ?_
    unfold showsB at h
    exact (of_decide_eq_true h).2.2 c (List.mem_of_mem_take hc)
  clear hd
  go_enter Tryd.func29, Tryd.ntmps29
  go_wp2_with (go_at_call 53; refine (isShow_any s _ (by omega)).mono ?_; rintro e w' ⟨rfl, hw⟩; subst hw)
  go_loopw [4, 5, 15] (fun nv pv iv wr => ParseRel w s nv pv iv wr) (fun _ _ iv _ => s.size - (intOf iv).toNat)
  case atStart =>
    refine ⟨0, 0, 0, (9 - (s.size - 0) % 9) % 9, 0, none, by omega, rfl, by rw [wd.nlen_zero], rfl, ⟨by simp [rdN], Nat.pow_pos (by decide), rfl⟩, by omega, by rw [wd.nlen_zero]; omega, ?_, Below.refl _ _⟩
    rw [wd.nlen_zero]
    exact World.ownsRow_nil _ _ _ _
  case round =>
    obtain ⟨k, N, P, m, cap, a, hk, rfl, rfl, rfl, H, hP, hn, hown, hbel⟩ := hrel
    by_cases hlt : k < s.size
    · obtain ⟨d0, d1⟩ := HD.out k hlt
      by_cases hz : (s.size - 1 - k) % 9 = 0
      · have hz' : (((s.size : Int) - 1 - k) % 9 == 0) = true := by rw [beq_iff_eq]; omega
        obtain ⟨N', hN'⟩ : ∃ N', N' = N * 1000000000 + (P * 10 + ((s[k].toNat : Int) - 48).toNat) := ⟨_, rfl⟩
        have hn' : wd.nlen N' ≤ 2000 := by
          obtain ⟨h1, h2, h3⟩ := H.out
          have h4 := HR.out (k + 1) hlt
          obtain rfl : m = 8 := by omega
          have : rdN ((nums s).take (k + 1)) = N' := by rw [nums_take s k hlt, rdN_snoc, h1, hN']; omega
          rw [this] at h4
          have := nlen_dec h4
          omega
        have HN : Hid _ := fun wr a cap => parse_cut (w := w) (wr := wr) (cap := cap) (a := a) hlt H d0 d1 hz hN' hn'
        have HW : Hid _ := fun (w0 : World) (h : Own w0 w.heap.size 44 a (wd.nlen N) cap (wd.dcells (wd.nlen N) (N : Int))) (hb : w.heap.size ≤ w0.heap.size) => with_any a cap w.heap.size N (P * 10 + ((s[k].toNat : Int) - 48).toNat) (pv := (P : Int) * 10 + ((s[k].toNat : Int) - 48)) w0 h (by omega) hb (by omega) (by omega)
        have hsz := hbel.size
        have HN' : Hid _ := hN'
        clear hz hN'
        go_wp2_with (go_at_call 54; refine (HW.out _ hown hsz).mono ?_; rw [← HN'.out]; rintro e w2 ⟨a2, cap2, rfl, hown2, hbel2⟩)
        go_roundw
        case rel => exact HN.out w2 a2 cap2 hown2 (hbel.trans hbel2)
        case measure => simp [intOf]; omega
      · have hz' : (((s.size : Int) - 1 - k) % 9 == 0) = false := by rw [beq_eq_false_iff_ne]; omega
        have HN : Hid _ := parse_on hlt H d0 d1 hz hn hown hbel
        clear hz hown
        go_wp2
        go_roundw
        case rel => exact HN.out
        case measure => simp [intOf]; omega
    · obtain rfl : k = s.size := by omega
      have HF : Hid (rdN (nums s) = N) := by
        obtain ⟨h1, h2, h3⟩ := H.out
        rw [Nat.sub_self] at h3
        obtain rfl : m = 0 := by simpa using h3
        rw [List.take_of_length_le (by rw [nums_length]; omega)] at h1
        unfold Hid
        rw [h1]
        simp at h2
        omega
      go_wp2
      go_ret2
      rw [HF.out]
      exact ⟨a, cap, rfl, hown, hbel⟩
end Go.Proofs.YteoepelmapjhcaaDoor
