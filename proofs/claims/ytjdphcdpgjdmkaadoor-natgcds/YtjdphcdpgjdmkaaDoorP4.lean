/-
  Joined texts, part 4:
  What nat's isShow and withPiece answer.
  What nat's Parse answers.
  What nat's DivMod answers, where the divisor is nought, longer, or one word.
  The laws' own look: a quotient is shown.
  What nat's Sub answers.
  A nat that comes as an argument, opened.
  Two numbers, and the digits of both, kept by calls; and what the laws import.
  What nat's subTimes and addBack answer.
  Numbers as digits to the base 2: which digits a sum, a difference, a product has. It imports nothing of the program.
  How many digits a number needs, to the base 2, and its digits without noughts at the end. It imports nothing of the program.
  How many bits a number needs: math/bits.Len32 off the shelf, nat's Bits, and zelligeref03's Half and Bits.
  What nat's shiftUp and shiftDown answer, and math/bits.LeadingZeros32.
-/
import Derived.Test.YtjdphcdpgjdmkaaDoorP3
import Derived.Test.YtjdphcdpgjdmkaaDoorP2
import Derived.Test.YtjdphcdpgjdmkaaDoorP1
import Derived.ProofKit
import Derived.OpenShut
import Derived.ChangeSlices
import Derived.Test.YtjdphcdpgjdmkaaDoorCards
import Derived.Test.YtjdphcdpgjdmkaaDoorTie
import Derived.Lay
import Derived.Carry
import Derived.SevenTiedAt
import Derived.WalkKit
import Derived.Shelf.Small.Bits
import Derived.Lib.ItoaNum
import Derived.BigQuiet
namespace Go.Proofs.YtjdphcdpgjdmkaaDoor
open Go.RowKit
set_option linter.unusedVariables false

/-- Digits, at least one, no noughts ahead. -/
def showsB (l : List Int) : Bool := decide (l ≠ [] ∧ ¬ (1 < l.length ∧ l.head? = some 48) ∧ ∀ c ∈ l, 48 ≤ c ∧ c ≤ 57)
theorem shows_empty {l : List Int} (h : l.length = 0) : showsB l = false := by
  unfold showsB
  rw [decide_eq_false_iff_not]
  intro h'
  exact h'.1 (List.length_eq_zero_iff.1 h)
theorem shows_lead {l : List Int} (h : 1 < l.length) (h2 : l.head? = some 48) : showsB l = false := by
  unfold showsB
  rw [decide_eq_false_iff_not]
  intro h'
  exact h'.2.1 ⟨h, h2⟩
theorem shows_bad {l : List Int} {k : Nat} {c : Int} (h : l[k]? = some c) (hc : c < 48 ∨ 57 < c) : showsB l = false := by
  unfold showsB
  rw [decide_eq_false_iff_not]
  intro h'
  have := h'.2.2 c (List.mem_of_getElem? h)
  omega
theorem shows_yes {l : List Int} (h0 : 0 < l.length) (h1 : ¬ (1 < l.length ∧ l.head? = some 48)) (h2 : ∀ (k : Nat) (c : Int), l[k]? = some c → 48 ≤ c ∧ c ≤ 57) : showsB l = true := by
  unfold showsB
  rw [decide_eq_true_iff]
  refine ⟨fun e => by rw [e] at h0; simp at h0, h1, fun c hc => ?_⟩
  obtain ⟨k, hk⟩ := List.getElem?_of_mem hc
  exact h2 k c hk
theorem nums_head (s : ByteArray) (h : 0 < s.size) : (nums s).head? = some ((s[0]).toNat : Int) := by
  rw [List.head?_eq_getElem?, nums_at s 0 h]
theorem isEmpty_no {s : ByteArray} (h : 0 < s.size) : s.toList.isEmpty = false := by
  rw [ByteArray.toList_eq, List.isEmpty_eq_false_iff, ← List.length_pos_iff]
  exact h
theorem isEmpty_yes {s : ByteArray} (h : s.size = 0) : s.toList.isEmpty = true := by
  rw [ByteArray.toList_eq, List.isEmpty_iff, ← List.length_eq_zero_iff]
  exact h

set_option maxRecDepth 100000 in
set_option maxHeartbeats 1000000 in
theorem isShow_any (s : ByteArray) (w : World) (hs : s.size ≤ 9223372036854775807) :
    Calls Tryd.prog 39 #[.string s] w fun e w' => e = .returned (.bool (showsB (nums s))) ∧ w = w' := by
  by_cases h0 : 0 < s.size
  · have he := isEmpty_no h0
    by_cases h1 : 1 < s.size ∧ (s[0].toNat : Int) = 48
    · obtain ⟨h1, h2⟩ := h1
      have HS : Hid (showsB (nums s) = false) := shows_lead (by rw [nums_length]; exact h1) (by rw [nums_head s h0, h2])
      have h2' : ((s[0].toNat : Int) == 48) = true := by simpa using h2
      clear h2
      go_enter Tryd.func39, Tryd.ntmps39
      go_wp2
      go_ret
      exact ⟨by rw [HS.out]; rfl, rfl⟩
    · have HL : Hid _ := h1
      have HF : Hid (∀ k : Nat, (∀ j (hj : j < s.size), j < k → 48 ≤ (s[j].toNat : Int) ∧ (s[j].toNat : Int) ≤ 57) → s.size ≤ k → showsB (nums s) = true) := by
        intro k hk hle
        refine shows_yes (by rw [nums_length]; exact h0) ?_ ?_
        · rw [nums_length, nums_head s h0]
          intro h
          exact h1 ⟨h.1, by simpa using h.2⟩
        · intro j c hj
          have hj' := (List.getElem?_eq_some_iff.1 hj).1
          rw [nums_length] at hj'
          rw [nums_at s j hj'] at hj
          simp only [Option.some.injEq] at hj
          rw [← hj]
          exact hk j hj' (by omega)
      have hcase : s.size ≤ 1 ∨ (1 < s.size ∧ ((s[0].toNat : Int) == 48) = false) := by
        rcases Nat.lt_or_ge 1 s.size with h | h
        · exact Or.inr ⟨h, by rw [beq_eq_false_iff_ne]; exact fun e => h1 ⟨h, e⟩⟩
        · exact Or.inl h
      clear h1
      rcases hcase with hc | ⟨hc, hc2⟩
      all_goals
        go_enter Tryd.func39, Tryd.ntmps39
        go_wp2
        go_loop [18] (fun i => ∃ k : Nat, k ≤ s.size ∧ i = .int .i64 (k : Int) ∧ Hid (∀ j (hj : j < s.size), j < k → 48 ≤ (s[j].toNat : Int) ∧ (s[j].toNat : Int) ≤ 57)) (fun i => s.size - (intOf i).toNat)
        case atStart => exact ⟨0, by omega, rfl, fun j hj h => absurd h (by omega)⟩
        case round =>
          obtain ⟨k, hk, rfl, HK⟩ := hrel
          by_cases hlt : k < s.size
          · by_cases hd : 48 ≤ (s[k].toNat : Int) ∧ (s[k].toNat : Int) ≤ 57
            · obtain ⟨d0, d1⟩ := hd
              have HK' : Hid (∀ j (hj : j < s.size), j < k + 1 → 48 ≤ (s[j].toNat : Int) ∧ (s[j].toNat : Int) ≤ 57) := fun j hj h => by
                rcases Nat.lt_or_ge j k with h' | h'
                · exact HK.out j hj h'
                · obtain rfl : j = k := by omega
                  exact ⟨d0, d1⟩
              go_wp2
              go_round
              case rel => exact ⟨k + 1, by omega, by simp, HK'.out⟩
              case measure => simp [intOf]; omega
            · have HB : Hid (showsB (nums s) = false) := shows_bad (nums_at s k hlt) (by omega)
              have hd2 : (s[k].toNat : Int) < 48 ∨ (48 ≤ (s[k].toNat : Int) ∧ 57 < (s[k].toNat : Int)) := by omega
              clear hd
              rcases hd2 with hd | ⟨hd, hd'⟩
              all_goals
                go_wp2
                go_ret
                exact ⟨by rw [HB.out]; rfl, rfl⟩
          · have HB : Hid (showsB (nums s) = true) := HF.out k HK.out (by omega)
            go_wp2
            go_ret
            exact ⟨by rw [HB.out]; rfl, rfl⟩
  · have he := isEmpty_yes (s := s) (by omega)
    have HS : Hid (showsB (nums s) = false) := shows_empty (by rw [nums_length]; omega)
    go_enter Tryd.func39, Tryd.ntmps39
    go_wp2
    go_ret
    exact ⟨by rw [HS.out]; rfl, rfl⟩

/-- The carry into place k when u times 10^9 and p are added. -/
def wc (u p : Int) (k : Nat) : Int := (u % 4294967296 ^ k * 1000000000 + p) / 4294967296 ^ k
theorem wc_zero (u p : Int) : wc u p 0 = p := by simp [wc, Int.emod_one]
theorem wc_sum (u p : Int) (k : Nat) : (u % 4294967296 ^ (k + 1) * 1000000000 + p) / 4294967296 ^ k = wc u p k + wd.dg u k * 1000000000 := by
  rw [wd.emod_succ]
  unfold wc
  have e : (wd.dg u k * 4294967296 ^ k + u % 4294967296 ^ k) * 1000000000 + p = (u % 4294967296 ^ k * 1000000000 + p) + (wd.dg u k * 1000000000) * 4294967296 ^ k := by
    rw [Int.add_mul, Int.mul_right_comm]; omega
  rw [e, Int.add_mul_ediv_right _ _ (Int.ne_of_gt (wd.p256 k))]
theorem wc_succ (u p : Int) (k : Nat) : wc u p (k + 1) = (wc u p k + wd.dg u k * 1000000000) / 4294967296 := by
  rw [← wc_sum]
  show (u % 4294967296 ^ (k + 1) * 1000000000 + p) / 4294967296 ^ (k + 1) = _
  have hp := wd.p256 k
  rw [Int.pow_succ, Int.ediv_ediv, if_neg (by omega)]; omega
theorem wc_digit (u p : Int) (k : Nat) : (wc u p k + wd.dg u k * 1000000000) % 4294967296 = wd.dg (u * 1000000000 + p) k := by
  rw [← wc_sum]
  show wd.dg (u % 4294967296 ^ (k + 1) * 1000000000 + p) k = _
  refine (wd.dg_congr (i := k + 1) (u / 4294967296 ^ (k + 1) * 1000000000) ?_ (by omega)).symm
  have h := Int.mul_ediv_add_emod u (4294967296 ^ (k + 1))
  have e : u / 4294967296 ^ (k + 1) * 1000000000 * 4294967296 ^ (k + 1) = 4294967296 ^ (k + 1) * (u / 4294967296 ^ (k + 1)) * 1000000000 := by
    rw [Int.mul_right_comm, Int.mul_comm (u / 4294967296 ^ (k + 1))]
  rw [e]
  have h2 : u * 1000000000 = (4294967296 ^ (k + 1) * (u / 4294967296 ^ (k + 1)) + u % 4294967296 ^ (k + 1)) * 1000000000 := by rw [h]
  rw [h2, Int.add_mul]
  omega
theorem wc_range (u p : Int) (k : Nat) (p0 : 0 ≤ p) (p1 : p < 1000000000) : 0 ≤ wc u p k ∧ wc u p k < 1000000000 := by
  unfold wc
  have hp := wd.p256 k
  have a := Int.emod_nonneg u (Int.ne_of_gt hp)
  have a' := Int.emod_lt_of_pos u hp
  exact ⟨Int.ediv_nonneg (by omega) (by omega), Int.ediv_lt_of_lt_mul hp (by omega)⟩
theorem wc_last (u p : Nat) (l : Nat) (hu : u < 4294967296 ^ l) : wc u p l = (((u * 1000000000 + p) / 4294967296 ^ l : Nat) : Int) := by
  unfold wc
  rw [Int.emod_eq_of_lt (by omega) (by rw [← wd.pow_cast]; omega), Int.natCast_ediv, wd.pow_cast]
  rfl
/-- How long the new number is. -/
theorem piece_len_same {u p : Nat} (h : (u * 1000000000 + p) / 4294967296 ^ wd.nlen u = 0) (hp : 0 < u ∨ p = 0) : wd.nlen (u * 1000000000 + p) = wd.nlen u := by
  have hlt : u * 1000000000 + p < 4294967296 ^ wd.nlen u := by
    rcases Nat.div_eq_zero_iff.1 h with h | h
    · have := wd.pow_nat (wd.nlen u); omega
    · exact h
  refine wd.nlen_eq ⟨hlt, ?_⟩
  rcases (wd.nlen_is u).2 with h1 | h1
  · exact Or.inl h1
  · exact Or.inr (by omega)
theorem piece_len_more {u p : Nat} (hp : p < 1000000000) (h : (u * 1000000000 + p) / 4294967296 ^ wd.nlen u ≠ 0) : wd.nlen (u * 1000000000 + p) = wd.nlen u + 1 := by
  have hu := wd.nlen_lt u
  have hge : 4294967296 ^ wd.nlen u ≤ u * 1000000000 + p := by
    rcases Nat.lt_or_ge (u * 1000000000 + p) (4294967296 ^ wd.nlen u) with h1 | h1
    · exact absurd (Nat.div_eq_of_lt h1) h
    · exact h1
  exact wd.nlen_eq ⟨by rw [Nat.pow_succ]; omega, Or.inr (by simpa using hge)⟩

/-- What holds at the head of each round. -/
def WithRel (w : World) (base u p l cap : Nat) (a : Option Addr) (c i : Value) (wr : World) : Prop := ∃ k : Nat, k ≤ l ∧ i = .int .i64 (k : Int) ∧ c = .int .u64 (wc u p k) ∧ Own wr base 40 a l cap (wd.mix l k ((u : Int) * 1000000000 + p) u) ∧ Below base w wr
theorem with_next (w wr : World) (base u p l cap b k : Nat) (hk : k < l) (hown : Own wr base 40 (some ⟨b, 0, none⟩) l cap (wd.mix l k ((u : Int) * 1000000000 + p) u)) (hb : Below base w wr) :
    WithRel w base u p l cap (some ⟨b, 0, none⟩) (.int .u64 ((wc u p k + wd.dg u k * 1000000000) / 4294967296)) (.int .i64 ((k : Int) + 1)) (wr.setCell ⟨b, k, none⟩ (.int .u32 ((wc u p k + wd.dg u k * 1000000000) % 4294967296))) := by
  refine ⟨k + 1, by omega, by simp, by rw [wc_succ], ?_, hb.setCell (seg_of_own hown).2.2 _⟩
  rw [wc_digit, ← wd.mix_set]
  exact Own.set hown _ hk

set_option maxRecDepth 100000 in
set_option maxHeartbeats 1000000 in
theorem with_any (a : Option Addr) (cap base u p : Nat) {pv : Int} (w : World) (hown : Own w base 40 a (wd.nlen u) cap (wd.dcells (wd.nlen u) (u : Int))) (hl : wd.nlen u ≤ 1000000000) (hbase : base ≤ w.heap.size) (hp : p < 1000000000) (hpv : pv = (p : Int)) :
    Calls Tryd.prog 40 #[.slice a (wd.nlen u) cap, .int .u32 pv] w fun e w' => ∃ a' cap', e = .returned (.slice a' (wd.nlen (u * 1000000000 + p)) cap') ∧ Own w' base 40 a' (wd.nlen (u * 1000000000 + p)) cap' (wd.dcells (wd.nlen (u * 1000000000 + p)) ((u * 1000000000 + p : Nat) : Int)) ∧ Below base w w' := by
  subst hpv
  obtain ⟨i0, hi0, hz0, hz1, hz2⟩ := info_parts infoWord
  obtain ⟨l, hl'⟩ : ∃ l, wd.nlen u = l := ⟨_, rfl⟩
  have HL : Hid _ := hl'
  have hu := wd.nlen_lt u
  have Hlast : Hid _ := wc_last u p (wd.nlen u) hu
  have Hsame : Hid _ := @piece_len_same u p
  have Hmore : Hid _ := @piece_len_more u p hp
  have HE : Hid ((u : Int) * 1000000000 + p = ((u * 1000000000 + p : Nat) : Int)) := by unfold Hid; omega
  have HU0 : Hid (u = 0 → p ≠ 0 → (u * 1000000000 + p) / 4294967296 ^ wd.nlen u ≠ 0) := by
    intro h1 h2
    rw [h1, wd.nlen_zero]; simpa using h2
  rw [hl'] at hown hl hu Hlast Hsame Hmore HU0 ⊢
  clear hl' hu
  go_enter Tryd.func40, Tryd.ntmps40
  go_wp2
  go_loopw [5, 12] (fun c i wr => WithRel w base u p l cap a c i wr) (fun _ i _ => l - (intOf i).toNat)
  case atStart => exact ⟨0, by omega, rfl, by rw [wc_zero], by rw [wd.mix_zero]; exact hown, Below.refl _ _⟩
  case round =>
    clear hown
    obtain ⟨k, hk, rfl, rfl, hown, hbel⟩ := hrel
    obtain ⟨f0, f1⟩ := wc_range u p k (by omega) (by omega)
    by_cases hlt : k < l
    · obtain ⟨b, rfl, hb, hb2, _⟩ := Own.at hown (by omega)
      have hroom := (Own.sl hown).room
      have c3 : wr.cell? ⟨b, k, none⟩ = some (.int .u32 (wd.dg u k)) := Own.cell hown k _ (wd.mix_at _ _ _ _ _ (by omega) (Nat.le_refl _))
      have c4 : wr.frozen? ⟨b, k, none⟩ = false := Own.free hown k (by omega)
      obtain ⟨d0, d1⟩ := wd.dg_range u k
      have HN : Hid _ := with_next w wr base u p l cap b k hlt hown hbel
      clear hown
      go_wp2
      go_roundw
      case rel => exact HN.out
      case measure => simp [intOf]; omega
    · obtain rfl : k = l := by omega
      rw [wd.mix_full, HE.out] at hown
      by_cases hz : (u * 1000000000 + p) / 4294967296 ^ k = 0
      · have hw0 : wc u p k = 0 := by rw [Hlast.out, hz]; rfl
        have hs := Hsame.out hz (by
          rcases Nat.eq_zero_or_pos u with h | h
          · rcases Nat.eq_zero_or_pos p with h2 | h2
            · exact Or.inr h2
            · exact absurd hz (HU0.out h (by omega))
          · exact Or.inl h)
        have HS : Hid _ := hs
        clear hs hz
        go_wp2
        go_ret
        rw [HS.out]
        exact ⟨a, cap, rfl, hown, hbel⟩
      · have hw0 : (wc u p k == 0) = false := by
          rw [Hlast.out, beq_eq_false_iff_ne]; omega
        have HS : Hid _ := Hmore.out hz
        have HT : Hid (wc u p k = wd.dg ((u * 1000000000 + p : Nat) : Int) k) := by
          have h1 := Hlast.out
          have h2 := wd.dg_nat (u * 1000000000 + p) k
          unfold Hid
          rw [h2]
          omega
        have hsz := hbel.size
        clear hz
        obtain ⟨C, hC⟩ : ∃ C, wc u p k = C := ⟨_, rfl⟩
        rw [hC] at f0 f1 hw0 HT ⊢
        clear hC
        go_wp2_with (at_builtin; refine wpList_append_lies _ rfl (.tmp 32) (.tmp 35) 23 rfl base 40 i0 (.int .u32 0) 1 4 Tryd.underlying23 hi0 hz0 hz1 hz2 rfl (by decide) (.slice a k cap) k (wd.dcells k ((u * 1000000000 + p : Nat) : Int)) rfl (World.ownsRow.alloc hown _) ⟨wr.heap.size, 0, none⟩ 1 1 [.int .u32 C] rfl rfl (cell_one_new _ _ _) (ints_oneCell .u32 [C]) (by decide) (by unfold maxLen; omega) (by omega) (by simp; omega) _ rfl ?_; intro g' cap' w4 hown4 hgrow4 hat4 hlt4)
        go_ret
        rw [HS.out]
        refine ⟨some ⟨g', 0, none⟩, cap', rfl, ?_, (hbel.alloc (by omega) _).grown hgrow4 (by simp; omega) (fun k' hk' => (World.ownsRow.lt hown k' hk').1)⟩
        rw [wd.dcells_succ, ← HT.out]
        exact hown4
end Go.Proofs.YtjdphcdpgjdmkaaDoor

namespace Go.Proofs.YtjdphcdpgjdmkaaDoor
open Go.RowKit
set_option linter.unusedVariables false

/-- The number of digits' bytes. -/
def rdN (l : List Int) : Nat := l.foldl (fun v c => 10 * v + (c - 48).toNat) 0
theorem rdN_snoc (l : List Int) (c : Int) : rdN (l ++ [c]) = 10 * rdN l + (c - 48).toNat := by unfold rdN; rw [List.foldl_append]; rfl
theorem rdN_lt : ∀ (n : Nat) (l : List Int), l.length = n → (∀ c ∈ l, 48 ≤ c ∧ c ≤ 57) → rdN l < 10 ^ n
  | 0, l, h, _ => by rw [List.length_eq_zero_iff.1 h]; decide
  | n + 1, l, h, hd => by
    have hne : l ≠ [] := fun e => by rw [e] at h; simp at h
    rw [← List.dropLast_concat_getLast hne] at hd ⊢
    rw [rdN_snoc, Nat.pow_succ]
    have h1 := rdN_lt n l.dropLast (by rw [List.length_dropLast]; omega) (fun c hc => hd c (List.mem_append_left _ hc))
    have h2 := hd (l.getLast hne) (List.mem_append_right _ (List.mem_singleton.2 rfl))
    omega
theorem rdN_digs (k m : Nat) : rdN (digs k m) = m % 10 ^ k := by
  induction k generalizing m with
  | zero => simp [digs, rdN, Nat.mod_one]
  | succ k ih =>
    rw [digs_snoc, rdN_snoc, ih]
    have h : m % 10 ^ (k + 1) = m / 10 % 10 ^ k * 10 + m % 10 := by
      rw [Nat.pow_succ, Nat.mul_comm (10 ^ k) 10, Nat.mod_mul]; omega
    rw [h]
    omega
theorem nlen_dec {N k : Nat} (h : N < 10 ^ k) : wd.nlen N ≤ k := wd.nlen_le (Nat.lt_of_lt_of_le h (Nat.pow_le_pow_left (by decide) k))

/-- What holds at the head of each round. -/
def ParseRel (w : World) (s : ByteArray) (nv pv iv : Value) (wr : World) : Prop := ∃ (k N P m cap : Nat) (a : Option Addr), k ≤ s.size ∧ iv = .int .i64 (k : Int) ∧ nv = .slice a (wd.nlen N) cap ∧ pv = .int .u32 (P : Int) ∧
  Hid (rdN ((nums s).take k) = N * 10 ^ m + P ∧ P < 10 ^ m ∧ m = (9 - (s.size - k) % 9) % 9) ∧ P < 100000000 ∧ wd.nlen N ≤ 2000 ∧ Own wr w.heap.size 40 a (wd.nlen N) cap (wd.dcells (wd.nlen N) (N : Int)) ∧ Below w.heap.size w wr
theorem pow10_le {m : Nat} (h : m ≤ 8) : 10 ^ m ≤ 100000000 := Nat.pow_le_pow_right (n := 10) (by decide) h
theorem parse_on {w wr : World} {s : ByteArray} {k N P m cap : Nat} {a : Option Addr} (hk : k < s.size) (H : Hid (rdN ((nums s).take k) = N * 10 ^ m + P ∧ P < 10 ^ m ∧ m = (9 - (s.size - k) % 9) % 9)) (d0 : 48 ≤ (s[k].toNat : Int)) (d1 : (s[k].toNat : Int) ≤ 57) (hne : (s.size - 1 - k) % 9 ≠ 0) (hn : wd.nlen N ≤ 2000)
    (hown : Own wr w.heap.size 40 a (wd.nlen N) cap (wd.dcells (wd.nlen N) (N : Int))) (hb : Below w.heap.size w wr) : ParseRel w s (.slice a (wd.nlen N) cap) (.int .u32 ((P : Int) * 10 + ((s[k].toNat : Int) - 48))) (.int .i64 ((k : Int) + 1)) wr := by
  obtain ⟨h1, h2, h3⟩ := H.out
  have e : (P : Int) * 10 + ((s[k].toNat : Int) - 48) = ((P * 10 + ((s[k].toNat : Int) - 48).toNat : Nat) : Int) := by omega
  have hm : m ≤ 7 := by omega
  have hp := pow10_le (m := m + 1) (by omega)
  rw [Nat.pow_succ] at hp
  refine ⟨k + 1, N, P * 10 + ((s[k].toNat : Int) - 48).toNat, m + 1, cap, a, hk, by simp, rfl, by rw [e], ⟨?_, by rw [Nat.pow_succ]; omega, by omega⟩, by omega, hn, hown, hb⟩
  rw [nums_take s k hk, rdN_snoc, h1, Nat.pow_succ, ← Nat.mul_assoc]
  omega
theorem parse_cut {w wr : World} {s : ByteArray} {k N P m cap N' : Nat} {a : Option Addr} (hk : k < s.size) (H : Hid (rdN ((nums s).take k) = N * 10 ^ m + P ∧ P < 10 ^ m ∧ m = (9 - (s.size - k) % 9) % 9)) (d0 : 48 ≤ (s[k].toNat : Int)) (d1 : (s[k].toNat : Int) ≤ 57) (hz : (s.size - 1 - k) % 9 = 0) (hN : N' = N * 1000000000 + (P * 10 + ((s[k].toNat : Int) - 48).toNat)) (hn : wd.nlen N' ≤ 2000)
    (hown : Own wr w.heap.size 40 a (wd.nlen N') cap (wd.dcells (wd.nlen N') (N' : Int))) (hb : Below w.heap.size w wr) : ParseRel w s (.slice a (wd.nlen N') cap) (.int .u32 0) (.int .i64 ((k : Int) + 1)) wr := by
  obtain ⟨h1, h2, h3⟩ := H.out
  refine ⟨k + 1, N', 0, 0, cap, a, hk, by simp, rfl, rfl, ⟨?_, by decide, by omega⟩, by omega, hn, hown, hb⟩
  obtain rfl : m = 8 := by omega
  rw [nums_take s k hk, rdN_snoc, h1, hN]
  omega

set_option maxRecDepth 100000 in
set_option maxHeartbeats 1000000 in
theorem parse_form (s : ByteArray) (w : World) (hs : s.size ≤ 9223372036854775807) (h : showsB (nums s) = false) :
    Calls Tryd.prog 27 #[.string s] w fun e w' => e = .returned (.tuple #[.slice none 0 0, .int .i64 4]) ∧ w = w' := by
  go_enter Tryd.func27, Tryd.ntmps27
  go_wp2_with (go_at_call 39; refine (isShow_any s _ hs).mono ?_; rintro e w' ⟨rfl, hw⟩; subst hw)
  go_ret2
  exact ⟨rfl, rfl⟩
set_option maxRecDepth 100000 in
set_option maxHeartbeats 1000000 in
theorem parse_long (s : ByteArray) (w : World) (hs : s.size ≤ 9223372036854775807) (h : showsB (nums s) = true) (hl : 2000 < s.size) :
    Calls Tryd.prog 27 #[.string s] w fun e w' => e = .returned (.tuple #[.slice none 0 0, .int .i64 5]) ∧ w = w' := by
  go_enter Tryd.func27, Tryd.ntmps27
  go_wp2_with (go_at_call 39; refine (isShow_any s _ hs).mono ?_; rintro e w' ⟨rfl, hw⟩; subst hw)
  go_ret2
  exact ⟨rfl, rfl⟩
set_option maxRecDepth 100000 in
set_option maxHeartbeats 1000000 in
theorem parse_num (s : ByteArray) (w : World) (h : showsB (nums s) = true) (hl : s.size ≤ 2000) :
    Calls Tryd.prog 27 #[.string s] w fun e w' => ∃ a cap, e = .returned (.tuple #[.slice a (wd.nlen (rdN (nums s))) cap, .int .i64 0]) ∧ Own w' w.heap.size 40 a (wd.nlen (rdN (nums s))) cap (wd.dcells (wd.nlen (rdN (nums s))) (rdN (nums s) : Int)) ∧ Below w.heap.size w w' := by
  have hd : ∀ k (hk : k < s.size), 48 ≤ (s[k].toNat : Int) ∧ (s[k].toNat : Int) ≤ 57 := fun k hk => by
    unfold showsB at h
    exact (of_decide_eq_true h).2.2 _ (List.mem_of_getElem? (nums_at s k hk))
  have HD : Hid _ := hd
  have HR : Hid (∀ k, k ≤ s.size → rdN ((nums s).take k) < 10 ^ k) := fun k hk => by
    refine rdN_lt k _ (by rw [List.length_take, nums_length]; omega) fun c hc => ?_
    unfold showsB at h
    exact (of_decide_eq_true h).2.2 c (List.mem_of_mem_take hc)
  clear hd
  go_enter Tryd.func27, Tryd.ntmps27
  go_wp2_with (go_at_call 39; refine (isShow_any s _ (by omega)).mono ?_; rintro e w' ⟨rfl, hw⟩; subst hw)
  go_loopw [4, 5, 15] (fun nv pv iv wr => ParseRel w s nv pv iv wr) (fun _ _ iv _ => s.size - (intOf iv).toNat)
  case atStart =>
    refine ⟨0, 0, 0, (9 - (s.size - 0) % 9) % 9, 0, none, by omega, rfl, by rw [wd.nlen_zero], rfl, ⟨by simp [rdN], Nat.pow_pos (by decide), rfl⟩, by omega, by rw [wd.nlen_zero]; omega, ?_, Below.refl _ _⟩
    rw [wd.nlen_zero]
    exact World.ownsRow_nil _ _ _ _
  case round =>
    obtain ⟨k, N, P, m, cap, a, hk, rfl, rfl, rfl, H, hP, hn, hown, hbel⟩ := hrel
    by_cases hlt : k < s.size
    · obtain ⟨d0, d1⟩ := HD.out k hlt
      by_cases hz : (s.size - 1 - k) % 9 = 0
      · have hz' : (((s.size : Int) - 1 - k) % 9 == 0) = true := by rw [beq_iff_eq]; omega
        obtain ⟨N', hN'⟩ : ∃ N', N' = N * 1000000000 + (P * 10 + ((s[k].toNat : Int) - 48).toNat) := ⟨_, rfl⟩
        have hn' : wd.nlen N' ≤ 2000 := by
          obtain ⟨h1, h2, h3⟩ := H.out
          have h4 := HR.out (k + 1) hlt
          obtain rfl : m = 8 := by omega
          have : rdN ((nums s).take (k + 1)) = N' := by rw [nums_take s k hlt, rdN_snoc, h1, hN']; omega
          rw [this] at h4
          have := nlen_dec h4
          omega
        have HN : Hid _ := fun wr a cap => parse_cut (w := w) (wr := wr) (cap := cap) (a := a) hlt H d0 d1 hz hN' hn'
        have HW : Hid _ := fun (w0 : World) (h : Own w0 w.heap.size 40 a (wd.nlen N) cap (wd.dcells (wd.nlen N) (N : Int))) (hb : w.heap.size ≤ w0.heap.size) => with_any a cap w.heap.size N (P * 10 + ((s[k].toNat : Int) - 48).toNat) (pv := (P : Int) * 10 + ((s[k].toNat : Int) - 48)) w0 h (by omega) hb (by omega) (by omega)
        have hsz := hbel.size
        have HN' : Hid _ := hN'
        clear hz hN'
        go_wp2_with (go_at_call 40; refine (HW.out _ hown hsz).mono ?_; rw [← HN'.out]; rintro e w2 ⟨a2, cap2, rfl, hown2, hbel2⟩)
        go_roundw
        case rel => exact HN.out w2 a2 cap2 hown2 (hbel.trans hbel2)
        case measure => simp [intOf]; omega
      · have hz' : (((s.size : Int) - 1 - k) % 9 == 0) = false := by rw [beq_eq_false_iff_ne]; omega
        have HN : Hid _ := parse_on hlt H d0 d1 hz hn hown hbel
        clear hz hown
        go_wp2
        go_roundw
        case rel => exact HN.out
        case measure => simp [intOf]; omega
    · obtain rfl : k = s.size := by omega
      have HF : Hid (rdN (nums s) = N) := by
        obtain ⟨h1, h2, h3⟩ := H.out
        rw [Nat.sub_self] at h3
        obtain rfl : m = 0 := by simpa using h3
        rw [List.take_of_length_le (by rw [nums_length]; omega)] at h1
        unfold Hid
        rw [h1]
        simp at h2
        omega
      go_wp2
      go_ret2
      rw [HF.out]
      exact ⟨a, cap, rfl, hown, hbel⟩
end Go.Proofs.YtjdphcdpgjdmkaaDoor

namespace Go.Proofs.YtjdphcdpgjdmkaaDoor
open Go.RowKit
set_option linter.unusedVariables false

/-- Two numbers, in memory of the call's own, and no error. -/
def Both (w : World) (q r : Nat) (e : Ending) (w' : World) : Prop := ∃ aq cq ar cr, e = .returned (.tuple #[.slice aq (wd.nlen q) cq, .slice ar (wd.nlen r) cr, .int .i64 0]) ∧
  Own w' w.heap.size 40 aq (wd.nlen q) cq (wd.dcells (wd.nlen q) (q : Int)) ∧ Own w' w.heap.size 40 ar (wd.nlen r) cr (wd.dcells (wd.nlen r) (r : Int)) ∧ Below w.heap.size w w'

theorem strip_to (m : Nat) (a : Option Addr) (l cap u : Nat) (w : World) (hs : Sl w a l cap (wd.dcells l (u : Int))) (hu : u < 4294967296 ^ l) (hm : wd.nlen u = m) :
    Calls Tryd.prog 29 #[.slice a l cap] w fun e w' => ∃ a' cap', e = .returned (.slice a' m cap') ∧ w = w' ∧ Cut a l cap a' m cap' := by
  subst hm
  exact strip_any a l cap u w hs hu
set_option maxRecDepth 100000 in
set_option maxHeartbeats 1000000 in
theorem divMod_zero (a b : Option Addr) (la lb ca cb u : Nat) (w : World) (ha : Sl w a la ca (wd.dcells la (u : Int))) (hu : u < 4294967296 ^ la) (hb : Sl w b lb cb (wd.dcells lb ((0 : Nat) : Int))) :
    Calls Tryd.prog 12 #[.slice a la ca, .slice b lb cb] w fun e w' => e = .returned (.tuple #[.slice none 0 0, .slice none 0 0, .int .i64 3]) ∧ w = w' := by
  go_enter Tryd.func12, Tryd.ntmps12
  go_wp2_with (first
    | (go_at_call_of 29 [Value.slice a la ca]; refine (strip_any a la ca u _ ha hu).mono ?_; rintro e w' ⟨a1, ca1, rfl, hw, hcut1⟩; subst hw)
    | (go_at_call 29; refine (strip_to 0 b lb cb 0 _ hb (wd.pow_nat lb) wd.nlen_zero).mono ?_; rintro e w' ⟨b1, cb1, rfl, hw, hcut2⟩; subst hw))
  go_ret3
  exact ⟨rfl, rfl⟩

set_option maxRecDepth 100000 in
set_option maxHeartbeats 1000000 in
theorem divMod_less (a b : Option Addr) (la lb ca cb u v : Nat) (w : World) (ha : Sl w a la ca (wd.dcells la (u : Int))) (hu : u < 4294967296 ^ la) (hla : la ≤ 1000000000) (hb : Sl w b lb cb (wd.dcells lb (v : Int))) (hv : v < 4294967296 ^ lb) (hlt : wd.nlen u < wd.nlen v) :
    Calls Tryd.prog 12 #[.slice a la ca, .slice b lb cb] w (Both w (u / v) (u % v)) := by
  have hlu := wd.nlen_le hu
  have huv := wd.lt_of_nlen hlt
  have HQ : Hid (u / v = 0) := Nat.div_eq_of_lt huv
  have HR : Hid (u % v = u) := Nat.mod_eq_of_lt huv
  rw [HQ.out, HR.out]
  have hu2 := wd.nlen_lt u
  clear huv
  go_enter Tryd.func12, Tryd.ntmps12
  go_wp2_with (first
    | (go_at_call_of 29 [Value.slice a la ca]; refine (strip_any a la ca u _ ha hu).mono ?_; rintro e w' ⟨a1, ca1, rfl, hw, hcut1⟩; subst hw)
    | (go_at_call 29; refine (strip_any b lb cb v _ hb hv).mono ?_; rintro e w' ⟨b1, cb1, rfl, hw, hcut2⟩; subst hw)
    | (go_at_call 15; refine (trim_any a1 (wd.nlen u) ca1 u _ (hcut1.sl ha) hu2 (by omega)).mono ?_; rintro e w1 ⟨a2, ca2, rfl, hown, hbel⟩))
  go_ret3
  refine ⟨none, 0, a2, ca2, by rw [wd.nlen_zero]; rfl, ?_, hown, hbel⟩
  rw [wd.nlen_zero]
  exact World.ownsRow_nil _ _ _ _

set_option maxRecDepth 100000 in
set_option maxHeartbeats 2000000 in
theorem divMod_word (a b : Option Addr) (la lb ca cb u v : Nat) (w : World) (ha : Sl w a la ca (wd.dcells la (u : Int))) (hu : u < 4294967296 ^ la) (hla : la ≤ 1000000000) (hb : Sl w b lb cb (wd.dcells lb (v : Int))) (hv : v < 4294967296 ^ lb) (hone : wd.nlen v = 1) (hge : 1 ≤ wd.nlen u) :
    Calls Tryd.prog 12 #[.slice a la ca, .slice b lb cb] w (Both w (u / v) (u % v)) := by
  have hlu := wd.nlen_le hu
  have hu2 := wd.nlen_lt u
  have hv1 : v < 4294967296 := by have := wd.nlen_lt v; rw [hone] at this; simpa using this
  have hv0 : 0 < v := by
    rcases Nat.eq_zero_or_pos v with e | e
    · rw [e, wd.nlen_zero] at hone; omega
    · exact e
  have HO : Hid _ := hone
  have HD : Hid (wd.dg (v : Int) 0 = v) := by unfold Hid wd.dg; simp; omega
  have HQ : Hid ((u : Int) / v = ((u / v : Nat) : Int)) := by unfold Hid; rw [Int.natCast_ediv]
  have HR : Hid ((u : Int) % v = ((u % v : Nat) : Int)) := by unfold Hid; rw [Int.natCast_emod]
  have hQ2 : Hid (u / v < 4294967296 ^ wd.nlen u) := Nat.lt_of_le_of_lt (Nat.div_le_self _ _) hu2
  have hR2 : u % v < 18446744073709551616 := by have := Nat.mod_lt u hv0; omega
  have hr0 : 0 ≤ (u : Int) % v := Int.emod_nonneg _ (by omega)
  have hr1 : (u : Int) % v < 4294967296 := by have := Int.emod_lt_of_pos (u : Int) (show (0 : Int) < v by omega); omega
  obtain ⟨R, hRe⟩ : ∃ R : Int, R = (u : Int) % v := ⟨_, rfl⟩
  have HRR : Hid _ := hRe
  have HR3 : Hid (R = ((u % v : Nat) : Int)) := by unfold Hid; rw [hRe, HR.out]
  rw [← hRe] at hr0 hr1
  clear hone hRe
  go_enter Tryd.func12, Tryd.ntmps12
  go_wp2_with (first
    | (go_at_call_of 29 [Value.slice a la ca]; refine (strip_any a la ca u _ ha hu).mono ?_; rintro e w' ⟨a1, ca1, rfl, hw, hcut1⟩; subst hw)
    | (go_at_call_of 29 [Value.slice b lb cb]; refine (strip_to 1 b lb cb v _ hb hv HO.out).mono ?_; rintro e w' ⟨b1, cb1, rfl, hw, hcut2⟩; subst hw; obtain ⟨bb, ob, rfl, hbb, hsb⟩ := (hcut2.sl hb).at (by omega); have hroomb := (hcut2.sl hb).room)
    | (go_at_call 15; refine (trim_any a1 (wd.nlen u) ca1 u _ (hcut1.sl ha) hu2 (by omega)).mono ?_; rintro e w1 ⟨a2, ca2, rfl, hown, hbel⟩; obtain ⟨g, rfl, hg, hg2, _⟩ := Own.at hown (by omega); have c1 := (hbel.cell (p := ⟨bb, ob, none⟩) hbb).trans (hsb.cell 0 _ (wd.dcells_at _ _ _ (by omega))); rw [HD.out] at c1)
    | (go_at_call 33; refine (divWord_any g (wd.nlen u) ca2 u w.heap.size v _ hown hu2 (by omega) (by omega)).mono ?_; rw [← HRR.out]; rintro e w2 ⟨rfl, hown2, hwr2⟩; rw [HQ.out] at hown2; have hbel2 := hwr2.after hbel hg2 (Nat.le_refl _))
    | (go_at_call 29; refine (strip_any _ _ _ (u / v) _ hown2.sl hQ2.out).mono ?_; rintro e w' ⟨a3, ca3, rfl, hw, hcut3⟩; subst hw)
    | (go_at_call 13; refine (of_any (u % v) hR2 HR3.out _).mono ?_; rintro e w3 ⟨a4, ca4, rfl, hown4, hbel4⟩))
  have hsz := hbel2.size
  go_ret3
  exact ⟨a3, ca3, a4, ca4, rfl, Own.below (hcut3.own hown2) hbel4, Own.mono hown4 hsz, hbel2.trans (hbel4.mono hsz)⟩
end Go.Proofs.YtjdphcdpgjdmkaaDoor

namespace Go.Proofs.YtjdphcdpgjdmkaaDoor
open Go.RowKit
set_option linter.unusedVariables false

def ten20 : ByteArray := ⟨#[49, 48, 48, 48, 48, 48, 48, 48, 48, 48, 48, 48, 48, 48, 48, 48, 48, 48, 48, 48, 48]⟩
theorem nlen3 : wd.nlen 3 = 1 := wd.nlen_eq ⟨by decide, Or.inr (by decide)⟩
theorem nlenU : wd.nlen 100000000000000000000 = 3 := wd.nlen_eq ⟨by decide, Or.inr (by decide)⟩
theorem decQ : decS 33333333333333333333 = ⟨#[51, 51, 51, 51, 51, 51, 51, 51, 51, 51, 51, 51, 51, 51, 51, 51, 51, 51, 51, 51]⟩ := by
  unfold decS
  rw [dlen_eq (k := 20) ⟨by decide, by decide, Or.inr (by decide)⟩]
  decide +kernel
theorem decR : decS 1 = ⟨#[49]⟩ := by
  unfold decS
  rw [dlen_eq (k := 1) ⟨by decide, by decide, Or.inl rfl⟩]
  decide +kernel
theorem lenQ : wd.nlen 33333333333333333333 ≤ 1000000000 := Nat.le_trans (wd.nlen_le (n := 3) (by decide)) (by decide)
theorem lenR : wd.nlen 1 ≤ 1000000000 := Nat.le_trans (wd.nlen_le (n := 1) (by decide)) (by decide)
theorem rdU : rdN (nums ten20) = 100000000000000000000 := by decide +kernel
theorem showsU : showsB (nums ten20) = true := by decide +kernel
theorem parseU (w : World) : Calls Tryd.prog 27 #[.string ten20] w fun e w' => ∃ a cap, e = .returned (.tuple #[.slice a 3 cap, .int .i64 0]) ∧ Own w' w.heap.size 40 a 3 cap (wd.dcells 3 ((100000000000000000000 : Nat) : Int)) ∧ Below w.heap.size w w' := by
  have h := parse_num ten20 w showsU (by decide)
  rw [rdU, nlenU] at h
  exact h
theorem of3 (w : World) : Calls Tryd.prog 13 #[.int .u64 3] w fun e w' => ∃ a cap, e = .returned (.slice a 1 cap) ∧ Own w' w.heap.size 40 a 1 cap (wd.dcells 1 ((3 : Nat) : Int)) ∧ Below w.heap.size w w' := by
  have h := of_any 3 (by decide) (xv := 3) rfl w
  rw [nlen3] at h
  exact h
theorem div3 (a b : Option Addr) (ca cb : Nat) (w : World) (ha : Sl w a 3 ca (wd.dcells 3 ((100000000000000000000 : Nat) : Int))) (hb : Sl w b 1 cb (wd.dcells 1 ((3 : Nat) : Int))) :
    Calls Tryd.prog 12 #[.slice a 3 ca, .slice b 1 cb] w (Both w 33333333333333333333 1) :=
  divMod_word a b 3 1 ca cb 100000000000000000000 3 w ha (by decide) (by decide) hb (by decide) nlen3 (by rw [nlenU]; decide)
theorem eq_same (s : ByteArray) : (s.toList == s.toList) = true := beq_self_eq_true _

set_option maxRecDepth 100000 in
set_option maxHeartbeats 1000000 in
theorem lives_any (w : World) : Calls Tryd.prog 10 #[] w fun e w' => e = .returned (.bool true) ∧ Below w.heap.size w w' := by
  have HP : Hid _ := parseU
  unfold ten20 at HP
  go_enter Tryd.func10, Tryd.ntmps10
  go_wp2_with (first
    | (go_at_call 27; refine (HP.out _).mono ?_; rintro e w1 ⟨a1, c1, rfl, hown1, hbel1⟩)
    | (go_at_call 13; refine (of3 _).mono ?_; rintro e w2 ⟨a2, c2, rfl, hown2, hbel2⟩; have hsl1 := (Own.sl hown1).below hbel2)
    | (go_at_call 12; refine (div3 a1 a2 c1 c2 _ hsl1 (Own.sl hown2)).mono ?_; rintro e w3 ⟨aq, cq, ar, cr, rfl, hq, hr, hbel3⟩)
    | (go_at_call_of 28 [Value.slice aq (wd.nlen 33333333333333333333) cq]; refine (show_any aq _ cq 33333333333333333333 _ (Own.sl hq) (wd.nlen_lt _) lenQ).mono ?_; rw [decQ]; rintro e w4 ⟨rfl, hbel4⟩)
    | (go_at_call 28; refine (show_any ar _ cr 1 _ ((Own.sl hr).below hbel4) (wd.nlen_lt _) lenR).mono ?_; rw [decR]; rintro e w5 ⟨rfl, hbel5⟩))
  go_ret
  exact ⟨rfl, hbel1.trans ((hbel2.trans ((hbel3.trans ((hbel4.trans (hbel5.mono hbel4.size)).mono hbel3.size)).mono hbel2.size)).mono hbel1.size)⟩
end Go.Proofs.YtjdphcdpgjdmkaaDoor

namespace Go.Proofs.YtjdphcdpgjdmkaaDoor
open Go.RowKit
set_option linter.unusedVariables false

/-- What holds at the head of each round of the difference's loop. -/
def NSubRel (w : World) (u v l b : Nat) (c i : Value) (wr : World) : Prop := ∃ k : Nat, k ≤ l ∧ i = .int .i64 (k : Int) ∧ c = .int .u32 (wd.bw u v k) ∧ Own wr w.heap.size 40 (some ⟨b, 0, none⟩) l l (wd.mix l k ((u : Int) - v) 0) ∧ Below w.heap.size w wr
theorem nsub_next (w wr : World) (u v l b k : Nat) (hk : k < l) (hown : Own wr w.heap.size 40 (some ⟨b, 0, none⟩) l l (wd.mix l k ((u : Int) - v) 0)) (hb : Below w.heap.size w wr) :
    NSubRel w u v l b (.int .u32 (wd.bor (wd.dg u k) (wd.dg v k + wd.bw u v k))) (.int .i64 ((k : Int) + 1)) (wr.setCell ⟨b, k, none⟩ (.int .u32 ((wd.dg u k - wd.dg v k - wd.bw u v k) % 4294967296))) := by
  refine ⟨k + 1, by omega, by simp, by rw [wd.bw_succ], ?_, hb.setCell (seg_of_own hown).2.2 _⟩
  rw [wd.sub_digit, ← wd.mix_set]
  exact Own.set hown _ (by omega)

end Go.Proofs.YtjdphcdpgjdmkaaDoor

namespace Go.Proofs.YtjdphcdpgjdmkaaDoor
open Go.ChangeShapes Go.WideShapes Go.ChangeAt Go.RowKit
set_option linter.unusedVariables false

theorem cellsWord : Tryd.prog.cellsOf 40 = 1 := by kernel_rfl
theorem laidOutAll : laidOutB Tryd.prog = true := by kernel_rfl
theorem bd_u32 {x : Int} (h : (Lit.int .u32 x).wf = true) : 0 ≤ x ∧ x < 4294967296 := by
  have h1 : IntKind.u32.min = 0 := rfl
  have h2 : IntKind.u32.max = 4294967295 := rfl
  simp only [Lit.wf, Bool.and_eq_true, decide_eq_true_eq, h1, h2] at h
  omega
theorem bd_u64 {x : Int} (h : (Lit.int .u64 x).wf = true) : 0 ≤ x ∧ x < 18446744073709551616 := by
  have h1 : IntKind.u64.min = 0 := rfl
  have h2 : IntKind.u64.max = 18446744073709551615 := rfl
  simp only [Lit.wf, Bool.and_eq_true, decide_eq_true_eq, h1, h2] at h
  omega
theorem nat_view {H : Type} {enc : TypeId × Value → H} {W : World} {fuel : Nat} {a0 : Option Addr} {len cap : Nat} {d : DataW H} {p : List MemPlace}
    (hf : DataW.trod enc Tryd.prog W 0 (fun _ => true) true fuel 23 (Value.slice a0 len cap).cells.toList = some (d, p)) (hfz : W.noneFrozen p) (hlt : ∀ x ∈ p, x.block < W.heap.size) :
    ∃ u : Nat, u < 4294967296 ^ len ∧ Sl W a0 len cap (wd.dcells len (u : Int)) := by
  rcases open_ints Tryd.underlying23 Tryd.underlying40 cellsWord hf with ⟨hcs, hx⟩ | ⟨a, len', cap', zs, hcs, _, hl, hm, hz, hx, hcell, hwz⟩
  · simp [Value.cells] at hcs
    obtain ⟨rfl, rfl, rfl⟩ := hcs
    exact ⟨0, by decide, sl_nil W⟩
  · simp [Value.cells] at hcs
    obtain ⟨rfl, rfl, rfl⟩ := hcs
    simp only [Prod.mk.injEq] at hx
    obtain ⟨rfl, rfl⟩ := hx
    simp only [if_true] at hz
    have hlen : (zs.take len).length = len := by simp; omega
    obtain ⟨u, hu, e⟩ := wd.digits_num (zs.take len) (fun z hz' => bd_u32 (hwz z (List.mem_of_mem_take hz')))
    rw [hlen] at hu e
    refine ⟨u, hu, wd.dcells_length _ _, hl, hm, (fun h => by cases h), ?_⟩
    rcases Nat.eq_zero_or_pos len with h0 | h0
    · exact Or.inl h0
    · right
      have hsp : a.spot = none := by
        have h1 := hcell 0 (by omega)
        rw [show a.add 0 = a from rfl] at h1
        unfold World.cell? at h1
        split at h1
        · split at h1
          · cases h1
          · rename_i hs
            simpa using hs
        · cases h1
      obtain ⟨b, o, sp⟩ := a
      dsimp only at hsp
      subst hsp
      have hmem : ∀ j, j < zs.length → MemPlace.cell b (o + j) ∈ MemPlace.row ⟨b, o, none⟩ zs.length := fun j hj => by
        unfold MemPlace.row
        exact List.mem_map.2 ⟨j, List.mem_range.2 hj, rfl⟩
      refine ⟨b, o, rfl, hlt _ (hmem 0 (by omega)), ?_⟩
      intro j v hv
      have hj := (List.getElem?_eq_some_iff.1 hv).1
      rw [wd.dcells_length] at hj
      refine ⟨?_, hfz _ _ (hmem j (by omega))⟩
      have h1 := hcell j (by omega)
      rw [Addr.add_lit] at h1
      rw [h1]
      rw [← e, List.getElem?_map, List.getElem?_take, if_pos hj, List.getElem?_eq_getElem (by omega)] at hv
      simp only [Option.map_some, Option.some.injEq] at hv
      rw [← hv, List.getD, List.getElem?_eq_getElem (by omega)]
      rfl
end Go.Proofs.YtjdphcdpgjdmkaaDoor

namespace Go.Proofs.YtjdphcdpgjdmkaaDoor
open Go.RowKit
set_option linter.unusedVariables false

/-- Two numbers, and the digits of both. -/
structure Four (w : World) (a b x y : Option Addr) (ca cb cx cy m n u v : Nat) : Prop where
  a : Sl w a m ca (wd.dcells m (u : Int))
  b : Sl w b n cb (wd.dcells n (v : Int))
  x : Sl w x (hf.nlen u) cx (hf.dcells (hf.nlen u) (u : Int))
  y : Sl w y (hf.nlen v) cy (hf.dcells (hf.nlen v) (v : Int))
theorem Four.below {w w' : World} {a b x y : Option Addr} {ca cb cx cy m n u v : Nat} (h : Four w a b x y ca cb cx cy m n u v) (hb : Below w.heap.size w w') : Four w' a b x y ca cb cx cy m n u v :=
  ⟨h.a.below hb, h.b.below hb, h.x.below hb, h.y.below hb⟩
theorem hf_few {u m : Nat} (hm : m ≤ 100000000) (h : u < 4294967296 ^ m) : hf.nlen u ≤ 1000000000 := by
  have : hf.nlen u ≤ 2 * m := hf.nlen_le (by rw [pow_halves]; exact h)
  omega
theorem few_sum {u v m n : Nat} (hm : m ≤ 20) (hn : n ≤ 20) (hu : u < 4294967296 ^ m) (hv : v < 4294967296 ^ n) : u + v < 4294967296 ^ 21 := by
  have h1 := Nat.pow_le_pow_right (n := 4294967296) (by decide) hm
  have h2 := Nat.pow_le_pow_right (n := 4294967296) (by decide) hn
  rw [Nat.pow_succ]
  omega
theorem few_mul {u v m n : Nat} (hm : m ≤ 20) (hn : n ≤ 20) (hu : u < 4294967296 ^ m) (hv : v < 4294967296 ^ n) : u * v < 4294967296 ^ 40 := by
  have h1 := Nat.pow_le_pow_right (n := 4294967296) (by decide) hm
  have h2 := Nat.pow_le_pow_right (n := 4294967296) (by decide) hn
  rw [show 40 = 20 + 20 from rfl, Nat.pow_add]
  exact Nat.mul_lt_mul_of_lt_of_le (by omega) (by omega) (by decide)
end Go.Proofs.YtjdphcdpgjdmkaaDoor

namespace Go.Proofs.YtjdphcdpgjdmkaaDoor
open Go.RowKit
set_option linter.unusedVariables false

/-- The carry into place k of x times y. -/
def sc (x y : Int) (k : Nat) : Int := x * (y % 4294967296 ^ k) / 4294967296 ^ k
theorem sc_tc (x y : Int) (k : Nat) : sc x y k = tc 0 x y k := by
  unfold sc tc wd.cy wd.tk
  rw [Nat.zero_add, Int.pow_zero, Int.mul_one, Int.zero_emod, Int.zero_add]
theorem dg0 (k : Nat) : wd.dg 0 k = 0 := by simp [wd.dg]
theorem sc_zero (x y : Int) : sc x y 0 = 0 := by rw [sc_tc, tc_zero]
theorem sc_succ (x y : Int) (k : Nat) : sc x y (k + 1) = (sc x y k + x * wd.dg y k) / 4294967296 := by
  rw [sc_tc, sc_tc, tc_succ, dg0, Int.add_zero]
theorem sc_digit (x y : Int) (k : Nat) : (sc x y k + x * wd.dg y k) % 4294967296 = wd.dg (x * y) k := by
  have := tc_digit 0 x y k
  rwa [dg0, Int.add_zero, Int.zero_add, ← sc_tc] at this
theorem sc_range (x y : Int) (k : Nat) (h0 : 0 ≤ x) (h1 : x < 4294967296) : 0 ≤ sc x y k ∧ sc x y k ≤ 4294967295 := by
  rw [sc_tc]
  exact tc_range _ _ _ _ h0 h1
theorem sc_lt (x y : Int) (k : Nat) (h0 : 0 < x) : sc x y k < x := by
  unfold sc
  have hp := wd.p256 k
  refine Int.ediv_lt_of_lt_mul hp ?_
  exact Int.mul_lt_mul_of_pos_left (Int.emod_lt_of_pos _ hp) h0
theorem sc_last (x y : Int) (k : Nat) (y0 : 0 ≤ y) (y1 : y < 4294967296 ^ k) : sc x y k = x * y / 4294967296 ^ k := by
  unfold sc
  rw [Int.emod_eq_of_lt y0 y1]
theorem bw_last (x y : Int) (k : Nat) (x0 : 0 ≤ x) (x1 : x < 4294967296 ^ k) (y0 : 0 ≤ y) (y1 : y < 4294967296 ^ k) : wd.bw x y k = if x < y then 1 else 0 := by
  unfold wd.bw
  rw [Int.emod_eq_of_lt x0 x1, Int.emod_eq_of_lt y0 y1]
  have hp := wd.p256 k
  split
  · have : (x - y) / 4294967296 ^ k = -1 := by
      have h1 : (x - y + 4294967296 ^ k) / 4294967296 ^ k = 0 := Int.ediv_eq_zero_of_lt (by omega) (by omega)
      have h2 := Int.add_ediv_of_dvd_right (a := x - y) (Int.dvd_refl (4294967296 ^ k))
      rw [h1, Int.ediv_self (Int.ne_of_gt hp)] at h2
      omega
    omega
  · have : (x - y) / 4294967296 ^ k = 0 := Int.ediv_eq_zero_of_lt (by omega) (by omega)
    omega

/-- What holds at the head of each round of subTimes. -/
def STRel (w : World) (N x y : Int) (b o n : Nat) (c r i : Value) (wr : World) : Prop := ∃ k : Nat, k ≤ n ∧ i = .int .i64 (k : Int) ∧ c = .int .u64 (sc x y k) ∧ r = .int .u32 (wd.bw N (x * y) k) ∧ Seg wr b o (wd.mix (n + 1) k (N - x * y) N) ∧ Wr w wr b o (o + (n + 1))
theorem st_next (w wr : World) (N x y : Int) (b o n k : Nat) (hk : k < n) (hseg : Seg wr b o (wd.mix (n + 1) k (N - x * y) N)) (hw : Wr w wr b o (o + (n + 1))) :
    STRel w N x y b o n (.int .u64 ((sc x y k + x * wd.dg y k) / 4294967296)) (.int .u32 (wd.bor (wd.dg N k) ((sc x y k + x * wd.dg y k) % 4294967296 + wd.bw N (x * y) k))) (.int .i64 ((k : Int) + 1)) (wr.setCell ⟨b, o + k, none⟩ (.int .u32 ((wd.dg N k - (sc x y k + x * wd.dg y k) % 4294967296 - wd.bw N (x * y) k) % 4294967296))) := by
  refine ⟨k + 1, by omega, by simp, by rw [sc_succ], by rw [sc_digit, wd.bw_succ], ?_, hw.set _ (by omega) (by omega)⟩
  rw [sc_digit, wd.sub_digit, ← wd.mix_set]
  exact hseg.set k _ (by rw [wd.mix_length]; omega)
theorem st_last (w wr : World) (N x y : Int) (b o n : Nat) (hseg : Seg wr b o (wd.mix (n + 1) n (N - x * y) N)) (hw : Wr w wr b o (o + (n + 1))) (hl : sc x y n = wd.dg (x * y) n) :
    Seg (wr.setCell ⟨b, o + n, none⟩ (.int .u32 ((wd.dg N n - sc x y n - wd.bw N (x * y) n) % 4294967296))) b o (wd.dcells (n + 1) (N - x * y)) ∧ Wr w (wr.setCell ⟨b, o + n, none⟩ (.int .u32 ((wd.dg N n - sc x y n - wd.bw N (x * y) n) % 4294967296))) b o (o + (n + 1)) := by
  refine ⟨?_, hw.set _ (by omega) (by omega)⟩
  rw [hl, wd.sub_digit, ← wd.mix_full (n + 1) (N - x * y) N, ← wd.mix_set]
  exact hseg.set n _ (by rw [wd.mix_length]; omega)

set_option maxRecDepth 100000 in
set_option maxHeartbeats 1000000 in
theorem subTimes_any (b o n cs : Nat) (yb : Option Addr) (cy N D : Nat) (g : Int) (w : World) (hseg : Seg w b o (wd.dcells (n + 1) (N : Int))) (hN : N < 4294967296 ^ (n + 1)) (hcs : n + 1 ≤ cs) (hcs' : cs ≤ 1000000000000) (hy : Sl w yb n cy (wd.dcells n (D : Int))) (hD : D < 4294967296 ^ n) (hne : ∀ o, yb ≠ some ⟨b, o, none⟩) (g0 : 0 ≤ g) (g1 : g < 4294967296) :
    Calls Tryd.prog 56 #[.slice (some ⟨b, o, none⟩) (n + 1) cs, .slice yb n cy, .int .u32 g] w fun e w' => e = .returned (.bool (decide ((N : Int) < g * D))) ∧ Seg w' b o (wd.dcells (n + 1) ((N : Int) - g * D)) ∧ Wr w w' b o (o + (n + 1)) := by
  have hDc : (D : Int) < 4294967296 ^ n := by rw [← wd.pow_cast]; omega
  have hp := wd.p256 n
  have hX0 : 0 ≤ g * (D : Int) := Int.mul_nonneg g0 (by omega)
  have hX1 : g * (D : Int) < 4294967296 ^ (n + 1) := by
    have h1 : g * (D : Int) ≤ 4294967295 * (4294967296 ^ n - 1) := Int.mul_le_mul (by omega) (by omega) (by omega) (by omega)
    rw [Int.pow_succ]
    rw [Int.mul_sub] at h1
    omega
  have HL : Hid (sc g D n = wd.dg (g * D) n) := by
    unfold Hid wd.dg
    rw [sc_last _ _ _ (by omega) hDc, Int.emod_eq_of_lt (Int.ediv_nonneg hX0 (by omega)) (Int.ediv_lt_of_lt_mul hp (by rw [Int.pow_succ] at hX1; rw [Int.mul_comm 4294967296]; exact hX1))]
  have HB : Hid (wd.bor (wd.dg N n) (sc g D n + wd.bw N (g * D) n) = if (N : Int) < g * D then 1 else 0) := by
    unfold Hid
    rw [HL.out, wd.bw_succ]
    exact bw_last _ _ _ (by omega) (by rw [← wd.pow_cast]; omega) hX0 hX1
  have hcap := hy.big
  have hroom := hy.room
  unfold maxLen at hcap
  obtain ⟨m, hm⟩ : ∃ m, m = n + 1 := ⟨_, rfl⟩
  have HM : Hid _ := hm
  have hm1 : n < m := by omega
  have hm2 : m ≤ cs := by omega
  have HG : Hid (Seg w b o (wd.dcells (n + 1) (N : Int))) := hseg
  clear hseg hX0 hX1 hp hDc
  rw [← hm]
  clear hm hcs
  go_enter Tryd.func56, Tryd.ntmps56
  go_wp2
  go_loopw [7, 8, 14] (fun c r i wr => STRel w N g D b o n c r i wr) (fun _ _ i _ => n - (intOf i).toNat)
  case atStart => exact ⟨0, by omega, rfl, by rw [sc_zero], by rw [wd.bw_zero], by rw [wd.mix_zero]; exact HG.out, Wr.refl _ _ _ _⟩
  case round =>
    obtain ⟨k, hk, rfl, rfl, rfl, hseg, hwr⟩ := hrel
    obtain ⟨f0, f1⟩ := sc_range g D k g0 g1
    obtain ⟨h0, h1⟩ := wd.bw_range N (g * D) k
    obtain ⟨d0, d1⟩ := wd.dg_range N k
    have c3 : wr.cell? ⟨b, o + k, none⟩ = some (.int .u32 (wd.dg N k)) := hseg.cell k _ (wd.mix_at _ _ _ _ _ (by omega) (Nat.le_refl _))
    have c4 : wr.frozen? ⟨b, o + k, none⟩ = false := hseg.free k (by rw [wd.mix_length]; omega)
    by_cases hlt : k < n
    · obtain ⟨by', oy, rfl, hby, hsy⟩ := hy.at (by omega)
      have hne' : by' ≠ b := fun e => hne oy (by rw [e])
      have c1 : wr.cell? ⟨by', oy + k, none⟩ = some (.int .u32 (wd.dg D k)) := (hwr.seg hsy hby hne').cell k _ (wd.dcells_at _ _ _ hlt)
      obtain ⟨e0, e1⟩ := wd.dg_range D k
      obtain ⟨i0, i1⟩ := xdg g D k g0 g1
      have HN : Hid _ := st_next w wr N g D b o n k hlt hseg hwr
      clear hseg
      have j0 : 0 ≤ (sc g D k + g * wd.dg D k) % 4294967296 := by omega
      have j1 : (sc g D k + g * wd.dg D k) % 4294967296 < 4294967296 := by omega
      go_wp2_with (go_at_call 61; refine (sub32_any _ _ _ _ d0 d1 j0 j1 h0 h1).mono ?_; rintro e w' ⟨rfl, hw⟩; subst hw)
      go_roundw
      case rel => exact HN.out
      case measure => simp [intOf]; omega
    · obtain rfl : k = n := by omega
      have hl := st_last w wr N g D b o k hseg hwr HL.out
      have HS : Hid _ := hl
      clear hseg hl
      have fe : sc g D k % 4294967296 = sc g D k := by omega
      go_wp2_with (go_at_call 61; refine (sub32_any _ _ _ _ d0 d1 (by omega) (by omega) h0 h1).mono ?_; rintro e w' ⟨rfl, hw⟩; subst hw)
      go_ret
      rw [HM.out]
      refine ⟨?_, HS.out.1, HS.out.2⟩
      rw [HB.out]
      by_cases q : (N : Int) < g * D
      · simp [q]
      · simp [q]

/-- What holds at the head of each round of addBack. -/
def ABRel (w : World) (M y : Int) (b o n : Nat) (c i : Value) (wr : World) : Prop := ∃ k : Nat, k ≤ n ∧ i = .int .i64 (k : Int) ∧ c = .int .u32 (wd.carry M y k) ∧ Seg wr b o (wd.mix (n + 1) k (M + y) M) ∧ Wr w wr b o (o + (n + 1))
theorem ab_next (w wr : World) (M y : Int) (b o n k : Nat) (hk : k < n) (hseg : Seg wr b o (wd.mix (n + 1) k (M + y) M)) (hw : Wr w wr b o (o + (n + 1))) :
    ABRel w M y b o n (.int .u32 ((wd.dg M k + wd.dg y k + wd.carry M y k) / 4294967296)) (.int .i64 ((k : Int) + 1)) (wr.setCell ⟨b, o + k, none⟩ (.int .u32 ((wd.dg M k + wd.dg y k + wd.carry M y k) % 4294967296))) := by
  have e : wd.dg M k + wd.dg y k + wd.carry M y k = wd.carry M y k + wd.dg M k + wd.dg y k := by omega
  refine ⟨k + 1, by omega, by simp, by rw [e, wd.carry_succ], ?_, hw.set _ (by omega) (by omega)⟩
  rw [e, wd.add_digit, ← wd.mix_set]
  exact hseg.set k _ (by rw [wd.mix_length]; omega)
theorem ab_last (w wr : World) (M y : Int) (b o n : Nat) (hseg : Seg wr b o (wd.mix (n + 1) n (M + y) M)) (hw : Wr w wr b o (o + (n + 1))) (hl : wd.dg y n = 0) :
    Seg (wr.setCell ⟨b, o + n, none⟩ (.int .u32 ((wd.dg M n + wd.carry M y n) % 4294967296))) b o (wd.dcells (n + 1) (M + y)) ∧ Wr w (wr.setCell ⟨b, o + n, none⟩ (.int .u32 ((wd.dg M n + wd.carry M y n) % 4294967296))) b o (o + (n + 1)) := by
  refine ⟨?_, hw.set _ (by omega) (by omega)⟩
  have e : wd.dg M n + wd.carry M y n = wd.carry M y n + wd.dg M n + wd.dg y n := by omega
  rw [e, wd.add_digit, ← wd.mix_full (n + 1) (M + y) M, ← wd.mix_set]
  exact hseg.set n _ (by rw [wd.mix_length]; omega)

set_option maxRecDepth 100000 in
set_option maxHeartbeats 1000000 in
theorem addBack_any (b o n cs : Nat) (yb : Option Addr) (cy D : Nat) (M : Int) (w : World) (hseg : Seg w b o (wd.dcells (n + 1) M)) (hcs : n + 1 ≤ cs) (hcs' : cs ≤ 1000000000000) (hy : Sl w yb n cy (wd.dcells n (D : Int))) (hD : D < 4294967296 ^ n) (hne : ∀ o, yb ≠ some ⟨b, o, none⟩) :
    Calls Tryd.prog 57 #[.slice (some ⟨b, o, none⟩) (n + 1) cs, .slice yb n cy] w fun e w' => e = .returned (.tuple #[]) ∧ Seg w' b o (wd.dcells (n + 1) (M + D)) ∧ Wr w w' b o (o + (n + 1)) := by
  have HL : Hid (wd.dg (D : Int) n = 0) := by
    unfold Hid wd.dg
    rw [Int.ediv_eq_zero_of_lt (by omega) (by rw [← wd.pow_cast]; omega)]
    rfl
  have hcap := hy.big
  have hroom := hy.room
  unfold maxLen at hcap
  obtain ⟨m, hm⟩ : ∃ m, m = n + 1 := ⟨_, rfl⟩
  have HM : Hid _ := hm
  have hm1 : n < m := by omega
  have hm2 : m ≤ cs := by omega
  have HG : Hid (Seg w b o (wd.dcells (n + 1) M)) := hseg
  clear hseg
  rw [← hm]
  clear hm hcs
  go_enter Tryd.func57, Tryd.ntmps57
  go_wp2
  go_loopw [4, 9] (fun c i wr => ABRel w M D b o n c i wr) (fun _ i _ => n - (intOf i).toNat)
  case atStart => exact ⟨0, by omega, rfl, by rw [wd.carry_zero], by rw [wd.mix_zero]; exact HG.out, Wr.refl _ _ _ _⟩
  case round =>
    obtain ⟨k, hk, rfl, rfl, hseg, hwr⟩ := hrel
    obtain ⟨h0, h1⟩ := wd.carry_range M D k
    obtain ⟨d0, d1⟩ := wd.dg_range M k
    have c3 : wr.cell? ⟨b, o + k, none⟩ = some (.int .u32 (wd.dg M k)) := hseg.cell k _ (wd.mix_at _ _ _ _ _ (by omega) (Nat.le_refl _))
    have c4 : wr.frozen? ⟨b, o + k, none⟩ = false := hseg.free k (by rw [wd.mix_length]; omega)
    by_cases hlt : k < n
    · obtain ⟨by', oy, rfl, hby, hsy⟩ := hy.at (by omega)
      have hne' : by' ≠ b := fun e => hne oy (by rw [e])
      have c1 : wr.cell? ⟨by', oy + k, none⟩ = some (.int .u32 (wd.dg D k)) := (hwr.seg hsy hby hne').cell k _ (wd.dcells_at _ _ _ hlt)
      obtain ⟨e0, e1⟩ := wd.dg_range D k
      have HN : Hid _ := ab_next w wr M D b o n k hlt hseg hwr
      clear hseg
      go_wp2_with (go_at_call 62; refine (add32_any _ _ _ _ d0 d1 e0 e1 h0 h1).mono ?_; rintro e w' ⟨rfl, hw⟩; subst hw)
      go_roundw
      case rel => exact HN.out
      case measure => simp [intOf]; omega
    · obtain rfl : k = n := by omega
      have hl := ab_last w wr M D b o k hseg hwr HL.out
      have HS : Hid _ := hl
      clear hseg hl
      go_wp2
      go_end0
      rw [HM.out]
      exact ⟨rfl, HS.out.1, HS.out.2⟩
end Go.Proofs.YtjdphcdpgjdmkaaDoor

namespace Go.Proofs.YtjdphcdpgjdmkaaDoor.bt
open Go.RowKit

/-- Digit i of v, to the base 2 (of a number below nought: of v modulo as many digits as you like). -/
def dg (v : Int) (i : Nat) : Int := v / 2 ^ i % 2
theorem dg_range (v : Int) (i : Nat) : 0 ≤ dg v i ∧ dg v i < 2 := by unfold dg; omega
theorem p256 (i : Nat) : (0 : Int) < 2 ^ i := Int.pow_pos (by decide)
/-- n digits: at the places that p names those of u, at the others those of v. -/
def fill (n : Nat) (p : Nat → Bool) (u v : Int) : List Value := (List.range n).map fun j => .int .i64 (if p j then dg u j else dg v j)
def dcells (n : Nat) (v : Int) : List Value := (List.range n).map fun j => .int .i64 (dg v j)
def mix (n i : Nat) (u v : Int) : List Value := fill n (fun j => decide (j < i)) u v
theorem fill_length (n : Nat) (p : Nat → Bool) (u v : Int) : (fill n p u v).length = n := by simp [fill]
theorem mix_length (n i : Nat) (u v : Int) : (mix n i u v).length = n := fill_length _ _ _ _
theorem dcells_length (n : Nat) (v : Int) : (dcells n v).length = n := by simp [dcells]
theorem dcells_at (n : Nat) (v : Int) (i : Nat) (h : i < n) : (dcells n v)[i]? = some (.int .i64 (dg v i)) := by simp [dcells, h]
theorem fill_at (n : Nat) (p : Nat → Bool) (u v : Int) (i : Nat) (h : i < n) : (fill n p u v)[i]? = some (.int .i64 (if p i then dg u i else dg v i)) := by simp [fill, h]
theorem mix_at (n k : Nat) (u v : Int) (i : Nat) (h : i < n) (hk : k ≤ i) : (mix n k u v)[i]? = some (.int .i64 (dg v i)) := by
  rw [mix, fill_at _ _ _ _ _ h]; simp; omega
theorem fill_congr {n : Nat} {p q : Nat → Bool} {u v u' v' : Int} (h : ∀ j, j < n → (if p j then dg u j else dg v j) = (if q j then dg u' j else dg v' j)) : fill n p u v = fill n q u' v' := by
  unfold fill
  refine List.map_congr_left fun j hj => ?_
  rw [h j (by simpa using hj)]
theorem fill_set (n : Nat) (p : Nat → Bool) (u v : Int) (i : Nat) : (fill n p u v).set i (.int .i64 (dg u i)) = fill n (fun j => p j || j == i) u v := by
  refine List.ext_getElem? fun j => ?_
  rw [List.getElem?_set]
  by_cases e : i = j
  · subst e
    by_cases h : i < n
    · rw [if_pos rfl, if_pos (by rw [fill_length]; exact h), fill_at _ _ _ _ _ h]; simp
    · rw [if_pos rfl, if_neg (by rw [fill_length]; exact h), List.getElem?_eq_none (by rw [fill_length]; omega)]
  · by_cases h : j < n
    · rw [if_neg e, fill_at _ _ _ _ _ h, fill_at _ _ _ _ _ h]
      have e' : (j == i) = false := by simp; omega
      simp [e']
    · rw [if_neg e, List.getElem?_eq_none (by simp [fill_length]; omega), List.getElem?_eq_none (by simp [fill_length]; omega)]
theorem mix_set (n i : Nat) (u v : Int) : (mix n i u v).set i (.int .i64 (dg u i)) = mix n (i + 1) u v := by
  unfold mix
  rw [fill_set]
  refine fill_congr fun j _ => ?_
  have : (decide (j < i) || j == i) = decide (j < i + 1) := by rw [Bool.eq_iff_iff]; simp; omega
  rw [this]
theorem mix_zero (n : Nat) (u v : Int) : mix n 0 u v = dcells n v := by unfold mix fill dcells; simp
theorem mix_full (n : Nat) (u v : Int) : mix n n u v = dcells n u := by
  unfold mix fill dcells
  refine List.map_congr_left fun j hj => ?_
  have : j < n := by simpa using hj
  simp [this]
/-- The digits of two numbers that are the same modulo 2^i are the same below place i. -/
theorem dg_congr {u v : Int} {i j : Nat} (t : Int) (h : u = v + t * 2 ^ i) (hj : j < i) : dg u j = dg v j := by
  unfold dg
  obtain ⟨d, rfl⟩ : ∃ d, i = j + 1 + d := ⟨i - (j + 1), by omega⟩
  have e : t * (2 : Int) ^ (j + 1 + d) = (2 * (t * 2 ^ d)) * 2 ^ j := by
    rw [show j + 1 + d = d + 1 + j by omega, Int.pow_add, Int.pow_succ, ← Int.mul_assoc, ← Int.mul_assoc, Int.mul_comm (t * 2 ^ d) 2]
  rw [h, e, Int.add_mul_ediv_right _ _ (Int.ne_of_gt (p256 j))]
  omega
theorem dcells_congr {n : Nat} {u v : Int} (t : Int) (h : u = v + t * 2 ^ n) : dcells n u = dcells n v := by
  unfold dcells
  refine List.map_congr_left fun j hj => ?_
  rw [dg_congr t h (by simpa using hj)]
/-- The carry into place i when x and y are added. -/
def carry (x y : Int) (i : Nat) : Int := (x % 2 ^ i + y % 2 ^ i) / 2 ^ i
theorem carry_zero (x y : Int) : carry x y 0 = 0 := by simp [carry]
theorem emod_succ (x : Int) (i : Nat) : x % 2 ^ (i + 1) = dg x i * 2 ^ i + x % 2 ^ i := by
  unfold dg
  have hp := p256 i
  have h1 := Int.mul_ediv_add_emod x (2 ^ i)
  have h2 := Int.mul_ediv_add_emod (x / 2 ^ i) 2
  have b := Int.emod_nonneg x (Int.ne_of_gt hp)
  have b' := Int.emod_lt_of_pos x hp
  have c := Int.emod_nonneg (x / 2 ^ i) (show (2 : Int) ≠ 0 by decide)
  have c' := Int.emod_lt_of_pos (x / 2 ^ i) (show (0 : Int) < 2 by decide)
  have e : x = (x / 2 ^ i % 2 * 2 ^ i + x % 2 ^ i) + (x / 2 ^ i / 2) * 2 ^ (i + 1) := by
    have : (x / 2 ^ i / 2) * (2 : Int) ^ (i + 1) = (2 * (x / 2 ^ i / 2)) * 2 ^ i := by rw [Int.pow_succ, Int.mul_comm ((2 : Int) ^ i) 2, ← Int.mul_assoc, Int.mul_comm _ 2]
    rw [this]
    have h3 : (2 * (x / 2 ^ i / 2)) * (2 : Int) ^ i + x / 2 ^ i % 2 * 2 ^ i = x / 2 ^ i * 2 ^ i := by rw [← Int.add_mul, h2]
    have h4 : x / 2 ^ i * (2 : Int) ^ i = 2 ^ i * (x / 2 ^ i) := Int.mul_comm _ _
    omega
  have l0 : 0 ≤ x / 2 ^ i % 2 * 2 ^ i + x % 2 ^ i := Int.add_nonneg (Int.mul_nonneg c (Int.le_of_lt hp)) b
  have l1 : x / 2 ^ i % 2 * 2 ^ i + x % 2 ^ i < 2 ^ (i + 1) := by
    have : x / 2 ^ i % 2 * (2 : Int) ^ i ≤ 1 * 2 ^ i := Int.mul_le_mul_of_nonneg_right (by omega) (Int.le_of_lt hp)
    rw [Int.pow_succ]
    omega
  have key : x % 2 ^ (i + 1) = (x / 2 ^ i % 2 * 2 ^ i + x % 2 ^ i) % 2 ^ (i + 1) := by
    have := congrArg (· % (2 : Int) ^ (i + 1)) e
    simpa [Int.add_mul_emod_self_right] using this
  rw [key, Int.emod_eq_of_lt l0 l1]
theorem carry_sum (x y : Int) (i : Nat) : (x % 2 ^ (i + 1) + y % 2 ^ (i + 1)) / 2 ^ i = carry x y i + dg x i + dg y i := by
  rw [emod_succ, emod_succ]
  unfold carry
  have e : dg x i * 2 ^ i + x % 2 ^ i + (dg y i * 2 ^ i + y % 2 ^ i) = (x % 2 ^ i + y % 2 ^ i) + (dg x i + dg y i) * 2 ^ i := by rw [Int.add_mul]; omega
  rw [e, Int.add_mul_ediv_right _ _ (Int.ne_of_gt (p256 i))]
  omega
theorem carry_succ (x y : Int) (i : Nat) : carry x y (i + 1) = (carry x y i + dg x i + dg y i) / 2 := by
  rw [← carry_sum]
  show (x % 2 ^ (i + 1) + y % 2 ^ (i + 1)) / 2 ^ (i + 1) = _
  have hp := p256 i
  rw [Int.pow_succ, Int.ediv_ediv, if_neg (by omega)]
  omega
theorem add_digit (x y : Int) (i : Nat) : (carry x y i + dg x i + dg y i) % 2 = dg (x + y) i := by
  unfold dg carry
  have hp := p256 i
  have h1 := Int.mul_ediv_add_emod x (2 ^ i)
  have h2 := Int.mul_ediv_add_emod y (2 ^ i)
  have e : x + y = (x % 2 ^ i + y % 2 ^ i) + (x / 2 ^ i + y / 2 ^ i) * 2 ^ i := by
    have a1 : x / 2 ^ i * (2 : Int) ^ i = 2 ^ i * (x / 2 ^ i) := Int.mul_comm _ _
    have a2 : y / 2 ^ i * (2 : Int) ^ i = 2 ^ i * (y / 2 ^ i) := Int.mul_comm _ _
    rw [Int.add_mul]; omega
  have e2 : (x + y) / 2 ^ i = (x % 2 ^ i + y % 2 ^ i) / 2 ^ i + (x / 2 ^ i + y / 2 ^ i) := by
    conv => lhs; rw [e]
    exact Int.add_mul_ediv_right _ _ (Int.ne_of_gt hp)
  rw [e2]
  omega
theorem carry_range (x y : Int) (i : Nat) : 0 ≤ carry x y i ∧ carry x y i ≤ 1 := by
  unfold carry
  have hp := p256 i
  have a := Int.emod_nonneg x (Int.ne_of_gt hp)
  have a' := Int.emod_lt_of_pos x hp
  have b := Int.emod_nonneg y (Int.ne_of_gt hp)
  have b' := Int.emod_lt_of_pos y hp
  refine ⟨Int.ediv_nonneg (by omega) (by omega), ?_⟩
  have : (x % 2 ^ i + y % 2 ^ i) / 2 ^ i < 2 := Int.ediv_lt_of_lt_mul hp (by omega)
  omega
theorem neg_digit (x : Int) (i : Nat) : 1 - dg x i = dg (-1 - x) i := by
  unfold dg
  have hp := p256 i
  have h1 := Int.mul_ediv_add_emod x (2 ^ i)
  have a := Int.emod_nonneg x (Int.ne_of_gt hp)
  have a' := Int.emod_lt_of_pos x hp
  have e : -1 - x = (2 ^ i - 1 - x % 2 ^ i) + (-1 - x / 2 ^ i) * 2 ^ i := by
    have a1 : x / 2 ^ i * (2 : Int) ^ i = 2 ^ i * (x / 2 ^ i) := Int.mul_comm _ _
    rw [Int.sub_mul]; omega
  have e2 : (-1 - x) / 2 ^ i = -1 - x / 2 ^ i := by
    conv => lhs; rw [e]
    rw [Int.add_mul_ediv_right _ _ (Int.ne_of_gt hp), Int.ediv_eq_zero_of_lt (by omega) (by omega)]
    omega
  rw [e2]
  omega
end Go.Proofs.YtjdphcdpgjdmkaaDoor.bt

namespace Go.Proofs.YtjdphcdpgjdmkaaDoor.bt
open Go.RowKit
set_option linter.unusedVariables false

/-- v needs n digits: none for nought. -/
def IsLen (v n : Nat) : Prop := v < 2 ^ n ∧ (n = 0 ∨ 2 ^ (n - 1) ≤ v)
theorem isLen_one {v n m : Nat} (h : IsLen v n) (h' : IsLen v m) : n = m := by
  obtain ⟨a, b⟩ := h
  obtain ⟨a', b'⟩ := h'
  rcases Nat.lt_trichotomy n m with e | e | e
  · rcases b' with b' | b'
    · omega
    · have := Nat.pow_le_pow_right (n := 2) (by decide) (show n ≤ m - 1 by omega)
      omega
  · exact e
  · rcases b with b | b
    · omega
    · have := Nat.pow_le_pow_right (n := 2) (by decide) (show m ≤ n - 1 by omega)
      omega
/-- A number below 2^n has a length of n at most, and is found by cutting noughts off the end. -/
theorem isLen_cut : ∀ (n v : Nat), v < 2 ^ n → ∃ m, m ≤ n ∧ IsLen v m
  | 0, v, h => ⟨0, Nat.le_refl _, h, Or.inl rfl⟩
  | n + 1, v, h => by
    by_cases c : v < 2 ^ n
    · obtain ⟨m, h1, h2⟩ := isLen_cut n v c
      exact ⟨m, by omega, h2⟩
    · exact ⟨n + 1, Nat.le_refl _, h, Or.inr (by simp; omega)⟩
theorem lt_pow_self (v : Nat) : v < 2 ^ v := Nat.lt_pow_self (by decide)
theorem isLen_ex (v : Nat) : ∃ m, IsLen v m := by
  obtain ⟨m, _, h⟩ := isLen_cut v v (lt_pow_self v)
  exact ⟨m, h⟩
/-- How many digits v needs. -/
def nlen (v : Nat) : Nat := if h : v = 0 then 0 else nlen (v / 2) + 1
  termination_by v
  decreasing_by exact Nat.div_lt_self (Nat.pos_of_ne_zero h) (by decide)
theorem nlen_is (v : Nat) : IsLen v (nlen v) := by
  induction v using Nat.strongRecOn with
  | ind v ih =>
    unfold nlen
    split
    · rename_i h
      rw [h]
      exact ⟨by decide, Or.inl rfl⟩
    · rename_i h
      obtain ⟨h1, h2⟩ := ih (v / 2) (Nat.div_lt_self (Nat.pos_of_ne_zero h) (by decide))
      refine ⟨?_, Or.inr ?_⟩
      · rw [Nat.pow_succ]
        exact (Nat.div_lt_iff_lt_mul (by decide)).1 h1
      · rw [Nat.add_sub_cancel]
        rcases h2 with h2 | h2
        · rw [h2]
          exact Nat.pos_of_ne_zero h
        · rcases Nat.eq_zero_or_pos (nlen (v / 2)) with h3 | h3
          · rw [h3]
            exact Nat.pos_of_ne_zero h
          · have h4 := (Nat.le_div_iff_mul_le (by decide)).1 h2
            rw [← Nat.pow_succ] at h4
            rwa [show (nlen (v / 2) - 1).succ = nlen (v / 2) by omega] at h4
theorem nlen_eq {v n : Nat} (h : IsLen v n) : nlen v = n := isLen_one (nlen_is v) h
theorem nlen_le {v n : Nat} (h : v < 2 ^ n) : nlen v ≤ n := by
  obtain ⟨m, h1, h2⟩ := isLen_cut n v h
  rw [nlen_eq h2]; exact h1
theorem nlen_zero : nlen 0 = 0 := nlen_eq ⟨by decide, Or.inl rfl⟩
theorem nlen_lt (v : Nat) : v < 2 ^ nlen v := (nlen_is v).1
theorem nlen_pos {v : Nat} (h : 0 < v) : 0 < nlen v := by
  rcases Nat.lt_or_ge 0 (nlen v) with l | l
  · exact l
  · have := nlen_lt v
    rw [show nlen v = 0 by omega] at this
    simp at this
    omega
/-- The longer number is the greater. -/
theorem lt_of_nlen {u v : Nat} (h : nlen u < nlen v) : u < v := by
  obtain ⟨_, b⟩ := nlen_is v
  rcases b with b | b
  · omega
  · have := nlen_lt u
    have := Nat.pow_le_pow_right (n := 2) (by decide) (show nlen u ≤ nlen v - 1 by omega)
    omega
theorem pow_cast (k : Nat) : ((2 ^ k : Nat) : Int) = (2 : Int) ^ k := by rw [Int.natCast_pow]; rfl
theorem dg_nat (v k : Nat) : dg (v : Int) k = ((v / 2 ^ k % 2 : Nat) : Int) := by
  unfold dg
  rw [← pow_cast]
  omega
/-- The digit at a place that a number does not reach is nought; the highest one that it has is not. -/
theorem dg_over {v k : Nat} (h : v < 2 ^ k) : dg (v : Int) k = 0 := by rw [dg_nat, Nat.div_eq_of_lt h]; rfl
theorem dg_top {v n : Nat} (h : IsLen v (n + 1)) : dg (v : Int) n ≠ 0 := by
  obtain ⟨a, b⟩ := h
  have b : 2 ^ n ≤ v := by
    rcases b with b | b
    · omega
    · exact b
  rw [dg_nat]
  have h1 : 1 ≤ v / 2 ^ n := (Nat.one_le_div_iff (Nat.pow_pos (by decide))).2 b
  have h2 : v / 2 ^ n < 2 := by
    rw [Nat.pow_succ] at a
    exact Nat.div_lt_of_lt_mul a
  rw [Nat.mod_eq_of_lt h2]
  omega
/-- One nought at the end cut off. -/
theorem lt_of_dg_zero {v n : Nat} (h : v < 2 ^ (n + 1)) (z : dg (v : Int) n = 0) : v < 2 ^ n := by
  rcases Nat.lt_or_ge v (2 ^ n) with l | l
  · exact l
  · exact absurd z (dg_top ⟨h, Or.inr (by simpa using l)⟩)
/-- Two numbers of n digits with the same digits are the same. -/
theorem eq_of_dcells : ∀ (n : Nat) (u v : Nat), u < 2 ^ n → v < 2 ^ n → (∀ j, j < n → dg (u : Int) j = dg (v : Int) j) → u = v := by
  intro n
  induction n with
  | zero => intro u v hu hv _; simp at hu hv; omega
  | succ n ih =>
    intro u v hu hv h
    have e := ih (u % 2 ^ n) (v % 2 ^ n) (Nat.mod_lt _ (Nat.pow_pos (by decide))) (Nat.mod_lt _ (Nat.pow_pos (by decide))) (fun j hj => by
      have a : ∀ x : Nat, dg ((x % 2 ^ n : Nat) : Int) j = dg (x : Int) j := fun x => by
        refine dg_congr (i := n) (-((x / 2 ^ n : Nat) : Int)) ?_ hj
        have := Nat.mod_add_div x (2 ^ n)
        rw [← pow_cast, Int.neg_mul, ← Int.natCast_mul, Nat.mul_comm (x / 2 ^ n)]
        omega
      rw [a, a]
      exact h j (by omega))
    have t := h n (by omega)
    rw [dg_nat, dg_nat] at t
    have du : u / 2 ^ n < 2 := by rw [Nat.pow_succ] at hu; exact Nat.div_lt_of_lt_mul hu
    have dv : v / 2 ^ n < 2 := by rw [Nat.pow_succ] at hv; exact Nat.div_lt_of_lt_mul hv
    rw [Nat.mod_eq_of_lt du, Nat.mod_eq_of_lt dv] at t
    have t' : u / 2 ^ n = v / 2 ^ n := by omega
    have h1 := Nat.mod_add_div u (2 ^ n)
    have h2 := Nat.mod_add_div v (2 ^ n)
    rw [e, t'] at h1
    omega
end Go.Proofs.YtjdphcdpgjdmkaaDoor.bt

namespace Go.Proofs.YtjdphcdpgjdmkaaDoor
open Go.RowKit Go.Shelf
set_option linter.unusedVariables false

def renLen : Ren where
  f := fun | 128 => 35 | n => n
  t := fun | 51 => 40 | 3 => 3 | 4 => 4 | 46 => 57 | 5 => 5 | 9 => 9 | n => n
  g := fun n => n
theorem laysLen : Lays.n128 Tryd.prog renLen where
  mixed := by kernel_rfl
  f128 := Tryd.func35.trans (by kernel_rfl)
  t3 := Tryd.underlying3
  a3 := Tryd.isAgg3
  z3 := Tryd.sizeOf3
  v3 := Tryd.zeroValue3
  t4 := Tryd.underlying4
  a4 := Tryd.isAgg4
  z4 := Tryd.sizeOf4
  v4 := Tryd.zeroValue4
  t5 := Tryd.underlying5
  a5 := Tryd.isAgg5
  z5 := Tryd.sizeOf5
  v5 := Tryd.zeroValue5
  t9 := Tryd.underlying9
  a9 := Tryd.isAgg9
  z9 := Tryd.sizeOf9
  v9 := Tryd.zeroValue9
  t46 := Tryd.underlying57
  a46 := Tryd.isAgg57
  z46 := Tryd.sizeOf57
  v46 := Tryd.zeroValue57
  t51 := Tryd.underlying40
  a51 := Tryd.isAgg40
  z51 := Tryd.sizeOf40
  v51 := Tryd.zeroValue40
theorem bitLen_bt (x : Nat) (h : x < 2 ^ 64) : Lib.bitLen x = bt.nlen x := by
  rcases Nat.eq_zero_or_pos x with rfl | h0
  · rw [bt.nlen_zero]; decide
  · obtain ⟨h1, h2, h3⟩ := Lib.bitLenAux_bounds 64 x h (by omega)
    exact (bt.nlen_eq ⟨h3, Or.inr h2⟩).symm
theorem len32_any (x : Nat) {xv : Int} (hx : xv = (x : Int)) (h : x < 4294967296) (w : World) :
    Calls Tryd.prog 35 #[.int .u32 xv] w fun e w' => e = .returned (.int .i64 (bt.nlen x : Int)) ∧ w = w' := by
  subst hx
  have h' : Calls Tryd.prog 35 #[.int .u32 (x : Int)] w fun e w' => e = .returned (.int .i64 (Lib.bitLen (x : Int).toNat)) ∧ w' = w := Any.bits_Len32 laysLen x w (by omega) (by omega)
  refine h'.mono ?_
  rintro e w' ⟨rfl, rfl⟩
  exact ⟨by rw [Int.toNat_natCast, bitLen_bt x (by omega)], rfl⟩

theorem pow32 (k : Nat) : 4294967296 ^ k = 2 ^ (32 * k) := by rw [Nat.pow_mul]
/-- The bits of a number: those of its highest word, and 32 for each below it. -/
theorem bits_top {u m t : Nat} (hm : wd.nlen u = m + 1) (ht : (t : Int) = wd.dg (u : Int) m) : bt.nlen u = m * 32 + bt.nlen t := by
  have hi := wd.nlen_is u
  rw [hm] at hi
  have htop := wd.dg_top hi
  rw [wd.dg_nat] at ht htop
  have hq : u / 4294967296 ^ m < 4294967296 := by
    have := hi.1
    rw [Nat.pow_succ] at this
    exact Nat.div_lt_of_lt_mul this
  have ht' : t = u / 4294967296 ^ m := by rw [Nat.mod_eq_of_lt hq] at ht; omega
  have ht0 : t ≠ 0 := by
    rw [Nat.mod_eq_of_lt hq] at htop
    omega
  have hb := bt.nlen_is t
  have hb1 := bt.nlen_pos (show 0 < t by omega)
  have hp := wd.pow_nat m
  have hd := Nat.div_add_mod u (4294967296 ^ m)
  have hl := Nat.mod_lt u hp
  rw [← ht'] at hd
  have e : 4294967296 ^ m = 2 ^ (m * 32) := by rw [pow32, Nat.mul_comm]
  refine bt.nlen_eq ⟨?_, Or.inr ?_⟩
  · rw [Nat.pow_add, ← e]
    have : 4294967296 ^ m * (t + 1) ≤ 4294967296 ^ m * 2 ^ bt.nlen t := Nat.mul_le_mul_left _ hb.1
    rw [Nat.mul_add] at this
    omega
  · have h2 : 2 ^ (bt.nlen t - 1) ≤ t := hb.2.resolve_left (by omega)
    rw [show m * 32 + bt.nlen t - 1 = m * 32 + (bt.nlen t - 1) by omega, Nat.pow_add, ← e]
    have := Nat.mul_le_mul_left (4294967296 ^ m) h2
    omega

set_option maxRecDepth 100000 in
set_option maxHeartbeats 1000000 in
theorem bits_any (a : Option Addr) (la ca u : Nat) (w : World) (ha : Sl w a la ca (wd.dcells la (u : Int))) (hu : u < 4294967296 ^ la) (hla : la ≤ 1000000000) :
    Calls Tryd.prog 16 #[.slice a la ca] w fun e w' => e = .returned (.int .i64 (bt.nlen u : Int)) ∧ w = w' := by
  have hl := wd.nlen_le hu
  rcases hm : wd.nlen u with _ | m
  · have h0 := wd.nlen_eq_zero.1 hm
    subst h0
    have HB : Hid (bt.nlen 0 = 0) := bt.nlen_zero
    have HM : Hid _ := fun ap cp => (show Value.slice ap (wd.nlen 0) cp = Value.slice ap 0 cp by rw [hm])
    clear hm
    go_enter Tryd.func16, Tryd.ntmps16
    go_wp2_with (go_at_call 29; refine (strip_any a la ca 0 _ ha hu).mono ?_; rintro e w' ⟨a1, ca1, rfl, hw, hcut⟩; subst hw; rw [HM.out])
    go_ret
    exact ⟨by rw [HB.out]; rfl, rfl⟩
  · obtain ⟨d0, d1⟩ := wd.dg_range u m
    obtain ⟨t, ht⟩ := Int.eq_ofNat_of_zero_le d0
    have HT : Hid (bt.nlen u = m * 32 + bt.nlen t) := bits_top hm ht.symm
    obtain ⟨l, hlm⟩ : ∃ l, l = m + 1 := ⟨_, rfl⟩
    rw [← hlm] at hm
    have HSt : Hid _ := fun (w0 : World) (h : Sl w0 a la ca (wd.dcells la (u : Int))) => strip_to l a la ca u w0 h hu hm
    have HC : Hid _ := fun (a1 : Option Addr) (ca1 : Nat) (hc : Cut a la ca a1 l ca1) => hc.sl ha
    have hb : bt.nlen t ≤ 32 := bt.nlen_le (by omega)
    have hm0 : 0 < l := by omega
    have hml : m < l := by omega
    have hm1 : l ≤ 1000000000 := by omega
    have e1 : (l : Int) - 1 = (m : Int) := by omega
    have e2 : ((l : Int) == 0) = false := by rw [beq_eq_false_iff_ne]; omega
    have HTT : Hid _ := ht
    rw [ht] at d0 d1
    obtain ⟨N, hN⟩ : ∃ N, bt.nlen t = N := ⟨_, rfl⟩
    have HL : Hid _ := fun (w0 : World) => len32_any t rfl (by omega) w0
    have HNN : Hid _ := hN
    rw [hN] at HT hb
    clear hm hl ht hlm hu hN
    go_enter Tryd.func16, Tryd.ntmps16
    go_wp2_with (first
      | (go_at_call 29; refine (HSt.out _ ha).mono ?_; rintro e w' ⟨a1, ca1, rfl, hw, hcut⟩; subst hw; have hsl := HC.out a1 ca1 hcut; obtain ⟨ba, oa, rfl, hba, hseg⟩ := hsl.at hm0; have hroom := hsl.room; have c1 := hseg.cell m _ (wd.dcells_at _ _ _ hml); rw [HTT.out] at c1)
      | (go_at_call 35; refine (HL.out _).mono ?_; rw [HNN.out]; rintro e w' ⟨rfl, hw⟩; subst hw))
    go_ret
    exact ⟨by rw [HT.out]; simp, rfl⟩

/-- What holds at the head of each round of the halving's loop. -/
def HalfRel (w : World) (u l b : Nat) (c i : Value) (wr : World) : Prop := ∃ r : Nat, r ≤ l ∧ i = .int .i64 ((r : Int) - 1) ∧ c = .int .i64 ((u : Int) / 65536 ^ r % 2) ∧ Own wr w.heap.size 3 (some ⟨b, 0, none⟩) l l (hf.xim l r ((u : Int) / 2) 0) ∧ Below w.heap.size w wr
theorem half_next (w wr : World) (u l b q : Nat) (hq : q < l) (hown : Own wr w.heap.size 3 (some ⟨b, 0, none⟩) l l (hf.xim l (q + 1) ((u : Int) / 2) 0)) (hb : Below w.heap.size w wr) :
    HalfRel w u l b (.int .i64 (((u : Int) / 65536 ^ (q + 1) % 2 * 65536 + hf.dg u q) % 2)) (.int .i64 ((q : Int) - 1)) (wr.setCell ⟨b, q, none⟩ (.int .i64 (((u : Int) / 65536 ^ (q + 1) % 2 * 65536 + hf.dg u q) / 2))) := by
  refine ⟨q, by omega, rfl, by rw [(hf.long_div u 2 q (by decide)).2], ?_, hb.setCell (seg_of_own hown).2.2 _⟩
  rw [hf.quot_digit _ _ _ (by decide), ← hf.xim_set]
  exact Own.set hown _ hq
set_option maxRecDepth 100000 in
set_option maxHeartbeats 1000000 in
theorem rhalf_any (a : Option Addr) (ca u : Nat) (w : World) (ha : Sl w a (hf.nlen u) ca (hf.dcells (hf.nlen u) (u : Int))) (hlu : hf.nlen u ≤ 1000000000) :
    Calls Tryd.prog 21 #[.slice a (hf.nlen u) ca] w fun e w' => ∃ a' cap', e = .returned (.slice a' (hf.nlen (u / 2)) cap') ∧ Own w' w.heap.size 3 a' (hf.nlen (u / 2)) cap' (hf.dcells (hf.nlen (u / 2)) ((u / 2 : Nat) : Int)) ∧ Below w.heap.size w w' := by
  obtain ⟨i0, hi0, hz0, hz1, hz2⟩ := info_parts infoInt
  have hu := hf.nlen_lt u
  obtain ⟨l, hl'⟩ : ∃ l, hf.nlen u = l := ⟨_, rfl⟩
  rw [hl'] at ha hlu hu ⊢
  have HZ : Hid ((u : Int) / 65536 ^ l = 0) := Int.ediv_eq_zero_of_lt (by omega) (by rw [← hf.pow_cast]; omega)
  have HD : Hid (hf.dcells l 0 = List.replicate l (.int .i64 0)) := hf.dcells_zero _
  have HE : Hid ((u : Int) / 2 = ((u / 2 : Nat) : Int)) := by unfold Hid; omega
  have HS : Hid (u / 2 < 65536 ^ l) := by unfold Hid; omega
  have hmax : l ≤ maxLen := by unfold maxLen; omega
  obtain ⟨v, hv⟩ : ∃ v, u / 2 = v := ⟨_, rfl⟩
  rw [hv] at HE HS ⊢
  clear hu hl' hv
  go_enter Tryd.func21, Tryd.ntmps21
  go_wp2_with (at_make; refine make_any _ rfl (.tmp 7) (.tmp 7) 27 rfl w.heap.size 3 i0 (.int .i64 0) Tryd.underlying27 hi0 hz0 hz1 rfl .i64 .i64 _ _ l rfl rfl (by simp) (by simp) (by rw [hz2]; omega) (by omega) (Nat.le_refl _) ?_; intro w1 hown hbel)
  rw [← HD.out] at hown
  go_loopw [4, 5] (fun c i wr => HalfRel w u l w.heap.size c i wr) (fun _ i _ => (intOf i + 1).toNat)
  case atStart => exact ⟨l, Nat.le_refl _, rfl, by rw [HZ.out]; rfl, by rw [hf.xim_full]; exact hown, hbel⟩
  case round =>
    clear hown hbel
    obtain ⟨r, hr, rfl, rfl, hown, hbel⟩ := hrel
    rcases r with _ | q
    · rw [hf.xim_zero, HE.out] at hown
      obtain ⟨C, hC⟩ : ∃ C, (u : Int) / 65536 ^ 0 % 2 = C := ⟨_, rfl⟩
      rw [hC]
      clear hC
      go_wp2_with (go_at_call 26; refine (rtrim_own _ _ _ v _ _ hown HS.out).mono ?_; rintro e w' ⟨rfl, hw, hown5⟩; subst hw)
      go_ret
      exact ⟨_, _, rfl, hown5, hbel⟩
    · obtain ⟨ba, oa, rfl, hba, hseg⟩ := ha.at (by omega)
      have hroom := ha.room
      have c1 : wr.cell? ⟨ba, oa + q, none⟩ = some (.int .i64 (hf.dg u q)) := (hbel.cell (p := ⟨ba, oa + q, none⟩) hba).trans (hseg.cell q _ (hf.dcells_at _ _ _ (by omega)))
      have c3 : wr.cell? ⟨w.heap.size, q, none⟩ = some (.int .i64 (hf.dg 0 q)) := Own.cell hown q _ (hf.xim_at _ _ _ _ _ (by omega) (by omega))
      have c4 : wr.frozen? ⟨w.heap.size, q, none⟩ = false := Own.free hown q (by omega)
      obtain ⟨d0, d1⟩ := hf.dg_range u q
      have HN : Hid _ := half_next w wr u l w.heap.size q (by omega) hown hbel
      have r0 : 0 ≤ (u : Int) / 65536 ^ (q + 1) % 2 := Int.emod_nonneg _ (by decide)
      have r1 : (u : Int) / 65536 ^ (q + 1) % 2 < 2 := Int.emod_lt_of_pos _ (by decide)
      obtain ⟨R, hR⟩ : ∃ R, (u : Int) / 65536 ^ (q + 1) % 2 = R := ⟨_, rfl⟩
      obtain ⟨D, hD⟩ : ∃ D, hf.dg (u : Int) q = D := ⟨_, rfl⟩
      rw [hR] at r0 r1 HN ⊢
      rw [hD] at c1 d0 d1 HN
      have e1 : ((q + 1 : Nat) : Int) - 1 = (q : Int) := by omega
      clear hown hR hD
      go_wp2
      go_roundw
      case rel => exact HN.out
      case measure => simp [intOf]

/-- What holds at the head of each round of the bits' count. -/
def BitRel (w : World) (u : Nat) (av nv : Value) (wr : World) : Prop := ∃ (t U cap : Nat) (a : Option Addr), t ≤ bt.nlen u ∧ (t = 0 ∨ 2 ^ (t - 1) ≤ u) ∧ Hid (U = u / 2 ^ t) ∧ nv = .int .i64 (t : Int) ∧ av = .slice a (hf.nlen U) cap ∧ hf.nlen U ≤ 1000000000 ∧ Sl wr a (hf.nlen U) cap (hf.dcells (hf.nlen U) (U : Int)) ∧ Below w.heap.size w wr
theorem hf_mono {u v : Nat} (h : u ≤ v) : hf.nlen u ≤ hf.nlen v := hf.nlen_le (Nat.lt_of_le_of_lt h (hf.nlen_lt v))
end Go.Proofs.YtjdphcdpgjdmkaaDoor

namespace Go.Proofs.YtjdphcdpgjdmkaaDoor
open Go.RowKit
set_option linter.unusedVariables false

set_option maxHeartbeats 1000000 in
theorem leading_any (x L : Nat) {xv : Int} (hx : xv = (x : Int)) (h : x < 4294967296) (hL : bt.nlen x = 32 - L) (hL' : L ≤ 32) (w : World) :
    Calls Tryd.prog 46 #[.int .u32 xv] w fun e w' => e = .returned (.int .i64 (L : Int)) ∧ w = w' := by
  obtain ⟨M, hM⟩ : ∃ M, M = 32 - L := ⟨_, rfl⟩
  have H := fun w => len32_any x hx h w
  rw [hL, ← hM] at H
  have HH : Hid _ := H
  have e1 : (32 : Int) - (M : Int) = (L : Int) := by omega
  clear hM H hL hx
  go_enter Tryd.func46, Tryd.ntmps46
  go_wp2_with (go_at_call 35; refine (HH.out _).mono ?_; rintro e w' ⟨rfl, hw⟩; subst hw)
  go_ret
  exact ⟨rfl, rfl⟩

theorem join_low (c d s : Nat) (hs : s < 32) (hc : c < 2 ^ s) (hd : d < 4294967296) : bits BinOp.or IntKind.u64 (c : Int) ((d : Int) * 2 ^ s) = (c : Int) + (d : Int) * 2 ^ s := by
  have h1 : 2 ^ s ≤ 2 ^ 31 := Nat.pow_le_pow_right (by decide) (by omega)
  have h2 : d * 2 ^ s ≤ 4294967295 * 2 ^ 31 := Nat.mul_le_mul (by omega) h1
  have e : (d : Int) * 2 ^ s = ((d * 2 ^ s : Nat) : Int) := by rw [Int.natCast_mul, Int.natCast_pow]; rfl
  rw [e, u64_or_nat _ _ (by omega) (by omega), Nat.or_comm, nat_join s (d * 2 ^ s) c (Nat.mul_mod_left _ _) hc]
  omega

/-- What holds at the head of each round of shiftUp. -/
def UpRel (w : World) (u x : Int) (l b : Nat) (c i : Value) (wr : World) : Prop := ∃ k : Nat, k ≤ l ∧ i = .int .i64 (k : Int) ∧ c = .int .u64 (sc x u k) ∧ Own wr w.heap.size 40 (some ⟨b, 0, none⟩) (l + 1) (l + 1) (wd.mix (l + 1) k (x * u) 0) ∧ Below w.heap.size w wr
theorem up_next (w wr : World) (u x : Int) (l k : Nat) (hk : k < l) (hown : Own wr w.heap.size 40 (some ⟨w.heap.size, 0, none⟩) (l + 1) (l + 1) (wd.mix (l + 1) k (x * u) 0)) (hb : Below w.heap.size w wr) {z : Int} (hz : z = sc x u k + x * wd.dg u k) :
    UpRel w u x l w.heap.size (.int .u64 (z / 4294967296)) (.int .i64 ((k : Int) + 1)) (wr.setCell ⟨w.heap.size, k, none⟩ (.int .u32 (z % 4294967296))) := by
  subst hz
  refine ⟨k + 1, by omega, by simp, by rw [sc_succ], ?_, hb.setCell (Nat.le_refl _) _⟩
  rw [sc_digit, ← wd.mix_set]
  exact Own.set hown _ (by omega)

set_option maxRecDepth 100000 in
set_option maxHeartbeats 1000000 in
theorem shiftUp_any (a : Option Addr) (l cap u s : Nat) (w : World) (ha : Sl w a l cap (wd.dcells l (u : Int))) (hu : u < 4294967296 ^ l) (hl : l ≤ 1000000000) (hs : s < 32) :
    Calls Tryd.prog 47 #[.slice a l cap, .int .i64 (s : Int)] w fun e w' => e = .returned (.slice (some ⟨w.heap.size, 0, none⟩) (l + 1) (l + 1)) ∧ Own w' w.heap.size 40 (some ⟨w.heap.size, 0, none⟩) (l + 1) (l + 1) (wd.dcells (l + 1) ((2 ^ s * u : Nat) : Int)) ∧ Below w.heap.size w w' := by
  obtain ⟨i0, hi0, hz0, hz1, hz2⟩ := info_parts infoWord
  have hz0' : wd.dcells (l + 1) 0 = List.replicate (l + 1) (.int .u32 0) := wd.dcells_zero _
  have hmax : l + 1 ≤ maxLen := by unfold maxLen; omega
  obtain ⟨x, hx⟩ : ∃ x : Nat, x = 2 ^ s := ⟨_, rfl⟩
  have x0 : 0 < x := by rw [hx]; exact Nat.pow_pos (by decide)
  have x1 : x ≤ 2147483648 := by rw [hx]; exact Nat.le_trans (Nat.pow_le_pow_right (by decide) (show s ≤ 31 by omega)) (by decide)
  have hcap := ha.big
  have hroom := ha.room
  unfold maxLen at hcap
  have HX : Hid _ := hx
  have fX : (2 : Int) ^ s = (x : Int) := by rw [hx, Int.natCast_pow]; rfl
  have HJ : Hid (∀ c d : Int, 0 ≤ c → c < x → 0 ≤ d → d < 4294967296 → bits BinOp.or IntKind.u64 c (d * x) = c + x * d) := fun c d c0 c1 d0 d1 => by
    obtain ⟨C, rfl⟩ := Int.eq_ofNat_of_zero_le c0
    obtain ⟨E, rfl⟩ := Int.eq_ofNat_of_zero_le d0
    have := join_low C E s hs (by omega) (by omega)
    rw [fX] at this
    rw [this, Int.mul_comm]
  have HV : Hid (∀ d : Int, 0 ≤ d → d < 4294967296 → IntKind.u64.wrap (d * x) = d * x ∧ 0 ≤ (x : Int) * d ∧ (x : Int) * d ≤ 9223372036854775807) := fun d d0 d1 => by
    have h1 : (x : Int) * d ≤ 2147483648 * 4294967295 := Int.mul_le_mul (by omega) (by omega) d0 (by decide)
    have h0 : 0 ≤ (x : Int) * d := Int.mul_nonneg (by omega) d0
    refine ⟨?_, h0, by omega⟩
    rw [Int.mul_comm, IntKind.wrap_u64]
    omega
  clear hx
  go_enter Tryd.func47, Tryd.ntmps47
  go_wp2_with (at_make; refine make_any _ rfl (.tmp 11) (.tmp 11) 23 rfl w.heap.size 40 i0 (.int .u32 0) Tryd.underlying23 hi0 hz0 hz1 rfl .i64 .i64 _ _ (l + 1) rfl rfl (by simp) (by simp) (by rw [hz2]; omega) (by omega) (Nat.le_refl _) ?_; intro w1 hown hbel)
  rw [← hz0', ← wd.mix_zero (l + 1) ((x : Int) * u)] at hown
  go_loopw [6, 15] (fun c i wr => UpRel w u x l w.heap.size c i wr) (fun _ i _ => l - (intOf i).toNat)
  case atStart => exact ⟨0, by omega, rfl, by rw [sc_zero], hown, hbel⟩
  case round =>
    clear hown hbel
    obtain ⟨k, hk, rfl, rfl, hown, hbel⟩ := hrel
    obtain ⟨f0, f1⟩ := sc_range x u k (by omega) (by omega)
    have f2 := sc_lt x u k (by omega)
    have c3 : wr.cell? ⟨w.heap.size, k, none⟩ = some (.int .u32 (wd.dg 0 k)) := Own.cell hown k _ (wd.mix_at _ _ _ _ _ (by omega) (Nat.le_refl _))
    have c4 : wr.frozen? ⟨w.heap.size, k, none⟩ = false := Own.free hown k (by omega)
    by_cases hlt : k < l
    · obtain ⟨ba, oa, rfl, hba, hseg⟩ := ha.at (by omega)
      have c1 : wr.cell? ⟨ba, oa + k, none⟩ = some (.int .u32 (wd.dg u k)) := (hbel.cell (p := ⟨ba, oa + k, none⟩) hba).trans (hseg.cell k _ (wd.dcells_at _ _ _ hlt))
      obtain ⟨d0, d1⟩ := wd.dg_range u k
      have HN : Hid _ := fun z hz => up_next w wr u x l k hlt hown hbel (z := z) hz
      obtain ⟨fW, g0, g1⟩ := HV.out _ d0 d1
      have fO := HJ.out _ _ f0 f2 d0 d1
      obtain ⟨z, hz⟩ : ∃ z, z = sc x u k + x * wd.dg u k := ⟨_, rfl⟩
      have z0 : 0 ≤ z := by omega
      have z1 : z < 18446744073709551616 := by omega
      rw [← hz] at fO
      have HN := HN.out z hz
      have HN : Hid _ := HN
      clear hown hz g0 g1
      go_wp2
      go_roundw
      case rel => exact HN.out
      case measure => simp [intOf]; omega
    · obtain rfl : k = l := by omega
      have HL : Hid (sc x u k = wd.dg (x * u) k) := by
        unfold Hid wd.dg
        have h1 := sc_last x u k (by omega) (by rw [← wd.pow_cast]; omega)
        rw [← h1]
        omega
      have hlast : Own (wr.setCell ⟨w.heap.size, k, none⟩ (.int .u32 (sc x u k))) w.heap.size 40 (some ⟨w.heap.size, 0, none⟩) (k + 1) (k + 1) (wd.dcells (k + 1) ((x : Int) * u)) := by
        rw [HL.out, ← wd.mix_full (k + 1) ((x : Int) * u) 0, ← wd.mix_set]
        exact Own.set hown _ (by omega)
      have HO : Hid _ := hlast
      have hbel2 := hbel.setCell (p := ⟨w.heap.size, k, none⟩) (Nat.le_refl _) (.int .u32 (sc x u k))
      clear hown hlast
      go_wp2
      go_ret
      refine ⟨rfl, ?_, hbel2⟩
      rw [← HX.out, Int.natCast_mul]
      exact HO.out
end Go.Proofs.YtjdphcdpgjdmkaaDoor
