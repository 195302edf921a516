/-
  What nat's isShow and withPiece answer.
-/
import Derived.Test.YteoepelmapjhcaaDoorShowC
namespace Go.Proofs.YteoepelmapjhcaaDoor
open Go.RowKit
set_option linter.unusedVariables false

/-- Digits, at least one, no noughts ahead. -/
def showsB (l : List Int) : Bool := decide (l ≠ [] ∧ ¬ (1 < l.length ∧ l.head? = some 48) ∧ ∀ c ∈ l, 48 ≤ c ∧ c ≤ 57)
theorem shows_empty {l : List Int} (h : l.length = 0) : showsB l = false := by
  unfold showsB
  rw [decide_eq_false_iff_not]
  intro h'
  exact h'.1 (List.length_eq_zero_iff.1 h)
theorem shows_lead {l : List Int} (h : 1 < l.length) (h2 : l.head? = some 48) : showsB l = false := by
  unfold showsB
  rw [decide_eq_false_iff_not]
  intro h'
  exact h'.2.1 ⟨h, h2⟩
theorem shows_bad {l : List Int} {k : Nat} {c : Int} (h : l[k]? = some c) (hc : c < 48 ∨ 57 < c) : showsB l = false := by
  unfold showsB
  rw [decide_eq_false_iff_not]
  intro h'
  have := h'.2.2 c (List.mem_of_getElem? h)
  omega
theorem shows_yes {l : List Int} (h0 : 0 < l.length) (h1 : ¬ (1 < l.length ∧ l.head? = some 48)) (h2 : ∀ (k : Nat) (c : Int), l[k]? = some c → 48 ≤ c ∧ c ≤ 57) : showsB l = true := by
  unfold showsB
  rw [decide_eq_true_iff]
  refine ⟨fun e => by rw [e] at h0; simp at h0, h1, fun c hc => ?_⟩
  obtain ⟨k, hk⟩ := List.getElem?_of_mem hc
  exact h2 k c hk
theorem nums_head (s : ByteArray) (h : 0 < s.size) : (nums s).head? = some ((s[0]).toNat : Int) := by
  rw [List.head?_eq_getElem?, nums_at s 0 h]
theorem isEmpty_no {s : ByteArray} (h : 0 < s.size) : s.toList.isEmpty = false := by
  rw [ByteArray.toList_eq, List.isEmpty_eq_false_iff, ← List.length_pos_iff]
  exact h
theorem isEmpty_yes {s : ByteArray} (h : s.size = 0) : s.toList.isEmpty = true := by
  rw [ByteArray.toList_eq, List.isEmpty_iff, ← List.length_eq_zero_iff]
  exact h

set_option maxRecDepth 100000 in
set_option maxHeartbeats 1000000 in
theorem isShow_any (s : ByteArray) (w : World) (hs : s.size ≤ 9223372036854775807) :
    Calls Tryd.prog 53 #[.string s] w fun e w' => e = .returned (.bool (showsB (nums s))) ∧ w = w' := by
  by_cases h0 : 0 < s.size
  · have he := isEmpty_no h0
    by_cases h1 : 1 < s.size ∧ (s[0].toNat : Int) = 48
    · obtain ⟨h1, h2⟩ := h1
      have HS : Hid (showsB (nums s) = false) := shows_lead (by rw [nums_length]; exact h1) (by rw [nums_head s h0, h2])
      have h2' : ((s[0].toNat : Int) == 48) = true := by simpa using h2
      clear h2
      go_enter Tryd.func53, Tryd.ntmps53
      go_wp2
      go_ret
      exact ⟨by rw [HS.out]; rfl, rfl⟩
    · have HL : Hid _ := h1
      have HF : Hid (∀ k : Nat, (∀ j (hj : j < s.size), j < k → 48 ≤ (s[j].toNat : Int) ∧ (s[j].toNat : Int) ≤ 57) → s.size ≤ k → showsB (nums s) = true) := by
        intro k hk hle
        refine shows_yes (by rw [nums_length]; exact h0) ?_ ?_
        · rw [nums_length, nums_head s h0]
          intro h
          exact h1 ⟨h.1, by simpa using h.2⟩
        · intro j c hj
          have hj' := (List.getElem?_eq_some_iff.1 hj).1
          rw [nums_length] at hj'
          rw [nums_at s j hj'] at hj
          simp only [Option.some.injEq] at hj
          rw [← hj]
          exact hk j hj' (by omega)
      have hcase : s.size ≤ 1 ∨ (1 < s.size ∧ ((s[0].toNat : Int) == 48) = false) := by
        rcases Nat.lt_or_ge 1 s.size with h | h
        · exact Or.inr ⟨h, by rw [beq_eq_false_iff_ne]; exact fun e => h1 ⟨h, e⟩⟩
        · exact Or.inl h
      clear h1
      rcases hcase with hc | ⟨hc, hc2⟩
      all_goals
        go_enter Tryd.func53, Tryd.ntmps53
        go_wp2
        go_loop [18] (fun i => ∃ k : Nat, k ≤ s.size ∧ i = .int .i64 (k : Int) ∧ Hid (∀ j (hj : j < s.size), j < k → 48 ≤ (s[j].toNat : Int) ∧ (s[j].toNat : Int) ≤ 57)) (fun i => s.size - (intOf i).toNat)
        case atStart => exact ⟨0, by omega, rfl, fun j hj h => absurd h (by omega)⟩
        case round =>
          obtain ⟨k, hk, rfl, HK⟩ := hrel
          by_cases hlt : k < s.size
          · by_cases hd : 48 ≤ (s[k].toNat : Int) ∧ (s[k].toNat : Int) ≤ 57
            · obtain ⟨d0, d1⟩ := hd
              have HK' : Hid (∀ j (hj : j < s.size), j < k + 1 → 48 ≤ (s[j].toNat : Int) ∧ (s[j].toNat : Int) ≤ 57) := fun j hj h => by
                rcases Nat.lt_or_ge j k with h' | h'
                · exact HK.out j hj h'
                · obtain rfl : j = k := by omega
                  exact ⟨d0, d1⟩
              go_wp2
              go_round
              case rel => exact ⟨k + 1, by omega, by simp, HK'.out⟩
              case measure => simp [intOf]; omega
            · have HB : Hid (showsB (nums s) = false) := shows_bad (nums_at s k hlt) (by omega)
              have hd2 : (s[k].toNat : Int) < 48 ∨ (48 ≤ (s[k].toNat : Int) ∧ 57 < (s[k].toNat : Int)) := by omega
              clear hd
              rcases hd2 with hd | ⟨hd, hd'⟩
              all_goals
                go_wp2
                go_ret
                exact ⟨by rw [HB.out]; rfl, rfl⟩
          · have HB : Hid (showsB (nums s) = true) := HF.out k HK.out (by omega)
            go_wp2
            go_ret
            exact ⟨by rw [HB.out]; rfl, rfl⟩
  · have he := isEmpty_yes (s := s) (by omega)
    have HS : Hid (showsB (nums s) = false) := shows_empty (by rw [nums_length]; omega)
    go_enter Tryd.func53, Tryd.ntmps53
    go_wp2
    go_ret
    exact ⟨by rw [HS.out]; rfl, rfl⟩

/-- The carry into place k when u times 10^9 and p are added. -/
def wc (u p : Int) (k : Nat) : Int := (u % 4294967296 ^ k * 1000000000 + p) / 4294967296 ^ k
theorem wc_zero (u p : Int) : wc u p 0 = p := by simp [wc, Int.emod_one]
theorem wc_sum (u p : Int) (k : Nat) : (u % 4294967296 ^ (k + 1) * 1000000000 + p) / 4294967296 ^ k = wc u p k + wd.dg u k * 1000000000 := by
  rw [wd.emod_succ]
  unfold wc
  have e : (wd.dg u k * 4294967296 ^ k + u % 4294967296 ^ k) * 1000000000 + p = (u % 4294967296 ^ k * 1000000000 + p) + (wd.dg u k * 1000000000) * 4294967296 ^ k := by
    rw [Int.add_mul, Int.mul_right_comm]; omega
  rw [e, Int.add_mul_ediv_right _ _ (Int.ne_of_gt (wd.p256 k))]
theorem wc_succ (u p : Int) (k : Nat) : wc u p (k + 1) = (wc u p k + wd.dg u k * 1000000000) / 4294967296 := by
  rw [← wc_sum]
  show (u % 4294967296 ^ (k + 1) * 1000000000 + p) / 4294967296 ^ (k + 1) = _
  have hp := wd.p256 k
  rw [Int.pow_succ, Int.ediv_ediv, if_neg (by omega)]; omega
theorem wc_digit (u p : Int) (k : Nat) : (wc u p k + wd.dg u k * 1000000000) % 4294967296 = wd.dg (u * 1000000000 + p) k := by
  rw [← wc_sum]
  show wd.dg (u % 4294967296 ^ (k + 1) * 1000000000 + p) k = _
  refine (wd.dg_congr (i := k + 1) (u / 4294967296 ^ (k + 1) * 1000000000) ?_ (by omega)).symm
  have h := Int.mul_ediv_add_emod u (4294967296 ^ (k + 1))
  have e : u / 4294967296 ^ (k + 1) * 1000000000 * 4294967296 ^ (k + 1) = 4294967296 ^ (k + 1) * (u / 4294967296 ^ (k + 1)) * 1000000000 := by
    rw [Int.mul_right_comm, Int.mul_comm (u / 4294967296 ^ (k + 1))]
  rw [e]
  have h2 : u * 1000000000 = (4294967296 ^ (k + 1) * (u / 4294967296 ^ (k + 1)) + u % 4294967296 ^ (k + 1)) * 1000000000 := by rw [h]
  rw [h2, Int.add_mul]
  omega
theorem wc_range (u p : Int) (k : Nat) (p0 : 0 ≤ p) (p1 : p < 1000000000) : 0 ≤ wc u p k ∧ wc u p k < 1000000000 := by
  unfold wc
  have hp := wd.p256 k
  have a := Int.emod_nonneg u (Int.ne_of_gt hp)
  have a' := Int.emod_lt_of_pos u hp
  exact ⟨Int.ediv_nonneg (by omega) (by omega), Int.ediv_lt_of_lt_mul hp (by omega)⟩
theorem wc_last (u p : Nat) (l : Nat) (hu : u < 4294967296 ^ l) : wc u p l = (((u * 1000000000 + p) / 4294967296 ^ l : Nat) : Int) := by
  unfold wc
  rw [Int.emod_eq_of_lt (by omega) (by rw [← wd.pow_cast]; omega), Int.natCast_ediv, wd.pow_cast]
  rfl
/-- How long the new number is. -/
theorem piece_len_same {u p : Nat} (h : (u * 1000000000 + p) / 4294967296 ^ wd.nlen u = 0) (hp : 0 < u ∨ p = 0) : wd.nlen (u * 1000000000 + p) = wd.nlen u := by
  have hlt : u * 1000000000 + p < 4294967296 ^ wd.nlen u := by
    rcases Nat.div_eq_zero_iff.1 h with h | h
    · have := wd.pow_nat (wd.nlen u); omega
    · exact h
  refine wd.nlen_eq ⟨hlt, ?_⟩
  rcases (wd.nlen_is u).2 with h1 | h1
  · exact Or.inl h1
  · exact Or.inr (by omega)
theorem piece_len_more {u p : Nat} (hp : p < 1000000000) (h : (u * 1000000000 + p) / 4294967296 ^ wd.nlen u ≠ 0) : wd.nlen (u * 1000000000 + p) = wd.nlen u + 1 := by
  have hu := wd.nlen_lt u
  have hge : 4294967296 ^ wd.nlen u ≤ u * 1000000000 + p := by
    rcases Nat.lt_or_ge (u * 1000000000 + p) (4294967296 ^ wd.nlen u) with h1 | h1
    · exact absurd (Nat.div_eq_of_lt h1) h
    · exact h1
  exact wd.nlen_eq ⟨by rw [Nat.pow_succ]; omega, Or.inr (by simpa using hge)⟩

/-- What holds at the head of each round. -/
def WithRel (w : World) (base u p l cap : Nat) (a : Option Addr) (c i : Value) (wr : World) : Prop := ∃ k : Nat, k ≤ l ∧ i = .int .i64 (k : Int) ∧ c = .int .u64 (wc u p k) ∧ Own wr base 44 a l cap (wd.mix l k ((u : Int) * 1000000000 + p) u) ∧ Below base w wr
theorem with_next (w wr : World) (base u p l cap b k : Nat) (hk : k < l) (hown : Own wr base 44 (some ⟨b, 0, none⟩) l cap (wd.mix l k ((u : Int) * 1000000000 + p) u)) (hb : Below base w wr) :
    WithRel w base u p l cap (some ⟨b, 0, none⟩) (.int .u64 ((wc u p k + wd.dg u k * 1000000000) / 4294967296)) (.int .i64 ((k : Int) + 1)) (wr.setCell ⟨b, k, none⟩ (.int .u32 ((wc u p k + wd.dg u k * 1000000000) % 4294967296))) := by
  refine ⟨k + 1, by omega, by simp, by rw [wc_succ], ?_, hb.setCell (seg_of_own hown).2.2 _⟩
  rw [wc_digit, ← wd.mix_set]
  exact Own.set hown _ hk

set_option maxRecDepth 100000 in
set_option maxHeartbeats 1000000 in
theorem with_any (a : Option Addr) (cap base u p : Nat) {pv : Int} (w : World) (hown : Own w base 44 a (wd.nlen u) cap (wd.dcells (wd.nlen u) (u : Int))) (hl : wd.nlen u ≤ 1000000000) (hbase : base ≤ w.heap.size) (hp : p < 1000000000) (hpv : pv = (p : Int)) :
    Calls Tryd.prog 54 #[.slice a (wd.nlen u) cap, .int .u32 pv] w fun e w' => ∃ a' cap', e = .returned (.slice a' (wd.nlen (u * 1000000000 + p)) cap') ∧ Own w' base 44 a' (wd.nlen (u * 1000000000 + p)) cap' (wd.dcells (wd.nlen (u * 1000000000 + p)) ((u * 1000000000 + p : Nat) : Int)) ∧ Below base w w' := by
  subst hpv
  obtain ⟨i0, hi0, hz0, hz1, hz2⟩ := info_parts infoWord
  obtain ⟨l, hl'⟩ : ∃ l, wd.nlen u = l := ⟨_, rfl⟩
  have HL : Hid _ := hl'
  have hu := wd.nlen_lt u
  have Hlast : Hid _ := wc_last u p (wd.nlen u) hu
  have Hsame : Hid _ := @piece_len_same u p
  have Hmore : Hid _ := @piece_len_more u p hp
  have HE : Hid ((u : Int) * 1000000000 + p = ((u * 1000000000 + p : Nat) : Int)) := by unfold Hid; omega
  have HU0 : Hid (u = 0 → p ≠ 0 → (u * 1000000000 + p) / 4294967296 ^ wd.nlen u ≠ 0) := by
    intro h1 h2
    rw [h1, wd.nlen_zero]; simpa using h2
  rw [hl'] at hown hl hu Hlast Hsame Hmore HU0 ⊢
  clear hl' hu
  go_enter Tryd.func54, Tryd.ntmps54
  go_wp2
  go_loopw [5, 12] (fun c i wr => WithRel w base u p l cap a c i wr) (fun _ i _ => l - (intOf i).toNat)
  case atStart => exact ⟨0, by omega, rfl, by rw [wc_zero], by rw [wd.mix_zero]; exact hown, Below.refl _ _⟩
  case round =>
    clear hown
    obtain ⟨k, hk, rfl, rfl, hown, hbel⟩ := hrel
    obtain ⟨f0, f1⟩ := wc_range u p k (by omega) (by omega)
    by_cases hlt : k < l
    · obtain ⟨b, rfl, hb, hb2, _⟩ := Own.at hown (by omega)
      have hroom := (Own.sl hown).room
      have c3 : wr.cell? ⟨b, k, none⟩ = some (.int .u32 (wd.dg u k)) := Own.cell hown k _ (wd.mix_at _ _ _ _ _ (by omega) (Nat.le_refl _))
      have c4 : wr.frozen? ⟨b, k, none⟩ = false := Own.free hown k (by omega)
      obtain ⟨d0, d1⟩ := wd.dg_range u k
      have HN : Hid _ := with_next w wr base u p l cap b k hlt hown hbel
      clear hown
      go_wp2
      go_roundw
      case rel => exact HN.out
      case measure => simp [intOf]; omega
    · obtain rfl : k = l := by omega
      rw [wd.mix_full, HE.out] at hown
      by_cases hz : (u * 1000000000 + p) / 4294967296 ^ k = 0
      · have hw0 : wc u p k = 0 := by rw [Hlast.out, hz]; rfl
        have hs := Hsame.out hz (by
          rcases Nat.eq_zero_or_pos u with h | h
          · rcases Nat.eq_zero_or_pos p with h2 | h2
            · exact Or.inr h2
            · exact absurd hz (HU0.out h (by omega))
          · exact Or.inl h)
        have HS : Hid _ := hs
        clear hs hz
        go_wp2
        go_ret
        rw [HS.out]
        exact ⟨a, cap, rfl, hown, hbel⟩
      · have hw0 : (wc u p k == 0) = false := by
          rw [Hlast.out, beq_eq_false_iff_ne]; omega
        have HS : Hid _ := Hmore.out hz
        have HT : Hid (wc u p k = wd.dg ((u * 1000000000 + p : Nat) : Int) k) := by
          have h1 := Hlast.out
          have h2 := wd.dg_nat (u * 1000000000 + p) k
          unfold Hid
          rw [h2]
          omega
        have hsz := hbel.size
        clear hz
        obtain ⟨C, hC⟩ : ∃ C, wc u p k = C := ⟨_, rfl⟩
        rw [hC] at f0 f1 hw0 HT ⊢
        clear hC
        go_wp2_with (at_builtin; refine wpList_append_lies _ rfl (.tmp 32) (.tmp 35) 23 rfl base 44 i0 (.int .u32 0) 1 4 Tryd.underlying23 hi0 hz0 hz1 hz2 rfl (by decide) (.slice a k cap) k (wd.dcells k ((u * 1000000000 + p : Nat) : Int)) rfl (World.ownsRow.alloc hown _) ⟨wr.heap.size, 0, none⟩ 1 1 [.int .u32 C] rfl rfl (cell_one_new _ _ _) (ints_oneCell .u32 [C]) (by decide) (by unfold maxLen; omega) (by omega) (by simp; omega) _ rfl ?_; intro g' cap' w4 hown4 hgrow4 hat4 hlt4)
        go_ret
        rw [HS.out]
        refine ⟨some ⟨g', 0, none⟩, cap', rfl, ?_, (hbel.alloc (by omega) _).grown hgrow4 (by simp; omega) (fun k' hk' => (World.ownsRow.lt hown k' hk').1)⟩
        rw [wd.dcells_succ, ← HT.out]
        exact hown4
end Go.Proofs.YteoepelmapjhcaaDoor
