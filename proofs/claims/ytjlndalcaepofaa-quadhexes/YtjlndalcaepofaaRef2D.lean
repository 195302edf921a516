/-
  What the document's own hexadecimal text of 32 digits is.
-/
import Derived.Test.YtjlndalcaepofaaDigE32
import Derived.Test.YtjlndalcaepofaaQuadC
import Derived.Test.YtjlndalcaepofaaHexA
import Derived.Test.YtjlndalcaepofaaRef2A
import Derived.Laws.BytesArg
import Derived.Laws.Strings3
namespace Go.Proofs.Ytjlndalcaepofaa
open Go.RowKit
set_option linter.unusedVariables false

theorem slice16 (r : Int) (r0 : 0 ≤ r) (r1 : r < 16) (w : World) : (Instr.slice 9 (.string ⟨#[48, 49, 50, 51, 52, 53, 54, 55, 56, 57, 97, 98, 99, 100, 101, 102]⟩) (some (.int .i64 r)) (some (.int .i64 (r + 1))) none).run Try.prog w = .ok (.string (strOfNums [x.hexc r.toNat])) w := by
  have : r = 0 ∨ r = 1 ∨ r = 2 ∨ r = 3 ∨ r = 4 ∨ r = 5 ∨ r = 6 ∨ r = 7 ∨ r = 8 ∨ r = 9 ∨ r = 10 ∨ r = 11 ∨ r = 12 ∨ r = 13 ∨ r = 14 ∨ r = 15 := by omega
  rcases this with h | h | h | h | h | h | h | h | h | h | h | h | h | h | h | h <;> (subst h; show _ = _; kernel_rfl)
theorem strOfNums_append (a b : List Int) : strOfNums a ++ strOfNums b = strOfNums (a ++ b) := by
  apply ByteArray.ext
  rw [ByteArray.data_append]
  simp [strOfNums]
theorem str_minus (l : List Int) : (⟨#[45]⟩ : ByteArray) ++ strOfNums l = strOfNums (45 :: l) := strOfNums_append [45] l
theorem pow16 (k : Nat) : (16 : Nat) ^ (2 * k) = 256 ^ k := by rw [Nat.pow_mul]
theorem dg_nat (m k : Nat) : dg (m : Int) k = ((m / 16 ^ (2 * k) % 256 : Nat) : Int) := by
  unfold dg
  rw [pow16]
  have e : ((256 : Int) ^ k) = ((256 ^ k : Nat) : Int) := by rw [Int.natCast_pow]; rfl
  rw [e]
  omega
/-- The text so far: the digits of the places from k on. -/
def htext (m k : Nat) : List Int := x.digs (64 - 2 * k) (m / 16 ^ (2 * k))
theorem htext_length (m k : Nat) : (htext m k).length = 64 - 2 * k := x.digs_length _ _
theorem htext_next (m k : Nat) (hk : k < 32) : htext m (k + 1) ++ [x.hexc (dg (m : Int) k / 16).toNat] ++ [x.hexc (dg (m : Int) k % 16).toNat] = htext m k := by
  unfold htext
  rw [show 64 - 2 * k = 64 - 2 * (k + 1) + 1 + 1 by omega, x.digs_snoc, x.digs_snoc, dg_nat]
  have e1 : m / 16 ^ (2 * (k + 1)) = m / 16 ^ (2 * k) / 16 / 16 := by
    rw [show 2 * (k + 1) = 2 * k + 1 + 1 by omega, Nat.pow_succ, Nat.pow_succ, Nat.div_div_eq_div_mul, Nat.div_div_eq_div_mul]
    congr 1
    omega
  generalize m / 16 ^ (2 * k) = n at *
  rw [e1]
  have e2 : (((n % 256 : Nat) : Int) / 16).toNat = n / 16 % 16 := by omega
  have e3 : (((n % 256 : Nat) : Int) % 16).toNat = n % 16 := by omega
  rw [e2, e3]
theorem htext_first (m : Nat) : htext m 32 = [] := rfl
theorem htext_last (m : Nat) : htext m 0 = x.digs 64 m := by unfold htext; simp
theorem head_byte (c : Int) (l : List Int) (h0 : 0 ≤ c) (h1 : c < 256) (h : 0 < (strOfNums (c :: l)).size) : ((strOfNums (c :: l))[0].toNat : Int) = c := by
  have e : (UInt8.ofNat c.toNat).toNat = c.toNat % 256 := by first | rfl | simp
  show ((UInt8.ofNat c.toNat).toNat : Int) = c
  rw [e]
  omega
theorem tail_bytes (c : Int) (l : List Int) : (strOfNums (c :: l)).extract 1 (strOfNums (c :: l)).size = strOfNums l := by
  apply ByteArray.ext
  rw [strOfNums_size]
  simp [ByteArray.data_extract, strOfNums]
  exact List.take_of_length_le (by simp)
theorem hexc_zero (d : Nat) (h : d < 16) : x.hexc d = 48 ↔ d = 0 := by unfold x.hexc; split <;> omega
/-- What holds at the head of each round of the loop that takes leading noughts off. -/
def StripRel (m : Nat) (s : Value) : Prop := ∃ t : Nat, 1 ≤ t ∧ t ≤ 64 ∧ m < 16 ^ t ∧ s = .string (strOfNums (x.digs t m))
def ssize : Value → Nat
  | .string s => s.size
  | _ => 0
theorem ssize_string (s : ByteArray) : ssize (.string s) = s.size := rfl
theorem ret_str {a b : ByteArray} (h : a = b) : Ending.returned (.string a) = .returned (.string b) := by rw [h]

set_option maxHeartbeats 2000000 in
theorem rhex_pos (a : Int) (b : Nat) {cap : Nat} (w : World) (r : Row w b (dcells 32 a)) (hb : b < w.heap.size) (h0 : -57896044618658097711785492504343953926634992332820282019728792003956564819968 ≤ a) (h1 : a < 57896044618658097711785492504343953926634992332820282019728792003956564819968) (hneg : 0 ≤ a) :
    Calls Try.prog 26 #[.slice (some ⟨b, 0, none⟩) 32 cap] w fun e w' => e = .returned (.string (x.hexS a)) ∧ Below w.heap.size w w' := by
  have HB : Hid (¬ 128 ≤ dg a 31) := fun h => by have := (d32.dg15 a h0 h1).1 h; omega
  obtain ⟨m, hm0⟩ : ∃ m : Nat, (m : Int) = a := ⟨a.natAbs, by omega⟩
  have HT : Hid (∀ t, 1 ≤ t → m < 16 ^ t → (t = 1 ∨ 16 ^ (t - 1) ≤ m) → x.hexS a = strOfNums (x.digs t m)) := by
    intro t t1 t2 t3
    have e : a.natAbs = m := by omega
    unfold x.hexS x.hexI
    rw [e, x.ndig_eq (by omega) ⟨t1, t2, t3⟩, if_neg (by omega)]
    rfl
  have hm64 : Hid (m < 16 ^ 64) := by
    have e : (16 : Nat) ^ 64 = 115792089237316195423570985008687907853269984665640564039457584007913129639936 := by decide
    unfold Hid
    omega
  have HM : Hid _ := hm0
  clear h0 h1 hneg hm0
  go_enter Try.func26, Try.ntmps26
  go_wp2_with (first
    | (go_at_call 31; refine (d32.below_no a b _ r (by have := HB.out; omega)).mono ?_; rintro e w2 ⟨rfl, hw⟩; have hw := hw.symm; subst hw))
  have R : Hid (Row w b (dcells 32 (m : Int))) := by have h := r; unfold Hid; rw [HM.out]; exact h
  go_loopw [4, 7] (fun s i wr => ∃ k n : Nat, k ≤ 32 ∧ i = .int .i64 ((k : Int) - 1) ∧ s = .string (strOfNums (htext m k)) ∧ wr = World.drewN w n) (fun _ i _ => (intOf i + 1).toNat)
  case atStart => exact ⟨32, 0, by omega, rfl, rfl, rfl⟩
  case round =>
    obtain ⟨k, n, hk, rfl, rfl, rfl⟩ := hrel
    rcases k with _ | k
    · rw [htext_last]
      go_wp2
      go_loopw [4] (fun s wr => StripRel m s ∧ wr = World.drewN w n) (fun s _ => ssize s)
      case atStart => exact ⟨⟨64, by omega, by omega, hm64.out, rfl⟩, rfl⟩
      case round =>
        obtain ⟨⟨t, t1, t2, t3, rfl⟩, rfl⟩ := hrel
        obtain ⟨t, rfl⟩ : ∃ t', t = t' + 1 := ⟨t - 1, by omega⟩
        have z1 : (strOfNums (x.digs (t + 1) m)).size = t + 1 := by rw [strOfNums_size, x.digs_length]
        have hd : ∀ h : 0 < (strOfNums (x.digs (t + 1) m)).size, ((strOfNums (x.digs (t + 1) m))[0].toNat : Int) = x.hexc (m / 16 ^ t % 16) := fun h => head_byte _ _ (x.hexc_range _ (by omega)).1 (x.hexc_range _ (by omega)).2 h
        have tl : (strOfNums (x.digs (t + 1) m)).extract 1 (strOfNums (x.digs (t + 1) m)).size = strOfNums (x.digs t m) := tail_bytes _ _
        have HT1 : Hid _ := HT.out (t + 1) (by omega) t3
        have top : m / 16 ^ t < 16 := by rw [Nat.pow_succ] at t3; exact Nat.div_lt_of_lt_mul t3
        have T3 : Hid _ := t3
        clear t3
        generalize hS : strOfNums (x.digs (t + 1) m) = S at *
        have HS : Hid _ := hS
        clear hS
        by_cases c : t = 0
        · subst c
          have c1 : ¬ (1 : Int) < (S.size : Int) := by omega
          have E : Hid _ := HT1.out (Or.inl rfl)
          skip
          clear hd tl
          go_wp2
          go_ret
          exact ⟨ret_str (E.out.symm), below_drewN (Below.refl _ _) _⟩
        · have c1 : (1 : Int) < (S.size : Int) := by omega
          have s0 : 0 < S.size := by omega
          by_cases hz : m / 16 ^ t = 0
          · have hd0 : ((S[0].toNat : Int) == 48) = true := by rw [hd s0, hz]; rfl
            clear hd
            have tl' : Hid _ := tl
            have z1' : Hid _ := z1
            clear tl z1
            go_wp2
            go_roundw
            case rel => exact ⟨⟨t, by omega, by omega, by rcases (Nat.div_eq_zero_iff).1 hz with h | h; (have := Nat.pow_pos (n := t) (show 0 < 16 by decide); omega); exact h, by rw [tl'.out]⟩, by first | trivial | rfl⟩
            case measure => rw [ssize_string, ssize_string, tl'.out, strOfNums_size, x.digs_length, z1'.out]; omega
          · have hd0 : ((S[0].toNat : Int) == 48) = false := by
              rw [hd s0, Bool.eq_false_iff]
              intro h
              have h' : x.hexc (m / 16 ^ t % 16) = 48 := by simpa using h
              have h2 := (hexc_zero (m / 16 ^ t % 16) (Nat.mod_lt _ (by decide))).1 h'
              rw [Nat.mod_eq_of_lt top] at h2
              exact hz h2
            have E : Hid _ := HT1.out (Or.inr (by rcases Nat.lt_or_ge m (16 ^ t) with l | l; (exact absurd (Nat.div_eq_of_lt l) hz); exact l))
            skip
            clear hd tl
            go_wp2
            go_ret
            exact ⟨ret_str (E.out.symm), below_drewN (Below.refl _ _) _⟩
    · have hi' : (((k + 1 : Nat) : Int) - 1) = (k : Int) := by omega
      rw [hi']
      clear hi'
      have c1 : World.cell? w ⟨b, k, none⟩ = some (.int .i64 (dg (m : Int) k)) := R.out.cell k _ (dcells_at _ _ _ (by omega))
      obtain ⟨d0, d1⟩ := dg_range (m : Int) k
      have hl : (k : Int) < 32 := by omega
      have hs1 := slice16 (dg (m : Int) k / 16) (by omega) (by omega)
      have hs2 := slice16 (dg (m : Int) k % 16) (by omega) (by omega)
      have y0 : 0 ≤ dg (m : Int) k / 16 := by omega
      have y1 : dg (m : Int) k / 16 < 16 := by omega
      have y2 : 0 ≤ dg (m : Int) k % 16 := by omega
      have y3 : dg (m : Int) k % 16 < 16 := by omega
      have wr1 : IntKind.i64.wrap (dg (m : Int) k / 16 + 1) = dg (m : Int) k / 16 + 1 := IntWalk.i64_in _ ⟨by omega, by omega⟩
      have wr2 : IntKind.i64.wrap (dg (m : Int) k % 16 + 1) = dg (m : Int) k % 16 + 1 := IntWalk.i64_in _ ⟨by omega, by omega⟩
      have z1 : (strOfNums (htext m (k + 1))).size = 64 - 2 * (k + 1) := by rw [strOfNums_size, htext_length]
      have z2 : (strOfNums [x.hexc (dg (m : Int) k / 16).toNat]).size = 1 := by rw [strOfNums_size]; rfl
      have z3 : (strOfNums [x.hexc (dg (m : Int) k % 16).toNat]).size = 1 := by rw [strOfNums_size]; rfl
      have HN : Hid _ := htext_next m k (by omega)
      go_wp2
      go_quiet (fail)
      go_wp2
      go_roundw
      case rel => exact ⟨k, _, by omega, by simp, by rw [strOfNums_append, strOfNums_append, HN.out], by first | rfl | exact World.drewN_drewN _ _ _⟩
      case measure => simp [intOf]
set_option maxHeartbeats 2000000 in
theorem rhex_neg (a : Int) (b : Nat) {cap : Nat} (w : World) (r : Row w b (dcells 32 a)) (hb : b < w.heap.size) (h0 : -57896044618658097711785492504343953926634992332820282019728792003956564819968 ≤ a) (h1 : a < 57896044618658097711785492504343953926634992332820282019728792003956564819968) (hneg : a < 0) :
    Calls Try.prog 26 #[.slice (some ⟨b, 0, none⟩) 32 cap] w fun e w' => e = .returned (.string (x.hexS a)) ∧ Below w.heap.size w w' := by
  have HB : Hid (128 ≤ dg a 31) := (d32.dg15 a h0 h1).2 hneg
  obtain ⟨m, hm0⟩ : ∃ m : Nat, (m : Int) = -a := ⟨a.natAbs, by omega⟩
  have HT : Hid (∀ t, 1 ≤ t → m < 16 ^ t → (t = 1 ∨ 16 ^ (t - 1) ≤ m) → x.hexS a = strOfNums (45 :: x.digs t m)) := by
    intro t t1 t2 t3
    have e : a.natAbs = m := by omega
    unfold x.hexS x.hexI
    rw [e, x.ndig_eq (by omega) ⟨t1, t2, t3⟩, if_pos (by omega)]
    rfl
  have hm64 : Hid (m < 16 ^ 64) := by
    have e : (16 : Nat) ^ 64 = 115792089237316195423570985008687907853269984665640564039457584007913129639936 := by decide
    unfold Hid
    omega
  have HM : Hid _ := hm0
  clear h0 h1 hneg hm0
  go_enter Try.func26, Try.ntmps26
  go_wp2_with (first
    | (go_at_call 31; refine (d32.below_yes a b _ r (by have := HB.out; omega)).mono ?_; rintro e w2 ⟨rfl, hw⟩; have hw := hw.symm; subst hw)
    | (go_at_call 14; refine (d32.rneg_any a b _ r hb).mono ?_; rintro e w1 ⟨bl, rfl, hm⟩))
  have R : Hid (Row w1 bl (dcells 32 (m : Int))) := by have h := hm.row; unfold Hid; rw [HM.out]; exact h
  go_loopw [4, 7] (fun s i wr => ∃ k n : Nat, k ≤ 32 ∧ i = .int .i64 ((k : Int) - 1) ∧ s = .string (strOfNums (htext m k)) ∧ wr = World.drewN w1 n) (fun _ i _ => (intOf i + 1).toNat)
  case atStart => exact ⟨32, 0, by omega, rfl, rfl, rfl⟩
  case round =>
    obtain ⟨k, n, hk, rfl, rfl, rfl⟩ := hrel
    rcases k with _ | k
    · rw [htext_last]
      go_wp2
      go_loopw [4] (fun s wr => StripRel m s ∧ wr = World.drewN w1 n) (fun s _ => ssize s)
      case atStart => exact ⟨⟨64, by omega, by omega, hm64.out, rfl⟩, rfl⟩
      case round =>
        obtain ⟨⟨t, t1, t2, t3, rfl⟩, rfl⟩ := hrel
        obtain ⟨t, rfl⟩ : ∃ t', t = t' + 1 := ⟨t - 1, by omega⟩
        have z1 : (strOfNums (x.digs (t + 1) m)).size = t + 1 := by rw [strOfNums_size, x.digs_length]
        have hd : ∀ h : 0 < (strOfNums (x.digs (t + 1) m)).size, ((strOfNums (x.digs (t + 1) m))[0].toNat : Int) = x.hexc (m / 16 ^ t % 16) := fun h => head_byte _ _ (x.hexc_range _ (by omega)).1 (x.hexc_range _ (by omega)).2 h
        have tl : (strOfNums (x.digs (t + 1) m)).extract 1 (strOfNums (x.digs (t + 1) m)).size = strOfNums (x.digs t m) := tail_bytes _ _
        have HT1 : Hid _ := HT.out (t + 1) (by omega) t3
        have top : m / 16 ^ t < 16 := by rw [Nat.pow_succ] at t3; exact Nat.div_lt_of_lt_mul t3
        have T3 : Hid _ := t3
        clear t3
        generalize hS : strOfNums (x.digs (t + 1) m) = S at *
        have HS : Hid _ := hS
        clear hS
        by_cases c : t = 0
        · subst c
          have c1 : ¬ (1 : Int) < (S.size : Int) := by omega
          have E : Hid _ := HT1.out (Or.inl rfl)
          skip
          clear hd tl
          go_wp2
          go_ret
          exact ⟨ret_str (by rw [E.out, ← HS.out, str_minus]), below_drewN (hm.below) _⟩
        · have c1 : (1 : Int) < (S.size : Int) := by omega
          have s0 : 0 < S.size := by omega
          by_cases hz : m / 16 ^ t = 0
          · have hd0 : ((S[0].toNat : Int) == 48) = true := by rw [hd s0, hz]; rfl
            clear hd
            have tl' : Hid _ := tl
            have z1' : Hid _ := z1
            clear tl z1
            go_wp2
            go_roundw
            case rel => exact ⟨⟨t, by omega, by omega, by rcases (Nat.div_eq_zero_iff).1 hz with h | h; (have := Nat.pow_pos (n := t) (show 0 < 16 by decide); omega); exact h, by rw [tl'.out]⟩, by first | trivial | rfl⟩
            case measure => rw [ssize_string, ssize_string, tl'.out, strOfNums_size, x.digs_length, z1'.out]; omega
          · have hd0 : ((S[0].toNat : Int) == 48) = false := by
              rw [hd s0, Bool.eq_false_iff]
              intro h
              have h' : x.hexc (m / 16 ^ t % 16) = 48 := by simpa using h
              have h2 := (hexc_zero (m / 16 ^ t % 16) (Nat.mod_lt _ (by decide))).1 h'
              rw [Nat.mod_eq_of_lt top] at h2
              exact hz h2
            have E : Hid _ := HT1.out (Or.inr (by rcases Nat.lt_or_ge m (16 ^ t) with l | l; (exact absurd (Nat.div_eq_of_lt l) hz); exact l))
            skip
            clear hd tl
            go_wp2
            go_ret
            exact ⟨ret_str (by rw [E.out, ← HS.out, str_minus]), below_drewN (hm.below) _⟩
    · have hi' : (((k + 1 : Nat) : Int) - 1) = (k : Int) := by omega
      rw [hi']
      clear hi'
      have c1 : World.cell? w1 ⟨bl, k, none⟩ = some (.int .i64 (dg (m : Int) k)) := R.out.cell k _ (dcells_at _ _ _ (by omega))
      obtain ⟨d0, d1⟩ := dg_range (m : Int) k
      have hl : (k : Int) < 32 := by omega
      have hs1 := slice16 (dg (m : Int) k / 16) (by omega) (by omega)
      have hs2 := slice16 (dg (m : Int) k % 16) (by omega) (by omega)
      have y0 : 0 ≤ dg (m : Int) k / 16 := by omega
      have y1 : dg (m : Int) k / 16 < 16 := by omega
      have y2 : 0 ≤ dg (m : Int) k % 16 := by omega
      have y3 : dg (m : Int) k % 16 < 16 := by omega
      have wr1 : IntKind.i64.wrap (dg (m : Int) k / 16 + 1) = dg (m : Int) k / 16 + 1 := IntWalk.i64_in _ ⟨by omega, by omega⟩
      have wr2 : IntKind.i64.wrap (dg (m : Int) k % 16 + 1) = dg (m : Int) k % 16 + 1 := IntWalk.i64_in _ ⟨by omega, by omega⟩
      have z1 : (strOfNums (htext m (k + 1))).size = 64 - 2 * (k + 1) := by rw [strOfNums_size, htext_length]
      have z2 : (strOfNums [x.hexc (dg (m : Int) k / 16).toNat]).size = 1 := by rw [strOfNums_size]; rfl
      have z3 : (strOfNums [x.hexc (dg (m : Int) k % 16).toNat]).size = 1 := by rw [strOfNums_size]; rfl
      have HN : Hid _ := htext_next m k (by omega)
      go_wp2
      go_quiet (fail)
      go_wp2
      go_roundw
      case rel => exact ⟨k, _, by omega, by simp, by rw [strOfNums_append, strOfNums_append, HN.out], by first | rfl | exact World.drewN_drewN _ _ _⟩
      case measure => simp [intOf]
theorem rhex_any (a : Int) (b : Nat) {cap : Nat} (w : World) (r : Row w b (dcells 32 a)) (hb : b < w.heap.size) (h0 : -57896044618658097711785492504343953926634992332820282019728792003956564819968 ≤ a) (h1 : a < 57896044618658097711785492504343953926634992332820282019728792003956564819968) :
    Calls Try.prog 26 #[.slice (some ⟨b, 0, none⟩) 32 cap] w fun e w' => e = .returned (.string (x.hexS a)) ∧ Below w.heap.size w w' := by
  rcases Int.lt_or_le a 0 with h | h
  · exact rhex_neg a b w r hb h0 h1 h
  · exact rhex_pos a b w r hb h0 h1 h
end Go.Proofs.Ytjlndalcaepofaa
