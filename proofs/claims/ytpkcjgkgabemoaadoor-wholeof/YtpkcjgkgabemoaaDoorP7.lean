/-
  Joined texts, part 7:
  What zelligeref03's DivMod answers: bit by bit.
  What zelligeref04's Long and Floor answer.
  What the document's own sum and negation of digits answer.
  A number's 32 digits out of its four words.
  What the document's own sign and order of digits answer.
  What the reference's Quad answers (layer 4).
  A law's arguments that are arrays: four words, two numbers of 128 bits; taken apart and put together again.
-/
import Derived.Test.YtpkcjgkgabemoaaDoorP6
import Derived.Test.YtpkcjgkgabemoaaDoorP4
import Derived.Test.YtpkcjgkgabemoaaDoorP5
import Derived.Test.YtpkcjgkgabemoaaDoorP1
import Derived.Test.YtpkcjgkgabemoaaDoorRows
import Derived.WalkKit
import Derived.WalkSpells
import Derived.Deep.QuietTactic
import Derived.BigQuiet
import Derived.RegionTactic
import Derived.ChangeAlike
import Derived.Deep.RegionWith
import Derived.Laws.IdiomArrays
import Derived.ProofKit
import Derived.OpenShut
import Derived.Lib.SmallJoins
namespace Go.Proofs.YtpkcjgkgabemoaaDoor
open Go.RowKit
set_option linter.unusedVariables false

theorem new_one (w : World) (x : Int) (T : TypeId) : Sl (w.alloc (.cells #[.int .i64 x] T)) (some ⟨w.heap.size, 0, none⟩) 1 1 [.int .i64 x] := Own.sl (World.ownsRow_lit (base := w.heap.size) (e := T) (size := 1) w #[.int .i64 x] 1 (Nat.le_refl _) (by decide) rfl)
theorem cell_one (x : Nat) (h : x < 65536) : hf.dcells 1 (x : Int) = [.int .i64 (x : Int)] := by
  simp [hf.dcells, List.range_succ, hf.dg]
  omega
theorem pow_bits (j : Nat) : 2 ^ j = 2 ^ (j % 16) * 65536 ^ (j / 16) := by
  rw [show (65536 : Nat) = 2 ^ 16 from rfl, ← Nat.pow_mul, ← Nat.pow_add]
  congr 1
  omega
theorem bit_of (u j : Nat) : (hf.dg (u : Int) (j / 16)) / 2 ^ (j % 16) % 2 = ((u / 2 ^ j % 2 : Nat) : Int) := by
  have e : u / 2 ^ j = u / 65536 ^ (j / 16) / 2 ^ (j % 16) := by rw [pow_bits, Nat.mul_comm, Nat.div_div_eq_div_mul]
  have e2 : hf.dg (u : Int) (j / 16) = ((u / 65536 ^ (j / 16) % 65536 : Nat) : Int) := by
    unfold hf.dg
    rw [Int.natCast_emod, Int.natCast_ediv, hf.pow_cast]
    rfl
  rw [e, e2]
  generalize u / 65536 ^ (j / 16) = X
  obtain ⟨b, hb⟩ : ∃ b, b = j % 16 := ⟨_, rfl⟩
  have hb16 : b < 16 := by omega
  rw [← hb]
  have e3 : X % 65536 / 2 ^ b % 2 = X / 2 ^ b % 2 := by
    have h1 : 65536 = 2 ^ b * (2 * 2 ^ (15 - b)) := by rw [← Nat.mul_assoc, Nat.mul_comm (2 ^ b) 2, ← Nat.pow_succ', ← Nat.pow_add, show b + 1 + (15 - b) = 16 by omega]
    rw [h1, Nat.mod_mul_right_div_self, Nat.mod_mul_right_mod]
  have e4 : ((X % 65536 / 2 ^ b % 2 : Nat) : Int) = ((X % 65536 : Nat) : Int) / 2 ^ b % 2 := by
    rw [Int.natCast_emod (X % 65536 / 2 ^ b), Int.natCast_ediv, Int.natCast_pow]; rfl
  rw [← e4, e3]
/-- A bit more in what has none there. -/
theorem bit_set (l j Q : Nat) (h : 2 ^ (j + 1) ∣ Q) : (hf.dcells l (Q : Int)).set (j / 16) (.int .i64 (hf.dg (Q : Int) (j / 16) + 2 ^ (j % 16))) = hf.dcells l ((Q + 2 ^ j : Nat) : Int) := by
  obtain ⟨b, hb⟩ : ∃ b, b = j % 16 := ⟨_, rfl⟩
  obtain ⟨a, ha⟩ : ∃ a, a = j / 16 := ⟨_, rfl⟩
  rw [← ha, ← hb]
  have hp := hf.pow_nat a
  have e1 : 2 ^ j = 2 ^ b * 65536 ^ a := by rw [ha, hb]; exact pow_bits j
  have e2 : (Q + 2 ^ j) / 65536 ^ a = Q / 65536 ^ a + 2 ^ b := by rw [e1, Nat.add_mul_div_right _ _ hp]
  obtain ⟨X, hX⟩ : ∃ X, X = Q / 65536 ^ a := ⟨_, rfl⟩
  have hd : 2 ^ (b + 1) ∣ X := by
    obtain ⟨c, rfl⟩ := h
    refine ⟨c, ?_⟩
    rw [hX, Nat.pow_succ, e1, show 2 ^ b * 65536 ^ a * 2 * c = 2 ^ b * 2 * c * 65536 ^ a by rw [Nat.mul_right_comm (2 ^ b), Nat.mul_right_comm _ (65536 ^ a) c], Nat.mul_div_cancel _ hp, Nat.pow_succ]
  have hb16 : b < 16 := by omega
  have hX2 : (X + 2 ^ b) / 65536 = X / 65536 ∧ (X + 2 ^ b) % 65536 = X % 65536 + 2 ^ b := by
    obtain ⟨c, rfl⟩ := hd
    have h1 : 65536 = 2 ^ (b + 1) * 2 ^ (15 - b) := by rw [← Nat.pow_add, show b + 1 + (15 - b) = 16 by omega]
    have h3 : 2 ^ (b + 1) * c % 65536 = 2 ^ (b + 1) * (c % 2 ^ (15 - b)) := by rw [h1, Nat.mul_mod_mul_left]
    have h4 : c % 2 ^ (15 - b) + 1 ≤ 2 ^ (15 - b) := Nat.mod_lt _ (Nat.pow_pos (by decide))
    have h5 : 2 ^ (b + 1) * (c % 2 ^ (15 - b)) + 2 ^ (b + 1) ≤ 65536 := by
      have := Nat.mul_le_mul_left (2 ^ (b + 1)) h4
      rw [← h1, Nat.mul_add, Nat.mul_one] at this
      exact this
    have h6 : 2 ^ (b + 1) = 2 * 2 ^ b := by rw [Nat.pow_succ, Nat.mul_comm]
    have h7 : 0 < 2 ^ b := Nat.pow_pos (by decide)
    rw [← h3] at h5
    generalize 2 ^ (b + 1) * c = Y at *
    omega
  refine List.ext_getElem? fun i => ?_
  rw [List.getElem?_set]
  by_cases hi : i < l
  · have hdg : ∀ Z : Nat, hf.dg (Z : Int) i = ((Z / 65536 ^ i % 65536 : Nat) : Int) := fun Z => by
      unfold hf.dg
      rw [Int.natCast_emod, Int.natCast_ediv, hf.pow_cast]
      rfl
    by_cases hai : a = i
    · subst hai
      rw [if_pos rfl, if_pos (by rw [hf.dcells_length]; exact hi), hf.dcells_at _ _ _ hi, hdg, hdg, e2, ← hX, hX2.2]
      simp
    · rw [if_neg hai, hf.dcells_at _ _ _ hi, hf.dcells_at _ _ _ hi, hdg, hdg]
      rcases Nat.lt_or_ge i a with h1 | h1
      · have e3 : (Q + 2 ^ j) / 65536 ^ i % 65536 = Q / 65536 ^ i % 65536 := by
          have e4 : 2 ^ j = 2 ^ b * 65536 ^ (a - i - 1) * 65536 * 65536 ^ i := by
            rw [e1, Nat.mul_assoc, Nat.mul_assoc, ← Nat.pow_succ', ← Nat.pow_add, show a - i - 1 + (i + 1) = a by omega]
          rw [e4, Nat.add_mul_div_right _ _ (hf.pow_nat i), Nat.add_mul_mod_self_right]
        rw [e3]
      · have e3 : ∀ Z : Nat, Z / 65536 ^ i = Z / 65536 ^ a / 65536 / 65536 ^ (i - a - 1) := fun Z => by
          rw [Nat.div_div_eq_div_mul, Nat.div_div_eq_div_mul, ← Nat.pow_succ', ← Nat.pow_add, show a + (i - a - 1 + 1) = i by omega]
        rw [e3 (Q + 2 ^ j), e2, ← hX, hX2.1, hX, ← e3]
  · have hl1 : ∀ Z : Int, (hf.dcells l Z)[i]? = none := fun Z => List.getElem?_eq_none (by rw [hf.dcells_length]; omega)
    rw [hl1, hl1, hf.dcells_length]
    by_cases hai : a = i
    · rw [if_pos hai, if_neg (by omega)]
    · rw [if_neg hai]

/-- One bit more of a division. -/
theorem bit_step (X v c : Nat) (hv : 0 < v) (hc : c < 2) :
    (v ≤ X % v + X % v + c → (2 * X + c) % v = X % v + X % v + c - v ∧ (2 * X + c) / v = 2 * (X / v) + 1) ∧ (¬ v ≤ X % v + X % v + c → (2 * X + c) % v = X % v + X % v + c ∧ (2 * X + c) / v = 2 * (X / v)) := by
  have hr := Nat.mod_lt X hv
  have hd := Nat.div_add_mod X v
  obtain ⟨q, hq⟩ : ∃ q, q = X / v := ⟨_, rfl⟩
  obtain ⟨r, hr'⟩ : ∃ r, r = X % v := ⟨_, rfl⟩
  rw [← hq, ← hr'] at hd
  rw [← hr'] at hr
  rw [← hq, ← hr']
  refine ⟨fun h => ?_, fun h => ?_⟩
  · have e : 2 * X + c = (r + r + c - v) + v * (2 * q + 1) := by rw [Nat.mul_add, Nat.mul_left_comm]; omega
    rw [e, Nat.add_mul_mod_self_left, Nat.add_mul_div_left _ _ hv, Nat.mod_eq_of_lt (by omega), Nat.div_eq_of_lt (by omega)]
    omega
  · have e : 2 * X + c = (r + r + c) + v * (2 * q) := by rw [Nat.mul_left_comm]; omega
    rw [e, Nat.add_mul_mod_self_left, Nat.add_mul_div_left _ _ hv, Nat.mod_eq_of_lt (by omega), Nat.div_eq_of_lt (by omega)]
    omega
theorem half_bit (u j : Nat) : u / 2 ^ j = 2 * (u / 2 ^ (j + 1)) + u / 2 ^ j % 2 := by
  rw [Nat.pow_succ, ← Nat.div_div_eq_div_mul]
  omega
theorem add1 (a : Option Addr) (ca N B : Nat) (w : World) (ha : Sl w a (hf.nlen N) ca (hf.dcells (hf.nlen N) (N : Int))) (hlu : hf.nlen N ≤ 1000000000) (hb : Sl w (some ⟨B, 0, none⟩) 1 1 [.int .i64 1]) :
    Calls Tryd.prog 41 #[.slice a (hf.nlen N) ca, .slice (some ⟨B, 0, none⟩) 1 1] w fun e w' => ∃ a' cap', e = .returned (.slice a' (hf.nlen (N + 1)) cap') ∧ Own w' w.heap.size 3 a' (hf.nlen (N + 1)) cap' (hf.dcells (hf.nlen (N + 1)) ((N + 1 : Nat) : Int)) ∧ Below w.heap.size w w' := by
  have n1 : hf.nlen 1 = 1 := hf.nlen_eq ⟨by decide, Or.inr (by decide)⟩
  have h := radd_any a (some ⟨B, 0, none⟩) ca 1 N 1 w ha (by rw [n1]; rw [cell_one 1 (by decide)]; exact hb) hlu (by rw [n1]; decide)
  rw [n1] at h
  exact h
theorem few2 {R v X : Nat} (h : R < v) (hv : hf.nlen v ≤ 10000000) (hX : X ≤ R + R + 1) : hf.nlen X ≤ 1000000000 := by
  have h1 := hf.nlen_lt v
  have : hf.nlen X ≤ hf.nlen v + 1 := hf.nlen_le (by rw [Nat.pow_succ]; omega)
  omega
/-- What holds at the head of each round. -/
def BitwRel (w : World) (u v l qb : Nat) (r i : Value) (wr : World) : Prop := ∃ (t R cap : Nat) (ar : Option Addr), t ≤ 16 * l ∧ i = .int .i64 ((t : Int) - 1) ∧ r = .slice ar (hf.nlen R) cap ∧ Hid (R = u / 2 ^ t % v) ∧
  Own wr w.heap.size 3 (some ⟨qb, 0, none⟩) l l (hf.dcells l ((u / 2 ^ t / v * 2 ^ t : Nat) : Int)) ∧ Own wr w.heap.size 3 ar (hf.nlen R) cap (hf.dcells (hf.nlen R) (R : Int)) ∧ Below w.heap.size w wr
theorem own_ne {w : World} {base n cap qb : Nat} {T : TypeId} {a : Option Addr} {xs : List Value} (h : Own w base T a n cap xs) (hb : qb < base) : ∀ o, a ≠ some ⟨qb, o, none⟩ := by
  intro o e
  obtain ⟨hl, ⟨h1, _⟩ | ⟨g, cap', cur, hv, hb', r⟩⟩ := h
  · rw [e] at h1
    cases h1
  · rw [e] at hv
    cases hv
    omega
theorem bitw_less {w w3 : World} {u v l qb j R2 c2 c : Nat} {a2 : Option Addr} (ht : j ≤ 16 * l) (hv : 0 < v) (hc : c < 2) (HX : u / 2 ^ j = 2 * (u / 2 ^ (j + 1)) + c) (hR2 : R2 = u / 2 ^ (j + 1) % v + u / 2 ^ (j + 1) % v + c) (hlt : ¬ v ≤ R2)
    (hq : Own w3 w.heap.size 3 (some ⟨qb, 0, none⟩) l l (hf.dcells l ((u / 2 ^ (j + 1) / v * 2 ^ (j + 1) : Nat) : Int))) (hr : Own w3 w.heap.size 3 a2 (hf.nlen R2) c2 (hf.dcells (hf.nlen R2) (R2 : Int))) (hb : Below w.heap.size w w3) :
    BitwRel w u v l qb (.slice a2 (hf.nlen R2) c2) (.int .i64 ((j : Int) - 1)) w3 := by
  obtain ⟨h1, h2⟩ := (bit_step (u / 2 ^ (j + 1)) v c hv hc).2 (by rw [← hR2]; exact hlt)
  rw [← HX] at h1 h2
  refine ⟨j, R2, c2, a2, ht, rfl, rfl, by unfold Hid; rw [h1, hR2], ?_, hr, hb⟩
  rw [h2, show 2 * (u / 2 ^ (j + 1) / v) * 2 ^ j = u / 2 ^ (j + 1) / v * 2 ^ (j + 1) by rw [Nat.pow_succ, Nat.mul_comm 2, Nat.mul_assoc, Nat.mul_comm 2]]
  exact hq
theorem bitw_more {w w4 : World} {u v l qb j A R2 c3 c base : Nat} {a3 : Option Addr} {P : Int} (ht : j < 16 * l) (hv : 0 < v) (hc : c < 2) (HX : u / 2 ^ j = 2 * (u / 2 ^ (j + 1)) + c) (hR2 : R2 = u / 2 ^ (j + 1) % v + u / 2 ^ (j + 1) % v + c) (hge : v ≤ R2) (hA : A = j / 16) (hP : P = 2 ^ (j % 16))
    (hq : Own w4 w.heap.size 3 (some ⟨qb, 0, none⟩) l l (hf.dcells l ((u / 2 ^ (j + 1) / v * 2 ^ (j + 1) : Nat) : Int))) (hr : Own w4 base 3 a3 (hf.nlen (R2 - v)) c3 (hf.dcells (hf.nlen (R2 - v)) ((R2 - v : Nat) : Int))) (hbase : qb < base) (hwb : w.heap.size ≤ base) (hqw : w.heap.size ≤ qb) (hb : Below w.heap.size w w4) :
    BitwRel w u v l qb (.slice a3 (hf.nlen (R2 - v)) c3) (.int .i64 ((j : Int) - 1)) (w4.setCell ⟨qb, A, none⟩ (.int .i64 (hf.dg ((u / 2 ^ (j + 1) / v * 2 ^ (j + 1) : Nat) : Int) A + P))) := by
  subst hA hP
  obtain ⟨h1, h2⟩ := (bit_step (u / 2 ^ (j + 1)) v c hv hc).1 (by rw [← hR2]; exact hge)
  rw [← HX] at h1 h2
  have ws : Wr w4 (w4.setCell ⟨qb, j / 16, none⟩ (.int .i64 (hf.dg ((u / 2 ^ (j + 1) / v * 2 ^ (j + 1) : Nat) : Int) (j / 16) + 2 ^ (j % 16)))) qb 0 l := (Wr.refl _ _ _ _).set _ (Nat.zero_le _) (by omega)
  refine ⟨j, R2 - v, c3, a3, by omega, rfl, rfl, by unfold Hid; rw [h1, hR2], ?_, Own.mono (ws.own hr (own_ne hr hbase)) hwb, hb.setCell hqw _⟩
  rw [h2, show (2 * (u / 2 ^ (j + 1) / v) + 1) * 2 ^ j = u / 2 ^ (j + 1) / v * 2 ^ (j + 1) + 2 ^ j by rw [Nat.add_mul, Nat.pow_succ, Nat.mul_comm 2, Nat.mul_assoc, Nat.mul_comm 2, Nat.one_mul], ← bit_set _ _ _ (Nat.dvd_mul_left _ _)]
  exact Own.set hq _ (by omega)

set_option maxRecDepth 100000 in
set_option maxHeartbeats 2000000 in
theorem rdivMod_own (a b : Option Addr) (ca cb u v : Nat) (w : World) (ha : Sl w a (hf.nlen u) ca (hf.dcells (hf.nlen u) (u : Int))) (hb : Sl w b (hf.nlen v) cb (hf.dcells (hf.nlen v) (v : Int))) (hlu : hf.nlen u ≤ 10000000) (hlv : hf.nlen v ≤ 10000000) (hv : 0 < v) :
    Calls Tryd.prog 52 #[.slice a (hf.nlen u) ca, .slice b (hf.nlen v) cb] w fun e w' => ∃ aq cq ar cr, e = .returned (.tuple #[.slice aq (hf.nlen (u / v)) cq, .slice ar (hf.nlen (u % v)) cr]) ∧
      Own w' w.heap.size 3 aq (hf.nlen (u / v)) cq (hf.dcells (hf.nlen (u / v)) ((u / v : Nat) : Int)) ∧ Own w' w.heap.size 3 ar (hf.nlen (u % v)) cr (hf.dcells (hf.nlen (u % v)) ((u % v : Nat) : Int)) ∧ Below w.heap.size w w' := by
  obtain ⟨i0, hi0, hz0, hz1, hz2⟩ := info_parts infoInt
  obtain ⟨l, hl⟩ : ∃ l, l = hf.nlen u := ⟨_, rfl⟩
  rw [← hl] at ha hlu
  have hul : u < 65536 ^ l := by rw [hl]; exact hf.nlen_lt u
  rw [← hl]
  clear hl
  have hz0' : hf.dcells l 0 = List.replicate l (.int .i64 0) := hf.dcells_zero _
  have hmax : l ≤ maxLen := by unfold maxLen; omega
  go_enter Tryd.func52, Tryd.ntmps52
  go_wp2_with (at_make; refine make_any _ rfl (.tmp 10) (.tmp 10) 27 rfl w.heap.size 3 i0 (.int .i64 0) Tryd.underlying27 hi0 hz0 hz1 rfl .i64 .i64 _ _ l rfl rfl (by simp) (by simp) (by rw [hz2]; omega) (by omega) (Nat.le_refl _) ?_; intro w1 hownQ hbel1)
  have hownR : Own (w1.alloc (.cells #[] 3)) w.heap.size 3 (some ⟨w1.heap.size, 0, none⟩) 0 0 [] := own_empty w1 w.heap.size 3 hbel1.size
  have b2 : Below w1.heap.size w1 (w1.alloc (.cells #[] 3)) := (Below.refl _ _).alloc (Nat.le_refl _) _
  have hz16 : u / 2 ^ (16 * l) = 0 := Nat.div_eq_of_lt (by rw [Nat.pow_mul]; exact hul)
  have HST : Hid (BitwRel w u v l w.heap.size (.slice (some ⟨w1.heap.size, 0, none⟩) 0 0) (.int .i64 ((16 : Int) * (l : Int) - 1)) (w1.alloc (.cells #[] 3))) := by
    refine ⟨16 * l, 0, 0, some ⟨w1.heap.size, 0, none⟩, Nat.le_refl _, by simp, by rw [hf.nlen_zero], by unfold Hid; rw [hz16, Nat.zero_mod], ?_, by rw [hf.nlen_zero]; exact hownR, hbel1.trans (b2.mono hbel1.size)⟩
    rw [hz16, Nat.zero_div, Nat.zero_mul]
    rw [← hz0'] at hownQ
    exact Own.below hownQ b2
  clear hownQ hownR hbel1 b2 hz16
  have hcapA := ha.big
  have hroomA := ha.room
  unfold maxLen at hcapA
  have HB : Hid _ := hb
  have fv : hf.nlen v ≤ 1000000000 := by omega
  go_loopw [7, 8] (fun r i wr => BitwRel w u v l w.heap.size r i wr) (fun _ i _ => (intOf i + 1).toNat)
  case atStart => exact HST.out
  case round =>
    obtain ⟨t, R, cap, ar, ht, rfl, rfl, HR, hq, hr, hbel⟩ := hrel
    rcases t with _ | j
    · have hR : R = u % v := by have := HR.out; simpa using this
      have hq' : Own wr w.heap.size 3 (some ⟨w.heap.size, 0, none⟩) l l (hf.dcells l ((u / v : Nat) : Int)) := by simpa using hq
      have hQl : Hid (u / v < 65536 ^ l) := Nat.lt_of_le_of_lt (Nat.div_le_self _ _) hul
      have HQ : Hid _ := hq'
      have HRR : Hid _ := hr
      have HRe : Hid _ := hR
      clear hq hq' hr hR
      go_wp2_with (go_at_call 62; fail)
      refine (rtrim_own _ l l (u / v) w.heap.size wr HQ.out hQl.out).mono ?_
      rintro e w' ⟨rfl, hw, hq2⟩
      subst hw
      have hq3 : Hid _ := hq2
      clear hq2
      go_wp2
      go_ret2
      rw [← HRe.out]
      exact ⟨_, _, ar, cap, rfl, hq3.out, HRR.out, hbel⟩
    · obtain ⟨A, hA⟩ : ∃ A, A = j / 16 := ⟨_, rfl⟩
      obtain ⟨B, hB⟩ : ∃ B, B = j % 16 := ⟨_, rfl⟩
      have hAl : A < l := by omega
      obtain ⟨ba, oa, rfl, hba, hsg⟩ := ha.at (by omega)
      have c1 : wr.cell? ⟨ba, oa + A, none⟩ = some (.int .i64 (hf.dg u A)) := (hbel.cell (p := ⟨ba, oa + A, none⟩) hba).trans (hsg.cell A _ (hf.dcells_at _ _ _ hAl))
      have e1 : ((j + 1 : Nat) : Int) - 1 = (j : Int) := by omega
      have e2 : (j : Int) / 16 = (A : Int) := by omega
      have e3 : (j : Int) % 16 = (B : Int) := by omega
      have hB16 : B < 16 := by omega
      have sR := Own.sl hr
      have HO : Hid _ := hq
      have hRv : R < v := by rw [HR.out]; exact Nat.mod_lt _ hv
      clear hq hr
      have fR : hf.nlen R ≤ 1000000000 := Nat.le_trans (hf.nlen_le (Nat.lt_trans hRv (hf.nlen_lt v))) fv
      have HBits : Hid ((hf.dg (u : Int) A) / 2 ^ B % 2 = ((u / 2 ^ j % 2 : Nat) : Int)) := by unfold Hid; rw [hA, hB]; exact bit_of u j
      have hc2 : u / 2 ^ j % 2 < 2 := Nat.mod_lt _ (by decide)
      have HX : Hid _ := half_bit u j
      have HSt : Hid _ := bit_step (u / 2 ^ (j + 1)) v (u / 2 ^ j % 2) hv hc2
      obtain ⟨d0, d1⟩ := hf.dg_range u A
      rw [e1]
      go_wp2_with (go_at_call 41; fail)
      refine (radd_any ar ar cap cap R R wr sR sR fR fR).mono ?_
      rintro e w2 ⟨a2, c2, rfl, ho2, hb2⟩
      have c1 : w2.cell? ⟨ba, oa + A, none⟩ = some (.int .i64 (hf.dg u A)) := (hb2.cell (p := ⟨ba, oa + A, none⟩) (Nat.lt_of_lt_of_le hba hbel.size)).trans c1
      obtain ⟨c, hc⟩ : ∃ c, c = u / 2 ^ j % 2 := ⟨_, rfl⟩
      rw [← hc] at HBits HSt HX hc2
      have HC : Hid _ := hc
      clear hc
      have HA : Hid _ := hA
      have hj16 : j < 16 * l := by omega
      obtain ⟨P2, hP2⟩ : ∃ P2 : Nat, P2 = 2 ^ B := ⟨_, rfl⟩
      have HP2 : Hid ((P2 : Int) = 2 ^ (j % 16)) := by unfold Hid; rw [hP2, hB, Int.natCast_pow]; rfl
      have fP : (2 : Int) ^ B = (P2 : Int) := by rw [hP2, Int.natCast_pow]; rfl
      have P2b : P2 ≤ 32768 := by rw [hP2]; exact Nat.le_trans (Nat.pow_le_pow_right (by decide) (show B ≤ 15 by omega)) (by decide)
      have P2p : 0 < P2 := by rw [hP2]; exact Nat.pow_pos (by decide)
      rw [fP] at HBits
      clear hA hB hP2
      obtain ⟨x, hx⟩ : ∃ x : Int, x = hf.dg (u : Int) A := ⟨_, rfl⟩
      rw [← hx] at d0 d1 HBits c1
      clear hx hsg
      rcases Nat.eq_zero_or_pos c with h0 | h0
      · subst h0
        have fB : (x / (P2 : Int)).tmod 2 = 0 := by rw [Int.tmod_eq_emod_of_nonneg (Int.ediv_nonneg d0 (by omega))]; exact HBits.out
        go_wp2_with (go_at_call 25; fail)
        have sr2 := Own.sl ho2
        have sb2 := (HB.out.below hbel).below hb2
        have bel2 := hbel.trans (hb2.mono hbel.size)
        have hq2 := Own.below HO.out hb2
        have fR2 : hf.nlen (R + R) ≤ 1000000000 := few2 hRv hlv (by omega)
        have HQ2 : Hid _ := hq2
        have HR2 : Hid (R + R = u / 2 ^ (j + 1) % v + u / 2 ^ (j + 1) % v + 0) := by unfold Hid; first | (rw [← HR.out]; done) | (rw [← HR.out]; rfl)
        by_cases hge : v ≤ R + R
        · obtain ⟨k, hk, hk0⟩ : ∃ k, k = cmpI ((R + R : Nat) : Int) (v : Int) ∧ 0 ≤ k := ⟨_, rfl, by unfold cmpI; rw [if_neg (by omega)]; split <;> decide⟩
          have HK : Hid _ := hk.symm
          clear hk hq2
          have hwsz := bel2.size
          refine (rcmp_any a2 b c2 cb (R + R) v w2 sr2 sb2).mono ?_
          rw [HK.out]
          rintro e w5 ⟨rfl, hb5⟩
          have sr5 := sr2.below hb5
          have sb5 := sb2.below hb5
          have hq5 := Own.below HQ2.out hb5
          have bel5 := bel2.trans (hb5.mono bel2.size)
          have HQ5 : Hid _ := hq5
          clear hq5
          go_wp2_with (go_at_call 43; fail)
          refine (rsub_any a2 b c2 cb (R + R) v w5 sr5 sb5 fR2 fv hge).mono ?_
          rintro e w6 ⟨a6, c6, rfl, ho6, hb6⟩
          have hq6 := Own.below HQ5.out hb6
          have bel6 := bel5.trans (hb6.mono bel5.size)
          have c3 : w6.cell? ⟨w.heap.size, A, none⟩ = some (.int .i64 (hf.dg ((u / 2 ^ (j + 1) / v * 2 ^ (j + 1) : Nat) : Int) A)) := Own.cell hq6 A _ (hf.dcells_at _ _ _ hAl)
          have c4 : w6.frozen? ⟨w.heap.size, A, none⟩ = false := Own.free hq6 A hAl
          obtain ⟨g0, g1⟩ := hf.dg_range ((u / 2 ^ (j + 1) / v * 2 ^ (j + 1) : Nat) : Int) A
          have HN : Hid _ := bitw_more (P := (P2 : Int)) hj16 hv (by omega) HX.out HR2.out hge HA.out HP2.out hq6 ho6 (Nat.lt_of_lt_of_le (seg_of_own HQ5.out).2.1 (Nat.le_refl _)) bel5.size (Nat.le_refl _) bel6
          obtain ⟨dq, hdq⟩ : ∃ dq : Int, dq = hf.dg ((u / 2 ^ (j + 1) / v * 2 ^ (j + 1) : Nat) : Int) A := ⟨_, rfl⟩
          rw [← hdq] at c3 g0 g1 HN
          clear hq6 ho6 hdq
          go_wp2
          go_roundw
          case rel => exact HN.out
          case measure => simp [intOf]
        · obtain ⟨k, hk, hk0⟩ : ∃ k, k = cmpI ((R + R : Nat) : Int) (v : Int) ∧ k < 0 := ⟨_, rfl, by unfold cmpI; rw [if_pos (by omega)]; decide⟩
          have HK : Hid _ := hk.symm
          clear hk hq2
          refine (rcmp_any a2 b c2 cb (R + R) v w2 sr2 sb2).mono ?_
          rw [HK.out]
          rintro e w5 ⟨rfl, hb5⟩
          have hq5 := Own.below HQ2.out hb5
          have bel5 := bel2.trans (hb5.mono bel2.size)
          have HN : Hid _ := bitw_less (by omega) hv (by omega) HX.out HR2.out hge hq5 (Own.below (Own.mono ho2 (Nat.le_trans hbel.size (Nat.le_refl _))) hb5) bel5
          clear hq5
          go_wp2
          go_roundw
          case rel => exact HN.out
          case measure => simp [intOf]
      · obtain rfl : c = 1 := by omega
        have fB : (x / (P2 : Int)).tmod 2 = 1 := by rw [Int.tmod_eq_emod_of_nonneg (Int.ediv_nonneg d0 (by omega))]; exact HBits.out
        go_wp2_with (go_at_call 41; fail)
        refine (add1 a2 c2 (R + R) w2.heap.size _ ((Own.sl ho2).below ((Below.refl _ _).alloc (Nat.le_refl _) _)) (few2 hRv hlv (by omega)) (new_one w2 1 3)).mono ?_
        rintro e w4 ⟨a4, c4', rfl, ho4, hb4⟩
        have hb4x : Below wr.heap.size wr w4 := (hb2.alloc hb2.size _).trans (hb4.mono (by have := hb2.size; simp; omega))
        go_wp2_with (go_at_call 25; fail)
        have sr2 := Own.sl ho4
        have sb2 := (HB.out.below hbel).below hb4x
        have bel2 := hbel.trans (hb4x.mono hbel.size)
        have hq2 := Own.below HO.out hb4x
        have fR2 : hf.nlen (R + R + 1) ≤ 1000000000 := few2 hRv hlv (by omega)
        have HQ2 : Hid _ := hq2
        have HR2 : Hid (R + R + 1 = u / 2 ^ (j + 1) % v + u / 2 ^ (j + 1) % v + 1) := by unfold Hid; first | (rw [← HR.out]; done) | (rw [← HR.out]; rfl)
        by_cases hge : v ≤ R + R + 1
        · obtain ⟨k, hk, hk0⟩ : ∃ k, k = cmpI ((R + R + 1 : Nat) : Int) (v : Int) ∧ 0 ≤ k := ⟨_, rfl, by unfold cmpI; rw [if_neg (by omega)]; split <;> decide⟩
          have HK : Hid _ := hk.symm
          clear hk hq2
          have hwsz := bel2.size
          refine (rcmp_any a4 b c4' cb (R + R + 1) v w4 sr2 sb2).mono ?_
          rw [HK.out]
          rintro e w5 ⟨rfl, hb5⟩
          have sr5 := sr2.below hb5
          have sb5 := sb2.below hb5
          have hq5 := Own.below HQ2.out hb5
          have bel5 := bel2.trans (hb5.mono bel2.size)
          have HQ5 : Hid _ := hq5
          clear hq5
          go_wp2_with (go_at_call 43; fail)
          refine (rsub_any a4 b c4' cb (R + R + 1) v w5 sr5 sb5 fR2 fv hge).mono ?_
          rintro e w6 ⟨a6, c6, rfl, ho6, hb6⟩
          have hq6 := Own.below HQ5.out hb6
          have bel6 := bel5.trans (hb6.mono bel5.size)
          have c3 : w6.cell? ⟨w.heap.size, A, none⟩ = some (.int .i64 (hf.dg ((u / 2 ^ (j + 1) / v * 2 ^ (j + 1) : Nat) : Int) A)) := Own.cell hq6 A _ (hf.dcells_at _ _ _ hAl)
          have c4 : w6.frozen? ⟨w.heap.size, A, none⟩ = false := Own.free hq6 A hAl
          obtain ⟨g0, g1⟩ := hf.dg_range ((u / 2 ^ (j + 1) / v * 2 ^ (j + 1) : Nat) : Int) A
          have HN : Hid _ := bitw_more (P := (P2 : Int)) hj16 hv (by omega) HX.out HR2.out hge HA.out HP2.out hq6 ho6 (Nat.lt_of_lt_of_le (seg_of_own HQ5.out).2.1 (Nat.le_refl _)) bel5.size (Nat.le_refl _) bel6
          obtain ⟨dq, hdq⟩ : ∃ dq : Int, dq = hf.dg ((u / 2 ^ (j + 1) / v * 2 ^ (j + 1) : Nat) : Int) A := ⟨_, rfl⟩
          rw [← hdq] at c3 g0 g1 HN
          clear hq6 ho6 hdq
          go_wp2
          go_roundw
          case rel => exact HN.out
          case measure => simp [intOf]
        · obtain ⟨k, hk, hk0⟩ : ∃ k, k = cmpI ((R + R + 1 : Nat) : Int) (v : Int) ∧ k < 0 := ⟨_, rfl, by unfold cmpI; rw [if_pos (by omega)]; decide⟩
          have HK : Hid _ := hk.symm
          clear hk hq2
          refine (rcmp_any a4 b c4' cb (R + R + 1) v w4 sr2 sb2).mono ?_
          rw [HK.out]
          rintro e w5 ⟨rfl, hb5⟩
          have hq5 := Own.below HQ2.out hb5
          have bel5 := bel2.trans (hb5.mono bel2.size)
          have HN : Hid _ := bitw_less (by omega) hv (by omega) HX.out HR2.out hge hq5 (Own.below (Own.mono ho4 (Nat.le_trans hbel.size (Nat.le_trans hb2.size (by simp)))) hb5) bel5
          clear hq5
          go_wp2
          go_roundw
          case rel => exact HN.out
          case measure => simp [intOf]
theorem rdivMod_any (a b : Option Addr) (ca cb u v : Nat) (w : World) (ha : Sl w a (hf.nlen u) ca (hf.dcells (hf.nlen u) (u : Int))) (hb : Sl w b (hf.nlen v) cb (hf.dcells (hf.nlen v) (v : Int))) (hlu : hf.nlen u ≤ 10000000) (hlv : hf.nlen v ≤ 10000000) (hv : 0 < v) :
    Calls Tryd.prog 52 #[.slice a (hf.nlen u) ca, .slice b (hf.nlen v) cb] w fun e w' => ∃ aq cq ar cr, e = .returned (.tuple #[.slice aq (hf.nlen (u / v)) cq, .slice ar (hf.nlen (u % v)) cr]) ∧
      Sl w' aq (hf.nlen (u / v)) cq (hf.dcells (hf.nlen (u / v)) ((u / v : Nat) : Int)) ∧ Sl w' ar (hf.nlen (u % v)) cr (hf.dcells (hf.nlen (u % v)) ((u % v : Nat) : Int)) ∧ Below w.heap.size w w' := by
  refine (rdivMod_own a b ca cb u v w ha hb hlu hlv hv).mono ?_
  rintro e w' ⟨aq, cq, ar, cr, he, hq, hr, hbel⟩
  exact ⟨aq, cq, ar, cr, he, Own.sl hq, Own.sl hr, hbel⟩
end Go.Proofs.YtpkcjgkgabemoaaDoor

namespace Go.Proofs.YtpkcjgkgabemoaaDoor
open Go.RowKit
set_option linter.unusedVariables false

def GotHB (w : World) (q r : Nat) (e : Ending) (w' : World) : Prop := ∃ aq lq cq ar lr cr, e = .returned (.tuple #[.slice aq lq cq, .slice ar lr cr]) ∧ HD w' aq lq cq q ∧ HD w' ar lr cr r ∧ Far w.heap.size aq lq ∧ Far w.heap.size ar lr ∧ Below w.heap.size w w'
theorem hfDiv (a b : Option Addr) (la lb ca cb u v : Nat) (w : World) (ha : HD w a la ca u) (hb : HD w b lb cb v) (fu : hf.nlen u ≤ 1000000) (fv : hf.nlen v ≤ 1000000) (hv : 0 < v) : Calls Tryd.prog 52 #[.slice a la ca, .slice b lb cb] w (GotHB w (u / v) (u % v)) := by
  obtain ⟨ha, rfl⟩ := ha
  obtain ⟨hb, rfl⟩ := hb
  refine (rdivMod_own a b ca cb u v w ha hb (by omega) (by omega) hv).mono ?_
  rintro e w' ⟨aq, cq, ar, cr, he, hq, hr, hbel⟩
  exact ⟨aq, _, cq, ar, _, cr, he, ⟨Own.sl hq, rfl⟩, ⟨Own.sl hr, rfl⟩, Own.far hq, Own.far hr, hbel⟩

set_option maxRecDepth 100000 in
set_option maxHeartbeats 1000000 in
theorem rwLong (x : Int) (w : World) (h1 : -9223372036854775808 ≤ x) (h2 : x ≤ 9223372036854775807) : Calls Tryd.prog 31 #[.int .i64 x] w (GotR w (fun _ => True) x) := by
  by_cases hx : x = 0
  · subst hx
    go_enter Tryd.func31, Tryd.ntmps31
    go_wp2
    exact bodyPost_ret (v := .agg #[.int .i64 0, .slice none 0 0]) (by simp [results, Tryd.results31, go_sem, *]) rfl ⟨0, none, 0, 0, rfl, rn_zero _ 0, fun _ _ _ => Or.inl rfl, (Below.refl _ _).alloc (Nat.le_refl _) _⟩
  have B0 : Below w.heap.size w (w.alloc (.cells #[.int .i64 0, .slice none 0 0] 30)) := (Below.refl _ _).alloc (Nat.le_refl _) _
  have x0 := bx_new w (.int .i64 0) (.slice none 0 0) 30
  obtain ⟨u, hu⟩ : ∃ u, u = x.natAbs := ⟨_, rfl⟩
  have hul : u < 18446744073709551616 := by omega
  have ho := own_two (w.alloc (.cells #[.int .i64 0, .slice none 0 0] 30)) u hul
  have hb1 : Below (w.alloc (.cells #[.int .i64 0, .slice none 0 0] 30)).heap.size (w.alloc (.cells #[.int .i64 0, .slice none 0 0] 30)) ((w.alloc (.cells #[.int .i64 0, .slice none 0 0] 30)).alloc (.cells #[.int .u32 ((u : Int) % 4294967296), .int .u32 ((u : Int) / 4294967296)] 82)) := (Below.refl _ _).alloc (Nat.le_refl _) _
  have hni : NI _ _ 2 2 u := ⟨Own.sl ho, by omega, by decide⟩
  rw [World.size_alloc] at hni
  have x1 := x0.on hb1
  have E2 : (u : Int) / 4294967296 % 4294967296 = (u : Int) / 4294967296 := by omega
  by_cases hn : x < 0
  · have E : IntKind.u64.wrap (-IntKind.u64.wrap x) = (u : Int) := by rw [IntKind.wrap_u64, IntKind.wrap_u64]; omega
    have HR : Hid ((-1 : Int) = x.sign) := (sign_neg hn).symm
    have HU : Hid _ := hu
    clear hu ho
    go_enter Tryd.func31, Tryd.ntmps31
    go_wp2_with (go_at_call 39; fail)
    refine (hfOf _ 2 2 u _ hni).mono ?_
    rintro e w2 ⟨d, l, c, rfl, hd, fd, b2⟩
    obtain ⟨k0, k1, k2, k3⟩ := x1.on b2
    go_wp2
    exact bodyPost_ret (v := .agg #[.int .i64 (-1), .slice d l c]) (by simp [results, Tryd.results31, go_sem, *]) rfl (endR _ (by omega) (also (also B0 hb1) b2) ⟨HU.out ▸ hd, HR.out⟩ (fd _ (by simp; omega)) (fun j hj _ => fd j (by simp; omega)) _ _)
  · obtain ⟨y, rfl⟩ := Int.eq_ofNat_of_zero_le (show 0 ≤ x by omega)
    obtain rfl : u = y := by omega
    have HR : Hid ((1 : Int) = ((u : Nat) : Int).sign) := (sign_pos (by omega)).symm
    have HU : Hid (u = ((u : Nat) : Int).natAbs) := hu
    clear hu ho
    go_enter Tryd.func31, Tryd.ntmps31
    go_wp2_with (go_at_call 39; fail)
    refine (hfOf _ 2 2 u _ hni).mono ?_
    rintro e w2 ⟨d, l, c, rfl, hd, fd, b2⟩
    obtain ⟨k0, k1, k2, k3⟩ := x1.on b2
    go_wp2
    exact bodyPost_ret (v := .agg #[.int .i64 (1), .slice d l c]) (by simp [results, Tryd.results31, go_sem, *]) rfl (endR _ (by omega) (also (also B0 hb1) b2) ⟨HU.out ▸ hd, HR.out⟩ (fd _ (by simp; omega)) (fun j hj _ => fd j (by simp; omega)) _ _)

theorem one_few : hf.nlen (1 : Int).natAbs ≤ 1000000 := Nat.le_trans (hf.nlen_le (n := 1) (by decide)) (by decide)
theorem sg_mul (x y : Int) : x.sign * y.sign = (x * y).sign := (Int.sign_mul x y).symm
theorem keepC3 {p q r : Nat} {v1 v2 v3 v4 v5 v6 : Value} {w0 w w' : World} (h : w.cell? ⟨p, 0, none⟩ = some v1 ∧ w.cell? ⟨p, 1, none⟩ = some v2 ∧ w.cell? ⟨q, 0, none⟩ = some v3 ∧ w.cell? ⟨q, 1, none⟩ = some v4 ∧ w.cell? ⟨r, 0, none⟩ = some v5 ∧ w.cell? ⟨r, 1, none⟩ = some v6 ∧ Below w0.heap.size w0 w) (hb : Below w.heap.size w w') :
    w'.cell? ⟨p, 0, none⟩ = some v1 ∧ w'.cell? ⟨p, 1, none⟩ = some v2 ∧ w'.cell? ⟨q, 0, none⟩ = some v3 ∧ w'.cell? ⟨q, 1, none⟩ = some v4 ∧ w'.cell? ⟨r, 0, none⟩ = some v5 ∧ w'.cell? ⟨r, 1, none⟩ = some v6 ∧ Below w0.heap.size w0 w' :=
  ⟨cell_on hb h.1, cell_on hb h.2.1, cell_on hb h.2.2.1, cell_on hb h.2.2.2.1, cell_on hb h.2.2.2.2.1, cell_on hb h.2.2.2.2.2.1, also h.2.2.2.2.2.2 hb⟩
theorem keepP3 {p q r k : Nat} {v1 v2 v3 v4 v5 v6 : Value} {w0 w : World} (h : w.cell? ⟨p, 0, none⟩ = some v1 ∧ w.cell? ⟨p, 1, none⟩ = some v2 ∧ w.cell? ⟨q, 0, none⟩ = some v3 ∧ w.cell? ⟨q, 1, none⟩ = some v4 ∧ w.cell? ⟨r, 0, none⟩ = some v5 ∧ w.cell? ⟨r, 1, none⟩ = some v6 ∧ Below w0.heap.size w0 w) (hp : k ≠ p) (hq : k ≠ q) (hr : k ≠ r) (hB : w0.heap.size ≤ k) (u v : Value) :
    ((w.setCell ⟨k, 0, none⟩ u).setCell ⟨k, 1, none⟩ v).cell? ⟨p, 0, none⟩ = some v1 ∧ ((w.setCell ⟨k, 0, none⟩ u).setCell ⟨k, 1, none⟩ v).cell? ⟨p, 1, none⟩ = some v2 ∧ ((w.setCell ⟨k, 0, none⟩ u).setCell ⟨k, 1, none⟩ v).cell? ⟨q, 0, none⟩ = some v3 ∧ ((w.setCell ⟨k, 0, none⟩ u).setCell ⟨k, 1, none⟩ v).cell? ⟨q, 1, none⟩ = some v4 ∧ ((w.setCell ⟨k, 0, none⟩ u).setCell ⟨k, 1, none⟩ v).cell? ⟨r, 0, none⟩ = some v5 ∧ ((w.setCell ⟨k, 0, none⟩ u).setCell ⟨k, 1, none⟩ v).cell? ⟨r, 1, none⟩ = some v6 ∧ Below w0.heap.size w0 ((w.setCell ⟨k, 0, none⟩ u).setCell ⟨k, 1, none⟩ v) := by
  have hne : ∀ i j b : Nat, k ≠ b → (⟨k, i, none⟩ : Addr) ≠ ⟨b, j, none⟩ := fun i j b hb e => by simp only [Addr.mk.injEq] at e; omega
  have g : ∀ (b j : Nat) (x : Value), k ≠ b → w.cell? ⟨b, j, none⟩ = some x → ((w.setCell ⟨k, 0, none⟩ u).setCell ⟨k, 1, none⟩ v).cell? ⟨b, j, none⟩ = some x := fun b j x hb hc => by
    rw [World.cell?_setCell_other _ _ _ _ (hne _ _ _ hb), World.cell?_setCell_other _ _ _ _ (hne _ _ _ hb)]; exact hc
  exact ⟨g _ _ _ hp h.1, g _ _ _ hp h.2.1, g _ _ _ hq h.2.2.1, g _ _ _ hq h.2.2.2.1, g _ _ _ hr h.2.2.2.2.1, g _ _ _ hr h.2.2.2.2.2.1, below_put2 h.2.2.2.2.2.2 hB u v⟩
def GotRF (w : World) (q r : Int) (e : Ending) (w' : World) : Prop := ∃ (s1 : Int) (d1 : Option Addr) (l1 c1 : Nat) (s2 : Int) (d2 : Option Addr) (l2 c2 : Nat), e = .returned (.tuple #[.agg #[.int .i64 s1, .slice d1 l1 c1], .agg #[.int .i64 s2, .slice d2 l2 c2]]) ∧ RN w' s1 d1 l1 c1 q ∧ RN w' s2 d2 l2 c2 r ∧ Below w.heap.size w w'
theorem endRF {w w6 : World} {s1 s2 : Int} {d1 d2 : Option Addr} {l1 c1 l2 c2 : Nat} {Q R : Int} (hq : RN w6 s1 d1 l1 c1 Q) (hr : RN w6 s2 d2 l2 c2 R) (B : Below w.heap.size w w6) (a1 : NA (w.heap.size + 1 + 1) d1 l1) (a2 : NA (w.heap.size + 1 + 1 + 1) d1 l1) (a3 : NA (w.heap.size + 1 + 1) d2 l2) (a4 : NA (w.heap.size + 1 + 1 + 1) d2 l2) (u v u' v' : Value) :
    GotRF w Q R (.returned (.tuple #[.agg #[.int .i64 s1, .slice d1 l1 c1], .agg #[.int .i64 s2, .slice d2 l2 c2]])) ((((w6.setCell ⟨w.heap.size + 1 + 1, 0, none⟩ u).setCell ⟨w.heap.size + 1 + 1, 1, none⟩ v).setCell ⟨w.heap.size + 1 + 1 + 1, 0, none⟩ u').setCell ⟨w.heap.size + 1 + 1 + 1, 1, none⟩ v') :=
  ⟨s1, d1, l1, c1, s2, d2, l2, c2, rfl, (hq.put2 a1 u v).put2 a2 u' v', (hr.put2 a3 u v).put2 a4 u' v', below_put2 (below_put2 B (by omega) u v) (by omega) u' v'⟩
set_option maxRecDepth 100000 in
set_option maxHeartbeats 10000000 in
theorem rwFloor (s t : Int) (d g : Option Addr) (l c h k : Nat) (x y : Int) (w : World) (hx : RN w s d l c x) (hy : RN w t g h k y) (fx : hf.nlen x.natAbs ≤ 1000000) (fy : hf.nlen y.natAbs ≤ 1000000) (h0 : y ≠ 0) (fq0 : hf.nlen (x.sign * y.sign * ((x.natAbs / y.natAbs : Nat) : Int)).natAbs ≤ 1000000) (fq : hf.nlen (flQ x y).natAbs ≤ 1000000) (fp : hf.nlen (flQ x y * y).natAbs ≤ 1000000)
    (Q R : Int) (hQ0 : Q = flQ x y) (hR0 : R = flR x y) : Calls Tryd.prog 23 #[.agg #[.int .i64 s, .slice d l c], .agg #[.int .i64 t, .slice g h k]] w (GotRF w Q R) := by
  obtain ⟨W, hW, B0, xa, xb, x4, x5, hs⟩ := box3 w (.int .i64 s) (.slice d l c) (.int .i64 t) (.slice g h k) (.int .i64 0) (.slice none 0 0) (.int .i64 0) (.slice none 0 0) 30 30 30 30
  have es : -1 ≤ s ∧ s ≤ 1 := by rw [hx.sg]; rcases sign_cases x with ⟨_, e⟩ | ⟨_, e⟩ | ⟨_, e⟩ <;> omega
  have et : t = -1 ∨ t = 0 ∨ t = 1 := by rw [hy.sg]; rcases sign_cases y with ⟨_, e⟩ | ⟨_, e⟩ | ⟨_, e⟩ <;> omega
  have ew' : wrap64 (s * t) = s * t := by
    unfold wrap64
    rcases et with e | e | e <;> rw [e] <;> omega
  have hst : s * t = x.sign * y.sign := by rw [hx.sg, hy.sg]
  obtain ⟨sd, hsd⟩ : ∃ sd, sd = s * t := ⟨_, rfl⟩
  rw [← hsd] at hst ew'
  have EW : wrap64 (s * t) = sd := by rw [hsd] at ew' ⊢; exact ew'
  have hv0 : 0 < y.natAbs := by omega
  obtain ⟨q0, hq0⟩ : ∃ q0 : Nat, q0 = x.natAbs / y.natAbs := ⟨_, rfl⟩
  obtain ⟨r0, hr0⟩ : ∃ r0 : Nat, r0 = x.natAbs % y.natAbs := ⟨_, rfl⟩
  obtain ⟨z0, hz0⟩ : ∃ z0, z0 = x.sign * y.sign * ((x.natAbs / y.natAbs : Nat) : Int) := ⟨_, rfl⟩
  have HD0 := hfDiv d g l h c k _ _ W (hx.hd.below B0) (hy.hd.below B0) fx fy hv0
  rw [← hq0, ← hr0] at HD0
  have HDD : Hid _ := HD0
  have hzq : q0 = z0.natAbs := by
    rw [hz0, ← hq0, Int.natAbs_mul, sg_mul]
    rcases sign_cases (x * y) with ⟨_, e⟩ | ⟨e', e⟩ | ⟨_, e⟩
    · rw [e]; simp
    · have : x = 0 := by rcases Int.mul_eq_zero.1 e' with z | z; exact z; exact absurd z h0
      rw [hq0, this]; simp
    · rw [e]; simp
  have hzs : z0 ≠ 0 → sd = z0.sign := fun hz => by
    rw [hst]
    have hq1 : q0 ≠ 0 := by rw [hzq]; omega
    rw [hz0, ← hq0, Int.sign_mul, sg_mul, Int.sign_sign, Int.sign_natCast_of_ne_zero hq1, Int.mul_one]
  have HZQ : Hid _ := hzq
  have HZS : Hid _ := hzs
  have HQ : Hid (Q = z0 - (if sd < 0 ∧ r0 ≠ 0 then 1 else 0)) := by
    unfold Hid
    rw [hQ0]
    unfold flQ
    rw [hz0, hst, hr0]
  have HR : Hid (R = x - Q * y) := by unfold Hid; rw [hR0, hQ0]; rfl
  have fq0' : hf.nlen z0.natAbs ≤ 1000000 := by rw [hz0]; exact fq0
  rw [← hQ0] at fq fp
  have n2 : NA (w.heap.size + 2) d l := hx.hd.sl.na (by omega)
  have n3 : NA (w.heap.size + 3) d l := hx.hd.sl.na (by omega)
  have n4 : NA (w.heap.size + 2) g h := hy.hd.sl.na (by omega)
  have n5 : NA (w.heap.size + 3) g h := hy.hd.sl.na (by omega)
  have hxW := hx.below B0
  have hyW := hy.below B0
  clear HD0 hzq hzs hq0 hr0 hz0 hst hsd es et ew' fq0 hQ0 hR0
  go_enter Tryd.func23, Tryd.ntmps23
  go_wp2_with (go_at_call 52; fail)
  rw [← hW]
  clear hW
  refine (show Calls _ _ _ _ (GotHB W q0 r0) from HDD.out).mono ?_
  rintro e w1 ⟨aq, lq, cq, ar, lr, cr, rfl, hq, hr, fq1, fr1, b1⟩
  obtain ⟨k0, k1, k2, k3⟩ := xa.on b1
  obtain ⟨j0, j1, j2, j3⟩ := xb.on b1
  go_wp2_with (go_at_call 42; fail)
  refine (rwMake sd aq lq cq q0 z0 w1 hq HZQ.out HZS.out).mono ?_
  rintro e w2 ⟨s2, a2, l2, c2, rfl, h2, f2, b2⟩
  have x8 := bx_new w2 (.int .i64 s2) (.slice a2 l2 c2) 30
  have b3 : Below w2.heap.size w2 (w2.alloc (.cells #[.int .i64 s2, .slice a2 l2 c2] 30)) := (Below.refl _ _).alloc (Nat.le_refl _) _
  have g8 : w.heap.size + 1 + 1 + 1 < w2.heap.size := Nat.lt_of_lt_of_le hs (Nat.le_trans b1.size b2.size)
  have H2 := h2.below b3
  have BW := also (also (also B0 b1) b2) b3
  have XA := ((xa.on b1).on b2).on b3
  have XB := ((xb.on b1).on b2).on b3
  have X4 := ((x4.on b1).on b2).on b3
  have X5 := ((x5.on b1).on b2).on b3
  have hxB := ((hxW.below b1).below b2).below b3
  have hyB := ((hyW.below b1).below b2).below b3
  have F2 : Far W.heap.size a2 l2 := fun j hj => f2 j (Nat.lt_of_lt_of_le hj b1.size) (fq1 j hj)
  have n82 : NA w2.heap.size a2 l2 := h2.hd.sl.na (Nat.le_refl _)
  have nx8 : NA w2.heap.size d l := ((hxW.below b1).below b2).hd.sl.na (Nat.le_refl _)
  have ny8 : NA w2.heap.size g h := ((hyW.below b1).below b2).hd.sl.na (Nat.le_refl _)
  obtain ⟨k0, k1, k2, k3⟩ := XA
  obtain ⟨j0, j1, j2, j3⟩ := XB
  have XA : Bx _ _ _ _ := ⟨k0, k1, k2, k3⟩
  have XB : Bx _ _ _ _ := ⟨j0, j1, j2, j3⟩
  have hlr := hr.pos
  clear x4 x5 xa xb hq hr h2 HDD HZQ HZS hxW hyW
  by_cases hadj : sd < 0 ∧ r0 ≠ 0
  · obtain ⟨hsn, hrn⟩ := hadj
    have HQ1 : Hid (Q = z0 - 1) := by have := HQ.out; rwa [if_pos ⟨hsn, hrn⟩] at this
    have hlr0 : (0 : Int) < lr := by omega
    clear HQ hlr
    go_wp2
    generalize w2.alloc (.cells #[.int .i64 s2, .slice a2 l2 c2] 30) = W2 at x8 H2 BW XA XB X4 X5 hxB hyB b3 k0 k1 k2 k3 j0 j1 j2 j3 ⊢
    generalize w2.heap.size = b8 at x8 g8 nx8 ny8 n82 ⊢
    have x8' := x8.drew
    obtain ⟨i0, i1, i2, i3⟩ := x8'
    have x8' : Bx _ _ _ _ := ⟨i0, i1, i2, i3⟩
    have d0 : Below W2.heap.size W2 W2.drew := (Below.refl _ _).drew
    go_region_with (first
      | (go_at_call 31; refine (rwLong 1 _ (by decide) (by decide)).mono ?_; rintro e w5 ⟨s5, d5, l5, c5, rfl, h5, f5, b5⟩; obtain ⟨i0, i1, i2, i3⟩ := x8'.on b5)
      | (go_at_call 15; refine (rwSub s2 s5 a2 d5 l2 c2 l5 c5 z0 1 (z0 - 1) _ ((H2.below d0).below b5) h5 fq0' one_few rfl).mono ?_; rintro e w6 ⟨s6, d6, l6, c6, rfl, h6, f6, b6⟩; obtain ⟨i0, i1, i2, i3⟩ := (x8'.on b5).on b6))
    · skip
      have F6 : Far W.heap.size d6 l6 := fun j hj => f6 j (Nat.lt_of_lt_of_le (Nat.lt_of_lt_of_le hj (Nat.le_trans (Nat.le_trans b1.size b2.size) b3.size)) b5.size) ⟨F2 j hj, f5 j (Nat.lt_of_lt_of_le hj (Nat.le_trans (Nat.le_trans b1.size b2.size) b3.size)) trivial⟩
      have n8 : NA b8 d6 l6 := f6 b8 (Nat.lt_of_lt_of_le (bx_lt x8) b5.size) ⟨n82, f5 b8 (bx_lt x8') trivial⟩
      have e8 : Bx ((w6.setCell ⟨b8, 0, none⟩ (.int .i64 s6)).setCell ⟨b8, 1, none⟩ (.slice d6 l6 c6)) b8 (.int .i64 s6) (.slice d6 l6 c6) := ((x8'.on b5).on b6).set
      have eA := ((((XA.on d0).on b5).on b6).put (i := 0) (v := .int .i64 s6) (show b8 ≠ _ by omega)).put (i := 1) (v := .slice d6 l6 c6) (show b8 ≠ _ by omega)
      have eB := ((((XB.on d0).on b5).on b6).put (i := 0) (v := .int .i64 s6) (show b8 ≠ _ by omega)).put (i := 1) (v := .slice d6 l6 c6) (show b8 ≠ _ by omega)
      have e4 := ((((X4.on d0).on b5).on b6).put (i := 0) (v := .int .i64 s6) (show b8 ≠ _ by omega)).put (i := 1) (v := .slice d6 l6 c6) (show b8 ≠ _ by omega)
      have e5 := ((((X5.on d0).on b5).on b6).put (i := 0) (v := .int .i64 s6) (show b8 ≠ _ by omega)).put (i := 1) (v := .slice d6 l6 c6) (show b8 ≠ _ by omega)
      have ex := (((hxB.below d0).below b5).below b6).put2 nx8 (.int .i64 s6) (.slice d6 l6 c6)
      have ey := (((hyB.below d0).below b5).below b6).put2 ny8 (.int .i64 s6) (.slice d6 l6 c6)
      have eq := h6.put2 n8 (.int .i64 s6) (.slice d6 l6 c6)
      have eb := below_put2 (also (also (also BW d0) b5) b6) (show w.heap.size ≤ b8 by omega) (.int .i64 s6) (.slice d6 l6 c6)
      rw [← HQ1.out] at eq
      clear x8 x8' i0 i1 i2 i3 k0 k1 k2 k3 j0 j1 j2 j3 XA XB X4 X5 hxB hyB H2 BW F2 f6 f5 h5 h6 d0
      dsimp only [Exit.then]
      go_wp2
      generalize (w6.setCell ⟨b8, 0, none⟩ (.int .i64 s6)).setCell ⟨b8, 1, none⟩ (.slice d6 l6 c6) = WF at e8 eA eB e4 e5 ex ey eq eb ⊢
      have g2 : w.heap.size + 1 + 1 < b8 := by omega
      refine wp_region_held_drew (S := (fun w' => w'.cell? ⟨b8, 0, none⟩ = some (.int .i64 s6) ∧ w'.cell? ⟨b8, 1, none⟩ = some (.slice d6 l6 c6) ∧ w'.cell? ⟨w.heap.size, 0, none⟩ = some (.int .i64 s) ∧ w'.cell? ⟨w.heap.size, 1, none⟩ = some (.slice d l c) ∧ w'.cell? ⟨w.heap.size + 1, 0, none⟩ = some (.int .i64 t) ∧ w'.cell? ⟨w.heap.size + 1, 1, none⟩ = some (.slice g h k) ∧ Below w.heap.size w w')) (by kernel_rfl) ?_ (fun hHeld => ?_)
      · first | exact keepC3 hHeld b21 | exact keepC3 hHeld b20 | exact ⟨e8.c0, e8.c1, eA.c0, eA.c1, eB.c0, eB.c1, eb.drew⟩ | exact keepP3 hHeld (by omega) (by omega) (by omega) (by omega) _ _
      refine take_yes (i := 0) (v := ?vm0) rfl (by kernel_rfl) (by kernel_rfl) (by kernel_rfl) (fun _ _ _ h => h) (by rfl) (by assumption) ?hym0 ?restm0
      case hym0 => (intro w hSw; (try dsimp only at hSw); first | (go_simp; done) | (go_simp; with_reducible rfl))
      simp only [Act.put, List.setIfInBounds_toArray, List.set_cons_zero, List.set_cons_succ]
      refine take_yes (i := 1) (v := ?vm1) rfl (by kernel_rfl) (by kernel_rfl) (by kernel_rfl) (fun _ _ _ h => h) (by rfl) (by assumption) ?hym1 ?restm1
      case hym1 => (intro w hSw; (try dsimp only at hSw); first | (go_simp; done) | (go_simp; with_reducible rfl))
      simp only [Act.put, List.setIfInBounds_toArray, List.set_cons_zero, List.set_cons_succ]
      refine take_yes (i := 2) (v := ?vm2) rfl (by kernel_rfl) (by kernel_rfl) (by kernel_rfl) (fun _ _ _ h => h) (by rfl) (by assumption) ?hym2 ?restm2
      case hym2 => (intro w hSw; (try dsimp only at hSw); first | (go_simp; done) | (go_simp; with_reducible rfl))
      simp only [Act.put, List.setIfInBounds_toArray, List.set_cons_zero, List.set_cons_succ]
      refine take_yes (i := 3) (v := ?vm3) rfl (by kernel_rfl) (by kernel_rfl) (by kernel_rfl) (fun _ _ _ h => h) (by rfl) (by assumption) ?hym3 ?restm3
      case hym3 => (intro w hSw; (try dsimp only at hSw); first | (go_simp; done) | (go_simp; with_reducible rfl))
      simp only [Act.put, List.setIfInBounds_toArray, List.set_cons_zero, List.set_cons_succ]
      refine take_call (i := 4) rfl (by kernel_rfl) (fun K hK => ?_)
      go_simp
      (go_at_call 17; refine (rwMul s6 t d6 g l6 c6 h k Q y (Q * y) _ (eq.below ((Below.refl _ _).drew)) (ey.below ((Below.refl _ _).drew)) fq fy rfl).mono ?_; rintro e w20 ⟨s20, d20, l20, c20, rfl, h20, f20, b20⟩)
      refine hK.out _ _ ?_ (fun hHeld => ?_)
      · first | exact keepC3 hHeld b21 | exact keepC3 hHeld b20 | exact ⟨e8.c0, e8.c1, eA.c0, eA.c1, eB.c0, eB.c1, eb.drew⟩ | exact keepP3 hHeld (by omega) (by omega) (by omega) (by omega) _ _
      clear hK K
      refine take_call (i := 5) rfl (by kernel_rfl) (fun K hK => ?_)
      go_simp
      (go_at_call 15; refine (rwSub s s20 d d20 l c l20 c20 x (Q * y) R _ ((ex.below ((Below.refl _ _).drew)).below b20) h20 fx fp HR.out).mono ?_; rintro e w21 ⟨s21, d21, l21, c21, rfl, h21, f21, b21⟩)
      refine hK.out _ _ ?_ (fun hHeld => ?_)
      · first | exact keepC3 hHeld b21 | exact keepC3 hHeld b20 | exact ⟨e8.c0, e8.c1, eA.c0, eA.c1, eB.c0, eB.c1, eb.drew⟩ | exact keepP3 hHeld (by omega) (by omega) (by omega) (by omega) _ _
      clear hK K
      obtain ⟨k0, k1, k2, k3⟩ := (e4.drew.on b20).on b21
      refine take_call (i := 6) rfl (by kernel_rfl) (fun K hK => ?_)
      go_simp
      refine hK.out _ _ ?_ (fun hHeld => ?_)
      · first | exact keepC3 hHeld b21 | exact keepC3 hHeld b20 | exact ⟨e8.c0, e8.c1, eA.c0, eA.c1, eB.c0, eB.c1, eb.drew⟩ | exact keepP3 hHeld (by omega) (by omega) (by omega) (by omega) _ _
      clear hK K
      obtain ⟨j0, j1, j2, j3⟩ : Bx ((w21.setCell ⟨w.heap.size + 1 + 1, 0, none⟩ (.int .i64 s6)).setCell ⟨w.heap.size + 1 + 1, 1, none⟩ (.slice d6 l6 c6)) (w.heap.size + 1 + 1 + 1) (.int .i64 0) (.slice none 0 0) := (((e5.drew.on b20).on b21).put (by omega)).put (by omega)
      refine take_call (i := 7) rfl (by kernel_rfl) (fun K hK => ?_)
      go_simp
      refine hK.out _ _ ?_ (fun hHeld => ?_)
      · first | exact keepC3 hHeld b21 | exact keepC3 hHeld b20 | exact ⟨e8.c0, e8.c1, eA.c0, eA.c1, eB.c0, eB.c1, eb.drew⟩ | exact keepP3 hHeld (by omega) (by omega) (by omega) (by omega) _ _
      clear hK K
      refine wpAnyH_done (by kernel_rfl) ?_ _
      go_wp2
      have z2 : WF.heap.size ≤ w20.heap.size := b20.size
      exact bodyPost_ret (v := .tuple #[.agg #[.int .i64 s6, .slice d6 l6 c6], .agg #[.int .i64 s21, .slice d21 l21 c21]]) (by simp [results, Tryd.results23, go_sem, *]) rfl (endRF (((eq.below ((Below.refl _ _).drew)).below b20).below b21) h21 (also (also eb.drew b20) b21) (F6 _ (by omega)) (F6 _ (by omega)) (f21 _ (Nat.lt_of_lt_of_le (Nat.lt_trans g2 (bx_lt e8)) z2) ⟨n2, f20 _ (Nat.lt_trans g2 (bx_lt e8.drew)) trivial⟩) (f21 _ (Nat.lt_of_lt_of_le (Nat.lt_trans g8 (bx_lt e8)) z2) ⟨n3, f20 _ (Nat.lt_trans g8 (bx_lt e8.drew)) trivial⟩) _ _ _ _)
    · skip
      have F6 : Far W.heap.size d6 l6 := fun j hj => f6 j (Nat.lt_of_lt_of_le (Nat.lt_of_lt_of_le hj (Nat.le_trans (Nat.le_trans b1.size b2.size) b3.size)) b5.size) ⟨F2 j hj, f5 j (Nat.lt_of_lt_of_le hj (Nat.le_trans (Nat.le_trans b1.size b2.size) b3.size)) trivial⟩
      have n8 : NA b8 d6 l6 := f6 b8 (Nat.lt_of_lt_of_le (bx_lt x8) b5.size) ⟨n82, f5 b8 (bx_lt x8') trivial⟩
      have e8 : Bx ((w6.setCell ⟨b8, 0, none⟩ (.int .i64 s6)).setCell ⟨b8, 1, none⟩ (.slice d6 l6 c6)) b8 (.int .i64 s6) (.slice d6 l6 c6) := ((x8'.on b5).on b6).set
      have eA := ((((XA.on d0).on b5).on b6).put (i := 0) (v := .int .i64 s6) (show b8 ≠ _ by omega)).put (i := 1) (v := .slice d6 l6 c6) (show b8 ≠ _ by omega)
      have eB := ((((XB.on d0).on b5).on b6).put (i := 0) (v := .int .i64 s6) (show b8 ≠ _ by omega)).put (i := 1) (v := .slice d6 l6 c6) (show b8 ≠ _ by omega)
      have e4 := ((((X4.on d0).on b5).on b6).put (i := 0) (v := .int .i64 s6) (show b8 ≠ _ by omega)).put (i := 1) (v := .slice d6 l6 c6) (show b8 ≠ _ by omega)
      have e5 := ((((X5.on d0).on b5).on b6).put (i := 0) (v := .int .i64 s6) (show b8 ≠ _ by omega)).put (i := 1) (v := .slice d6 l6 c6) (show b8 ≠ _ by omega)
      have ex := (((hxB.below d0).below b5).below b6).put2 nx8 (.int .i64 s6) (.slice d6 l6 c6)
      have ey := (((hyB.below d0).below b5).below b6).put2 ny8 (.int .i64 s6) (.slice d6 l6 c6)
      have eq := h6.put2 n8 (.int .i64 s6) (.slice d6 l6 c6)
      have eb := below_put2 (also (also (also BW d0) b5) b6) (show w.heap.size ≤ b8 by omega) (.int .i64 s6) (.slice d6 l6 c6)
      rw [← HQ1.out] at eq
      clear x8 x8' i0 i1 i2 i3 k0 k1 k2 k3 j0 j1 j2 j3 XA XB X4 X5 hxB hyB H2 BW F2 f6 f5 h5 h6 d0
      dsimp only [Exit.then]
      go_wp2
      generalize (w6.setCell ⟨b8, 0, none⟩ (.int .i64 s6)).setCell ⟨b8, 1, none⟩ (.slice d6 l6 c6) = WF at e8 eA eB e4 e5 ex ey eq eb ⊢
      have g2 : w.heap.size + 1 + 1 < b8 := by omega
      refine wp_region_held_drew (S := (fun w' => w'.cell? ⟨b8, 0, none⟩ = some (.int .i64 s6) ∧ w'.cell? ⟨b8, 1, none⟩ = some (.slice d6 l6 c6) ∧ w'.cell? ⟨w.heap.size, 0, none⟩ = some (.int .i64 s) ∧ w'.cell? ⟨w.heap.size, 1, none⟩ = some (.slice d l c) ∧ w'.cell? ⟨w.heap.size + 1, 0, none⟩ = some (.int .i64 t) ∧ w'.cell? ⟨w.heap.size + 1, 1, none⟩ = some (.slice g h k) ∧ Below w.heap.size w w')) (by kernel_rfl) ?_ (fun hHeld => ?_)
      · first | exact keepC3 hHeld b21 | exact keepC3 hHeld b20 | exact ⟨e8.c0, e8.c1, eA.c0, eA.c1, eB.c0, eB.c1, eb.drew⟩ | exact keepP3 hHeld (by omega) (by omega) (by omega) (by omega) _ _
      refine take_yes (i := 0) (v := ?vmm0) rfl (by kernel_rfl) (by kernel_rfl) (by kernel_rfl) (fun _ _ _ h => h) (by rfl) (by assumption) ?hymm0 ?restmm0
      case hymm0 => (intro w hSw; (try dsimp only at hSw); first | (go_simp; done) | (go_simp; with_reducible rfl))
      simp only [Act.put, List.setIfInBounds_toArray, List.set_cons_zero, List.set_cons_succ]
      refine take_yes (i := 1) (v := ?vmm1) rfl (by kernel_rfl) (by kernel_rfl) (by kernel_rfl) (fun _ _ _ h => h) (by rfl) (by assumption) ?hymm1 ?restmm1
      case hymm1 => (intro w hSw; (try dsimp only at hSw); first | (go_simp; done) | (go_simp; with_reducible rfl))
      simp only [Act.put, List.setIfInBounds_toArray, List.set_cons_zero, List.set_cons_succ]
      refine take_yes (i := 2) (v := ?vmm2) rfl (by kernel_rfl) (by kernel_rfl) (by kernel_rfl) (fun _ _ _ h => h) (by rfl) (by assumption) ?hymm2 ?restmm2
      case hymm2 => (intro w hSw; (try dsimp only at hSw); first | (go_simp; done) | (go_simp; with_reducible rfl))
      simp only [Act.put, List.setIfInBounds_toArray, List.set_cons_zero, List.set_cons_succ]
      refine take_yes (i := 3) (v := ?vmm3) rfl (by kernel_rfl) (by kernel_rfl) (by kernel_rfl) (fun _ _ _ h => h) (by rfl) (by assumption) ?hymm3 ?restmm3
      case hymm3 => (intro w hSw; (try dsimp only at hSw); first | (go_simp; done) | (go_simp; with_reducible rfl))
      simp only [Act.put, List.setIfInBounds_toArray, List.set_cons_zero, List.set_cons_succ]
      refine take_call (i := 4) rfl (by kernel_rfl) (fun K hK => ?_)
      go_simp
      (go_at_call 17; refine (rwMul s6 t d6 g l6 c6 h k Q y (Q * y) _ (eq.below ((Below.refl _ _).drew)) (ey.below ((Below.refl _ _).drew)) fq fy rfl).mono ?_; rintro e w20 ⟨s20, d20, l20, c20, rfl, h20, f20, b20⟩)
      refine hK.out _ _ ?_ (fun hHeld => ?_)
      · first | exact keepC3 hHeld b21 | exact keepC3 hHeld b20 | exact ⟨e8.c0, e8.c1, eA.c0, eA.c1, eB.c0, eB.c1, eb.drew⟩ | exact keepP3 hHeld (by omega) (by omega) (by omega) (by omega) _ _
      clear hK K
      refine take_call (i := 5) rfl (by kernel_rfl) (fun K hK => ?_)
      go_simp
      (go_at_call 15; refine (rwSub s s20 d d20 l c l20 c20 x (Q * y) R _ ((ex.below ((Below.refl _ _).drew)).below b20) h20 fx fp HR.out).mono ?_; rintro e w21 ⟨s21, d21, l21, c21, rfl, h21, f21, b21⟩)
      refine hK.out _ _ ?_ (fun hHeld => ?_)
      · first | exact keepC3 hHeld b21 | exact keepC3 hHeld b20 | exact ⟨e8.c0, e8.c1, eA.c0, eA.c1, eB.c0, eB.c1, eb.drew⟩ | exact keepP3 hHeld (by omega) (by omega) (by omega) (by omega) _ _
      clear hK K
      obtain ⟨k0, k1, k2, k3⟩ := (e4.drew.on b20).on b21
      refine take_call (i := 6) rfl (by kernel_rfl) (fun K hK => ?_)
      go_simp
      refine hK.out _ _ ?_ (fun hHeld => ?_)
      · first | exact keepC3 hHeld b21 | exact keepC3 hHeld b20 | exact ⟨e8.c0, e8.c1, eA.c0, eA.c1, eB.c0, eB.c1, eb.drew⟩ | exact keepP3 hHeld (by omega) (by omega) (by omega) (by omega) _ _
      clear hK K
      obtain ⟨j0, j1, j2, j3⟩ : Bx ((w21.setCell ⟨w.heap.size + 1 + 1, 0, none⟩ (.int .i64 s6)).setCell ⟨w.heap.size + 1 + 1, 1, none⟩ (.slice d6 l6 c6)) (w.heap.size + 1 + 1 + 1) (.int .i64 0) (.slice none 0 0) := (((e5.drew.on b20).on b21).put (by omega)).put (by omega)
      refine take_call (i := 7) rfl (by kernel_rfl) (fun K hK => ?_)
      go_simp
      refine hK.out _ _ ?_ (fun hHeld => ?_)
      · first | exact keepC3 hHeld b21 | exact keepC3 hHeld b20 | exact ⟨e8.c0, e8.c1, eA.c0, eA.c1, eB.c0, eB.c1, eb.drew⟩ | exact keepP3 hHeld (by omega) (by omega) (by omega) (by omega) _ _
      clear hK K
      refine wpAnyH_done (by kernel_rfl) ?_ _
      go_wp2
      have z2 : WF.heap.size ≤ w20.heap.size := b20.size
      exact bodyPost_ret (v := .tuple #[.agg #[.int .i64 s6, .slice d6 l6 c6], .agg #[.int .i64 s21, .slice d21 l21 c21]]) (by simp [results, Tryd.results23, go_sem, *]) rfl (endRF (((eq.below ((Below.refl _ _).drew)).below b20).below b21) h21 (also (also eb.drew b20) b21) (F6 _ (by omega)) (F6 _ (by omega)) (f21 _ (Nat.lt_of_lt_of_le (Nat.lt_trans g2 (bx_lt e8)) z2) ⟨n2, f20 _ (Nat.lt_trans g2 (bx_lt e8.drew)) trivial⟩) (f21 _ (Nat.lt_of_lt_of_le (Nat.lt_trans g8 (bx_lt e8)) z2) ⟨n3, f20 _ (Nat.lt_trans g8 (bx_lt e8.drew)) trivial⟩) _ _ _ _)
  · have HQ1 : Hid (Q = z0) := by have := HQ.out; rw [if_neg hadj, Int.sub_zero] at this; exact this
    clear HQ
    have hnot : ¬ (sd < 0 ∧ 0 < lr) := fun hh => hadj ⟨hh.1, fun e => by have := hlr.2 e; omega⟩
    clear hlr hadj
    by_cases hsn : sd < 0
    · have hl0 : lr = 0 := by
        rcases Nat.eq_zero_or_pos lr with e | e
        · exact e
        · exact absurd ⟨hsn, e⟩ hnot
      subst hl0
      clear hnot
      go_wp2
      have e8 := x8
      have eA := XA
      have eB := XB
      have e4 := X4
      have e5 := X5
      have ex := hxB
      have ey := hyB
      have eq := H2
      have eb := BW
      rw [← HQ1.out] at eq
      clear x8 k0 k1 k2 k3 j0 j1 j2 j3 XA XB X4 X5 hxB hyB H2 BW
      generalize w2.alloc (.cells #[.int .i64 s2, .slice a2 l2 c2] 30) = WF at e8 eA eB e4 e5 ex ey eq eb b3 ⊢
      generalize w2.heap.size = b8 at e8 g8 nx8 ny8 n82 ⊢
      have g2 : w.heap.size + 1 + 1 < b8 := by omega
      refine wp_region_held_drew (S := (fun w' => w'.cell? ⟨b8, 0, none⟩ = some (.int .i64 s2) ∧ w'.cell? ⟨b8, 1, none⟩ = some (.slice a2 l2 c2) ∧ w'.cell? ⟨w.heap.size, 0, none⟩ = some (.int .i64 s) ∧ w'.cell? ⟨w.heap.size, 1, none⟩ = some (.slice d l c) ∧ w'.cell? ⟨w.heap.size + 1, 0, none⟩ = some (.int .i64 t) ∧ w'.cell? ⟨w.heap.size + 1, 1, none⟩ = some (.slice g h k) ∧ Below w.heap.size w w')) (by kernel_rfl) ?_ (fun hHeld => ?_)
      · first | exact keepC3 hHeld b21 | exact keepC3 hHeld b20 | exact ⟨e8.c0, e8.c1, eA.c0, eA.c1, eB.c0, eB.c1, eb.drew⟩ | exact keepP3 hHeld (by omega) (by omega) (by omega) (by omega) _ _
      refine take_yes (i := 0) (v := ?vk0) rfl (by kernel_rfl) (by kernel_rfl) (by kernel_rfl) (fun _ _ _ h => h) (by rfl) (by assumption) ?hyk0 ?restk0
      case hyk0 => (intro w hSw; (try dsimp only at hSw); first | (go_simp; done) | (go_simp; with_reducible rfl))
      simp only [Act.put, List.setIfInBounds_toArray, List.set_cons_zero, List.set_cons_succ]
      refine take_yes (i := 1) (v := ?vk1) rfl (by kernel_rfl) (by kernel_rfl) (by kernel_rfl) (fun _ _ _ h => h) (by rfl) (by assumption) ?hyk1 ?restk1
      case hyk1 => (intro w hSw; (try dsimp only at hSw); first | (go_simp; done) | (go_simp; with_reducible rfl))
      simp only [Act.put, List.setIfInBounds_toArray, List.set_cons_zero, List.set_cons_succ]
      refine take_yes (i := 2) (v := ?vk2) rfl (by kernel_rfl) (by kernel_rfl) (by kernel_rfl) (fun _ _ _ h => h) (by rfl) (by assumption) ?hyk2 ?restk2
      case hyk2 => (intro w hSw; (try dsimp only at hSw); first | (go_simp; done) | (go_simp; with_reducible rfl))
      simp only [Act.put, List.setIfInBounds_toArray, List.set_cons_zero, List.set_cons_succ]
      refine take_yes (i := 3) (v := ?vk3) rfl (by kernel_rfl) (by kernel_rfl) (by kernel_rfl) (fun _ _ _ h => h) (by rfl) (by assumption) ?hyk3 ?restk3
      case hyk3 => (intro w hSw; (try dsimp only at hSw); first | (go_simp; done) | (go_simp; with_reducible rfl))
      simp only [Act.put, List.setIfInBounds_toArray, List.set_cons_zero, List.set_cons_succ]
      refine take_call (i := 4) rfl (by kernel_rfl) (fun K hK => ?_)
      go_simp
      (go_at_call 17; refine (rwMul s2 t a2 g l2 c2 h k Q y (Q * y) _ (eq.below ((Below.refl _ _).drew)) (ey.below ((Below.refl _ _).drew)) fq fy rfl).mono ?_; rintro e w20 ⟨s20, d20, l20, c20, rfl, h20, f20, b20⟩)
      refine hK.out _ _ ?_ (fun hHeld => ?_)
      · first | exact keepC3 hHeld b21 | exact keepC3 hHeld b20 | exact ⟨e8.c0, e8.c1, eA.c0, eA.c1, eB.c0, eB.c1, eb.drew⟩ | exact keepP3 hHeld (by omega) (by omega) (by omega) (by omega) _ _
      clear hK K
      refine take_call (i := 5) rfl (by kernel_rfl) (fun K hK => ?_)
      go_simp
      (go_at_call 15; refine (rwSub s s20 d d20 l c l20 c20 x (Q * y) R _ ((ex.below ((Below.refl _ _).drew)).below b20) h20 fx fp HR.out).mono ?_; rintro e w21 ⟨s21, d21, l21, c21, rfl, h21, f21, b21⟩)
      refine hK.out _ _ ?_ (fun hHeld => ?_)
      · first | exact keepC3 hHeld b21 | exact keepC3 hHeld b20 | exact ⟨e8.c0, e8.c1, eA.c0, eA.c1, eB.c0, eB.c1, eb.drew⟩ | exact keepP3 hHeld (by omega) (by omega) (by omega) (by omega) _ _
      clear hK K
      obtain ⟨k0, k1, k2, k3⟩ := (e4.drew.on b20).on b21
      refine take_call (i := 6) rfl (by kernel_rfl) (fun K hK => ?_)
      go_simp
      refine hK.out _ _ ?_ (fun hHeld => ?_)
      · first | exact keepC3 hHeld b21 | exact keepC3 hHeld b20 | exact ⟨e8.c0, e8.c1, eA.c0, eA.c1, eB.c0, eB.c1, eb.drew⟩ | exact keepP3 hHeld (by omega) (by omega) (by omega) (by omega) _ _
      clear hK K
      obtain ⟨j0, j1, j2, j3⟩ : Bx ((w21.setCell ⟨w.heap.size + 1 + 1, 0, none⟩ (.int .i64 s2)).setCell ⟨w.heap.size + 1 + 1, 1, none⟩ (.slice a2 l2 c2)) (w.heap.size + 1 + 1 + 1) (.int .i64 0) (.slice none 0 0) := (((e5.drew.on b20).on b21).put (by omega)).put (by omega)
      refine take_call (i := 7) rfl (by kernel_rfl) (fun K hK => ?_)
      go_simp
      refine hK.out _ _ ?_ (fun hHeld => ?_)
      · first | exact keepC3 hHeld b21 | exact keepC3 hHeld b20 | exact ⟨e8.c0, e8.c1, eA.c0, eA.c1, eB.c0, eB.c1, eb.drew⟩ | exact keepP3 hHeld (by omega) (by omega) (by omega) (by omega) _ _
      clear hK K
      refine wpAnyH_done (by kernel_rfl) ?_ _
      go_wp2
      have z2 : WF.heap.size ≤ w20.heap.size := b20.size
      exact bodyPost_ret (v := .tuple #[.agg #[.int .i64 s2, .slice a2 l2 c2], .agg #[.int .i64 s21, .slice d21 l21 c21]]) (by simp [results, Tryd.results23, go_sem, *]) rfl (endRF (((eq.below ((Below.refl _ _).drew)).below b20).below b21) h21 (also (also eb.drew b20) b21) (F2 _ (by omega)) (F2 _ (by omega)) (f21 _ (Nat.lt_of_lt_of_le (Nat.lt_trans g2 (bx_lt e8)) z2) ⟨n2, f20 _ (Nat.lt_trans g2 (bx_lt e8.drew)) trivial⟩) (f21 _ (Nat.lt_of_lt_of_le (Nat.lt_trans g8 (bx_lt e8)) z2) ⟨n3, f20 _ (Nat.lt_trans g8 (bx_lt e8.drew)) trivial⟩) _ _ _ _)
    · clear hnot
      have hsn' : decide (sd < 0) = false := by simpa using hsn
      go_wp2
      have e8 := x8
      have eA := XA
      have eB := XB
      have e4 := X4
      have e5 := X5
      have ex := hxB
      have ey := hyB
      have eq := H2
      have eb := BW
      rw [← HQ1.out] at eq
      clear x8 k0 k1 k2 k3 j0 j1 j2 j3 XA XB X4 X5 hxB hyB H2 BW
      generalize w2.alloc (.cells #[.int .i64 s2, .slice a2 l2 c2] 30) = WF at e8 eA eB e4 e5 ex ey eq eb b3 ⊢
      generalize w2.heap.size = b8 at e8 g8 nx8 ny8 n82 ⊢
      have g2 : w.heap.size + 1 + 1 < b8 := by omega
      refine wp_region_held_drew (S := (fun w' => w'.cell? ⟨b8, 0, none⟩ = some (.int .i64 s2) ∧ w'.cell? ⟨b8, 1, none⟩ = some (.slice a2 l2 c2) ∧ w'.cell? ⟨w.heap.size, 0, none⟩ = some (.int .i64 s) ∧ w'.cell? ⟨w.heap.size, 1, none⟩ = some (.slice d l c) ∧ w'.cell? ⟨w.heap.size + 1, 0, none⟩ = some (.int .i64 t) ∧ w'.cell? ⟨w.heap.size + 1, 1, none⟩ = some (.slice g h k) ∧ Below w.heap.size w w')) (by kernel_rfl) ?_ (fun hHeld => ?_)
      · first | exact keepC3 hHeld b21 | exact keepC3 hHeld b20 | exact ⟨e8.c0, e8.c1, eA.c0, eA.c1, eB.c0, eB.c1, eb.drew⟩ | exact keepP3 hHeld (by omega) (by omega) (by omega) (by omega) _ _
      refine take_yes (i := 0) (v := ?vl0) rfl (by kernel_rfl) (by kernel_rfl) (by kernel_rfl) (fun _ _ _ h => h) (by rfl) (by assumption) ?hyl0 ?restl0
      case hyl0 => (intro w hSw; (try dsimp only at hSw); first | (go_simp; done) | (go_simp; with_reducible rfl))
      simp only [Act.put, List.setIfInBounds_toArray, List.set_cons_zero, List.set_cons_succ]
      refine take_yes (i := 1) (v := ?vl1) rfl (by kernel_rfl) (by kernel_rfl) (by kernel_rfl) (fun _ _ _ h => h) (by rfl) (by assumption) ?hyl1 ?restl1
      case hyl1 => (intro w hSw; (try dsimp only at hSw); first | (go_simp; done) | (go_simp; with_reducible rfl))
      simp only [Act.put, List.setIfInBounds_toArray, List.set_cons_zero, List.set_cons_succ]
      refine take_yes (i := 2) (v := ?vl2) rfl (by kernel_rfl) (by kernel_rfl) (by kernel_rfl) (fun _ _ _ h => h) (by rfl) (by assumption) ?hyl2 ?restl2
      case hyl2 => (intro w hSw; (try dsimp only at hSw); first | (go_simp; done) | (go_simp; with_reducible rfl))
      simp only [Act.put, List.setIfInBounds_toArray, List.set_cons_zero, List.set_cons_succ]
      refine take_yes (i := 3) (v := ?vl3) rfl (by kernel_rfl) (by kernel_rfl) (by kernel_rfl) (fun _ _ _ h => h) (by rfl) (by assumption) ?hyl3 ?restl3
      case hyl3 => (intro w hSw; (try dsimp only at hSw); first | (go_simp; done) | (go_simp; with_reducible rfl))
      simp only [Act.put, List.setIfInBounds_toArray, List.set_cons_zero, List.set_cons_succ]
      refine take_call (i := 4) rfl (by kernel_rfl) (fun K hK => ?_)
      go_simp
      (go_at_call 17; refine (rwMul s2 t a2 g l2 c2 h k Q y (Q * y) _ (eq.below ((Below.refl _ _).drew)) (ey.below ((Below.refl _ _).drew)) fq fy rfl).mono ?_; rintro e w20 ⟨s20, d20, l20, c20, rfl, h20, f20, b20⟩)
      refine hK.out _ _ ?_ (fun hHeld => ?_)
      · first | exact keepC3 hHeld b21 | exact keepC3 hHeld b20 | exact ⟨e8.c0, e8.c1, eA.c0, eA.c1, eB.c0, eB.c1, eb.drew⟩ | exact keepP3 hHeld (by omega) (by omega) (by omega) (by omega) _ _
      clear hK K
      refine take_call (i := 5) rfl (by kernel_rfl) (fun K hK => ?_)
      go_simp
      (go_at_call 15; refine (rwSub s s20 d d20 l c l20 c20 x (Q * y) R _ ((ex.below ((Below.refl _ _).drew)).below b20) h20 fx fp HR.out).mono ?_; rintro e w21 ⟨s21, d21, l21, c21, rfl, h21, f21, b21⟩)
      refine hK.out _ _ ?_ (fun hHeld => ?_)
      · first | exact keepC3 hHeld b21 | exact keepC3 hHeld b20 | exact ⟨e8.c0, e8.c1, eA.c0, eA.c1, eB.c0, eB.c1, eb.drew⟩ | exact keepP3 hHeld (by omega) (by omega) (by omega) (by omega) _ _
      clear hK K
      obtain ⟨k0, k1, k2, k3⟩ := (e4.drew.on b20).on b21
      refine take_call (i := 6) rfl (by kernel_rfl) (fun K hK => ?_)
      go_simp
      refine hK.out _ _ ?_ (fun hHeld => ?_)
      · first | exact keepC3 hHeld b21 | exact keepC3 hHeld b20 | exact ⟨e8.c0, e8.c1, eA.c0, eA.c1, eB.c0, eB.c1, eb.drew⟩ | exact keepP3 hHeld (by omega) (by omega) (by omega) (by omega) _ _
      clear hK K
      obtain ⟨j0, j1, j2, j3⟩ : Bx ((w21.setCell ⟨w.heap.size + 1 + 1, 0, none⟩ (.int .i64 s2)).setCell ⟨w.heap.size + 1 + 1, 1, none⟩ (.slice a2 l2 c2)) (w.heap.size + 1 + 1 + 1) (.int .i64 0) (.slice none 0 0) := (((e5.drew.on b20).on b21).put (by omega)).put (by omega)
      refine take_call (i := 7) rfl (by kernel_rfl) (fun K hK => ?_)
      go_simp
      refine hK.out _ _ ?_ (fun hHeld => ?_)
      · first | exact keepC3 hHeld b21 | exact keepC3 hHeld b20 | exact ⟨e8.c0, e8.c1, eA.c0, eA.c1, eB.c0, eB.c1, eb.drew⟩ | exact keepP3 hHeld (by omega) (by omega) (by omega) (by omega) _ _
      clear hK K
      refine wpAnyH_done (by kernel_rfl) ?_ _
      go_wp2
      have z2 : WF.heap.size ≤ w20.heap.size := b20.size
      exact bodyPost_ret (v := .tuple #[.agg #[.int .i64 s2, .slice a2 l2 c2], .agg #[.int .i64 s21, .slice d21 l21 c21]]) (by simp [results, Tryd.results23, go_sem, *]) rfl (endRF (((eq.below ((Below.refl _ _).drew)).below b20).below b21) h21 (also (also eb.drew b20) b21) (F2 _ (by omega)) (F2 _ (by omega)) (f21 _ (Nat.lt_of_lt_of_le (Nat.lt_trans g2 (bx_lt e8)) z2) ⟨n2, f20 _ (Nat.lt_trans g2 (bx_lt e8.drew)) trivial⟩) (f21 _ (Nat.lt_of_lt_of_le (Nat.lt_trans g8 (bx_lt e8)) z2) ⟨n3, f20 _ (Nat.lt_trans g8 (bx_lt e8.drew)) trivial⟩) _ _ _ _)
end Go.Proofs.YtpkcjgkgabemoaaDoor

namespace Go.Proofs.YtpkcjgkgabemoaaDoor.lq.d32
open Go.Proofs.YtpkcjgkgabemoaaDoor.lq
open Go.RowKit
set_option linter.unusedVariables false

theorem makeD (w : World) : (Instr.makeSlice 27 (.int .i64 32) (.int .i64 32)).run Tryd.prog w = .ok (.slice (some ⟨w.heap.size, 0, none⟩) 32 32) (w.alloc (.cells #[.int .i64 0, .int .i64 0, .int .i64 0, .int .i64 0, .int .i64 0, .int .i64 0, .int .i64 0, .int .i64 0, .int .i64 0, .int .i64 0, .int .i64 0, .int .i64 0, .int .i64 0, .int .i64 0, .int .i64 0, .int .i64 0, .int .i64 0, .int .i64 0, .int .i64 0, .int .i64 0, .int .i64 0, .int .i64 0, .int .i64 0, .int .i64 0, .int .i64 0, .int .i64 0, .int .i64 0, .int .i64 0, .int .i64 0, .int .i64 0, .int .i64 0, .int .i64 0] 3)) := by kernel_rfl
theorem zeroD : dcells 32 0 = [.int .i64 0, .int .i64 0, .int .i64 0, .int .i64 0, .int .i64 0, .int .i64 0, .int .i64 0, .int .i64 0, .int .i64 0, .int .i64 0, .int .i64 0, .int .i64 0, .int .i64 0, .int .i64 0, .int .i64 0, .int .i64 0, .int .i64 0, .int .i64 0, .int .i64 0, .int .i64 0, .int .i64 0, .int .i64 0, .int .i64 0, .int .i64 0, .int .i64 0, .int .i64 0, .int .i64 0, .int .i64 0, .int .i64 0, .int .i64 0, .int .i64 0, .int .i64 0] := by simp [dcells, dg, List.range, List.range.loop]
/-- A number's digits, in a block of the call's own. -/
structure Made (w w' : World) (b : Nat) (v : Int) : Prop where
  row : Row w' b (dcells 32 v)
  old : w.heap.size ≤ b
  size : b < w'.heap.size
  below : Below w.heap.size w w'

/-- What holds at the head of each round of the sum's loop. -/
def AddRel (w : World) (x y : Int) (c i : Value) (wr : World) : Prop := ∃ k : Nat, k ≤ 32 ∧ i = .int .i64 (k : Int) ∧ c = .int .i64 (carry x y k) ∧ Row wr w.heap.size (mix 32 k (x + y) 0) ∧ Below w.heap.size w wr ∧ w.heap.size < wr.heap.size
theorem addRel_next (w wr : World) (x y : Int) (k n : Nat) (hk : k < 32) (hrow : Row wr w.heap.size (mix 32 k (x + y) 0)) (hb : Below w.heap.size w wr) (hs : w.heap.size < wr.heap.size) :
    AddRel w x y (.int .i64 ((carry x y k + dg x k + dg y k) / 256)) (.int .i64 ((k : Int) + 1)) ((wr.drewN n).setCell ⟨w.heap.size, k, none⟩ (.int .i64 ((carry x y k + dg x k + dg y k) % 256))) := by
  refine ⟨k + 1, by omega, by simp, by rw [carry_succ], ?_, (below_drewN hb n).setCell (Nat.le_refl _) _, ?_⟩
  · rw [add_digit, ← mix_set]
    exact (hrow.drewN n).set k _ (by rw [mix_length]; exact hk)
  · simpa using hs

set_option maxHeartbeats 400000 in
theorem radd_any (x y : Int) (ba bb : Nat) {ca cb : Nat} (w : World) (ra : Row w ba (dcells 32 x)) (rb : Row w bb (dcells 32 y)) (ha : ba < w.heap.size) (hb : bb < w.heap.size) :
    Calls Tryd.prog 82 #[.slice (some ⟨ba, 0, none⟩) 32 ca, .slice (some ⟨bb, 0, none⟩) 32 cb] w fun e w' => ∃ b, e = .returned (.slice (some ⟨b, 0, none⟩) 32 32) ∧ Made w w' b (x + y) := by
  have hmk := makeD
  go_enter Tryd.func82, Tryd.ntmps82
  go_wp2
  clear hmk
  go_loopw [6, 7] (fun c i wr => AddRel w x y c i wr) (fun _ i _ => 32 - (intOf i).toNat)
  case atStart =>
    refine ⟨0, by omega, rfl, by rw [carry_zero], ?_, (Below.refl _ _).alloc (Nat.le_refl _) _, by simp⟩
    rw [mix_zero, zeroD]
    exact Row.new _ _ _
  case round =>
    obtain ⟨k, hk, rfl, rfl, hrow, hbr, hsz⟩ := hrel
    by_cases hlt : k < 32
    · have c1 : wr.cell? ⟨ba, k, none⟩ = some (.int .i64 (dg x k)) := (hbr.cell (p := ⟨ba, k, none⟩) ha).trans (ra.cell k _ (dcells_at _ _ _ hlt))
      have c2 : wr.cell? ⟨bb, k, none⟩ = some (.int .i64 (dg y k)) := (hbr.cell (p := ⟨bb, k, none⟩) hb).trans (rb.cell k _ (dcells_at _ _ _ hlt))
      have c3 : wr.cell? ⟨w.heap.size, k, none⟩ = some (.int .i64 (dg 0 k)) := hrow.cell k _ (mix_at _ _ _ _ _ hlt (Nat.le_refl _))
      have c4 : wr.frozen? ⟨w.heap.size, k, none⟩ = false := hrow.free k (by rw [mix_length]; exact hlt)
      have hl : (k : Int) < 32 := by omega
      obtain ⟨d0, d1⟩ := dg_range x k
      obtain ⟨e0, e1⟩ := dg_range y k
      obtain ⟨f0, f1⟩ := carry_range x y k
      have hn := fun n => addRel_next w wr x y k n hlt hrow hbr hsz
      go_wp2
      go_quiet (fail)
      go_wp2
      go_roundw
      case rel => exact hn _
      case measure => simp [intOf]; omega
    · obtain rfl : k = 32 := by omega
      rw [mix_full] at hrow
      go_wp2
      go_ret
      exact ⟨_, rfl, hrow, Nat.le_refl _, hsz, hbr⟩

/-- What holds at the head of each round of the negation's loop. -/
def NegRel (w : World) (x : Int) (bo bn : Nat) (i : Value) (wr : World) : Prop := ∃ k : Nat, k ≤ 32 ∧ i = .int .i64 (k : Int) ∧ bo ≠ bn ∧ w.heap.size ≤ bo ∧ w.heap.size ≤ bn ∧ bo < wr.heap.size ∧ bn < wr.heap.size ∧
  Row wr bo (mix 32 k (-1 - x) 0) ∧ Row wr bn (dcells 32 0) ∧ Below w.heap.size w wr
theorem negRel_next (w wr : World) (x : Int) (bo bn k n : Nat) (hk : k < 32) (hne : bo ≠ bn) (h1 : w.heap.size ≤ bo) (h2 : w.heap.size ≤ bn) (h3 : bo < wr.heap.size) (h4 : bn < wr.heap.size) (hrow : Row wr bo (mix 32 k (-1 - x) 0)) (hone : Row wr bn (dcells 32 0)) (hb : Below w.heap.size w wr) :
    NegRel w x bo bn (.int .i64 ((k : Int) + 1)) (wr.setCell ⟨bo, k, none⟩ (.int .i64 (255 - dg x k))) := by
  refine ⟨k + 1, by omega, by simp, hne, h1, h2, by simpa using h3, by simpa using h4, ?_, hone.other _ hne, hb.setCell h1 _⟩
  rw [neg_digit, ← mix_set]
  exact hrow.set k _ (by rw [mix_length]; exact hk)
theorem oneD : (dcells 32 0).set 0 (.int .i64 1) = dcells 32 1 := by rw [zeroD]; simp [dcells, dg, List.range, List.range.loop]

theorem negStart (w : World) (x : Int) (t : TypeId) : NegRel w x w.heap.size (w.heap.size + 1) (.int .i64 0)
    (((w.alloc (.cells #[.int .i64 0, .int .i64 0, .int .i64 0, .int .i64 0, .int .i64 0, .int .i64 0, .int .i64 0, .int .i64 0, .int .i64 0, .int .i64 0, .int .i64 0, .int .i64 0, .int .i64 0, .int .i64 0, .int .i64 0, .int .i64 0, .int .i64 0, .int .i64 0, .int .i64 0, .int .i64 0, .int .i64 0, .int .i64 0, .int .i64 0, .int .i64 0, .int .i64 0, .int .i64 0, .int .i64 0, .int .i64 0, .int .i64 0, .int .i64 0, .int .i64 0, .int .i64 0] t)).alloc (.cells #[.int .i64 0, .int .i64 0, .int .i64 0, .int .i64 0, .int .i64 0, .int .i64 0, .int .i64 0, .int .i64 0, .int .i64 0, .int .i64 0, .int .i64 0, .int .i64 0, .int .i64 0, .int .i64 0, .int .i64 0, .int .i64 0, .int .i64 0, .int .i64 0, .int .i64 0, .int .i64 0, .int .i64 0, .int .i64 0, .int .i64 0, .int .i64 0, .int .i64 0, .int .i64 0, .int .i64 0, .int .i64 0, .int .i64 0, .int .i64 0, .int .i64 0, .int .i64 0] t)).drew) := by
  have h2 := Row.new (w.alloc (.cells (dcells 32 0).toArray t)) (dcells 32 0) t
  rw [World.size_alloc] at h2
  have h1 := (Row.new w (dcells 32 0) t).alloc (.cells (dcells 32 0).toArray t) (by rw [World.size_alloc]; omega)
  rw [zeroD] at h1 h2
  refine ⟨0, by omega, rfl, by omega, by omega, by omega, by simp; omega, by simp, ?_, ?_, (((Below.refl _ _).alloc (Nat.le_refl _) _).alloc (by simp) _).drew⟩
  · rw [mix_zero, zeroD]; exact h1.drew
  · rw [zeroD]; exact h2.drew
theorem negStart' (w : World) (x : Int) (t : TypeId) : NegRel w x (w.heap.size + 1) w.heap.size (.int .i64 0)
    (((w.alloc (.cells #[.int .i64 0, .int .i64 0, .int .i64 0, .int .i64 0, .int .i64 0, .int .i64 0, .int .i64 0, .int .i64 0, .int .i64 0, .int .i64 0, .int .i64 0, .int .i64 0, .int .i64 0, .int .i64 0, .int .i64 0, .int .i64 0, .int .i64 0, .int .i64 0, .int .i64 0, .int .i64 0, .int .i64 0, .int .i64 0, .int .i64 0, .int .i64 0, .int .i64 0, .int .i64 0, .int .i64 0, .int .i64 0, .int .i64 0, .int .i64 0, .int .i64 0, .int .i64 0] t)).alloc (.cells #[.int .i64 0, .int .i64 0, .int .i64 0, .int .i64 0, .int .i64 0, .int .i64 0, .int .i64 0, .int .i64 0, .int .i64 0, .int .i64 0, .int .i64 0, .int .i64 0, .int .i64 0, .int .i64 0, .int .i64 0, .int .i64 0, .int .i64 0, .int .i64 0, .int .i64 0, .int .i64 0, .int .i64 0, .int .i64 0, .int .i64 0, .int .i64 0, .int .i64 0, .int .i64 0, .int .i64 0, .int .i64 0, .int .i64 0, .int .i64 0, .int .i64 0, .int .i64 0] t)).drew) := by
  obtain ⟨k, hk, e3, h1, h2, h3, h4, h5, r1, r2, hb⟩ := negStart w x t
  simp only [Value.int.injEq, true_and] at e3
  obtain rfl : k = 0 := by omega
  rw [mix_zero] at r1
  exact ⟨0, hk, rfl, Ne.symm h1, h3, h2, h5, h4, by rw [mix_zero]; exact r2, r1, hb⟩

theorem neg_last (x : Int) (bo bn : Nat) (w wr : World) (hne : bo ≠ bn) (h2 : w.heap.size ≤ bn) (h3 : bo < wr.heap.size) (h4 : bn < wr.heap.size) (hrow : Row wr bo (dcells 32 (-1 - x))) (hone : Row wr bn (dcells 32 0)) (hbr : Below w.heap.size w wr) :
    Calls Tryd.prog 82 #[.slice (some ⟨bo, 0, none⟩) 32 32, .slice (some ⟨bn, 0, none⟩) 32 32] (wr.setCell ⟨bn, 0, none⟩ (.int .i64 1)) fun e w' => ∃ b, e = .returned (.slice (some ⟨b, 0, none⟩) 32 32) ∧ Made w w' b (-x) := by
  have hone' := hone.set 0 (.int .i64 1) (by rw [dcells_length]; decide)
  rw [oneD] at hone'
  have hrow' := hrow.other (i := 0) (.int .i64 1) (Ne.symm hne)
  have hE : -1 - x + 1 = -x := by omega
  have H := radd_any (ca := 32) (cb := 32) (-1 - x) 1 bo bn _ hrow' hone' (by simpa using h3) (by simpa using h4)
  rw [hE] at H
  refine H.mono ?_
  rintro e w' ⟨b, rfl, hm⟩
  have hbw := hbr.setCell (p := ⟨bn, 0, none⟩) h2 (.int .i64 1)
  exact ⟨b, rfl, hm.row, Nat.le_trans hbw.size hm.old, hm.size, hbw.trans (hm.below.mono hbw.size)⟩

set_option maxHeartbeats 1000000 in
theorem rneg_any (x : Int) (ba : Nat) {cap : Nat} (w : World) (ra : Row w ba (dcells 32 x)) (ha : ba < w.heap.size) :
    Calls Tryd.prog 61 #[.slice (some ⟨ba, 0, none⟩) 32 cap] w fun e w' => ∃ b, e = .returned (.slice (some ⟨b, 0, none⟩) 32 32) ∧ Made w w' b (-x) := by
  have hmk := makeD
  go_enter Tryd.func61, Tryd.ntmps61
  go_wp2
  go_region
  · go_wp2
    clear hmk
    go_loopw [5] (fun i wr => NegRel w x w.heap.size (w.heap.size + 1) i wr) (fun i _ => 32 - (intOf i).toNat)
    case atStart => exact negStart w x 3
    case round =>
      obtain ⟨k, hk, rfl, hne, h1, h2, h3, h4, hrow, hone, hbr⟩ := hrel
      by_cases hlt : k < 32
      · have c1 : wr.cell? ⟨ba, k, none⟩ = some (.int .i64 (dg x k)) := (hbr.cell (p := ⟨ba, k, none⟩) ha).trans (ra.cell k _ (dcells_at _ _ _ hlt))
        have c3 : wr.cell? ⟨w.heap.size, k, none⟩ = some (.int .i64 (dg 0 k)) := hrow.cell k _ (mix_at _ _ _ _ _ hlt (Nat.le_refl _))
        have c4 : wr.frozen? ⟨w.heap.size, k, none⟩ = false := hrow.free k (by rw [mix_length]; exact hlt)
        have hl : (k : Int) < 32 := by omega
        obtain ⟨d0, d1⟩ := dg_range x k
        have hn := negRel_next w wr x w.heap.size (w.heap.size + 1) k 0 hlt hne h1 h2 h3 h4 hrow hone hbr
        go_wp2
        go_roundw
        case rel => exact hn
        case measure => simp [intOf]; omega
      · obtain rfl : k = 32 := by omega
        rw [mix_full] at hrow
        have c3 : wr.cell? ⟨(w.heap.size + 1), 0, none⟩ = some (.int .i64 (dg 0 0)) := hone.cell 0 _ (dcells_at _ _ _ (by decide))
        have c4 : wr.frozen? ⟨(w.heap.size + 1), 0, none⟩ = false := hone.free 0 (by rw [dcells_length]; decide)
        go_wp2_with (go_at_call 82; refine (neg_last x w.heap.size (w.heap.size + 1) w wr hne h2 h3 h4 hrow hone hbr).mono ?_; rintro e w' ⟨b, rfl, hm⟩)
        go_ret
        exact ⟨b, rfl, hm⟩
  · go_wp2
    clear hmk
    go_loopw [5] (fun i wr => NegRel w x (w.heap.size + 1) w.heap.size i wr) (fun i _ => 32 - (intOf i).toNat)
    case atStart => exact negStart' w x 3
    case round =>
      obtain ⟨k, hk, rfl, hne, h1, h2, h3, h4, hrow, hone, hbr⟩ := hrel
      by_cases hlt : k < 32
      · have c1 : wr.cell? ⟨ba, k, none⟩ = some (.int .i64 (dg x k)) := (hbr.cell (p := ⟨ba, k, none⟩) ha).trans (ra.cell k _ (dcells_at _ _ _ hlt))
        have c3 : wr.cell? ⟨(w.heap.size + 1), k, none⟩ = some (.int .i64 (dg 0 k)) := hrow.cell k _ (mix_at _ _ _ _ _ hlt (Nat.le_refl _))
        have c4 : wr.frozen? ⟨(w.heap.size + 1), k, none⟩ = false := hrow.free k (by rw [mix_length]; exact hlt)
        have hl : (k : Int) < 32 := by omega
        obtain ⟨d0, d1⟩ := dg_range x k
        have hn := negRel_next w wr x (w.heap.size + 1) w.heap.size k 0 hlt hne h1 h2 h3 h4 hrow hone hbr
        go_wp2
        go_roundw
        case rel => exact hn
        case measure => simp [intOf]; omega
      · obtain rfl : k = 32 := by omega
        rw [mix_full] at hrow
        have c3 : wr.cell? ⟨w.heap.size, 0, none⟩ = some (.int .i64 (dg 0 0)) := hone.cell 0 _ (dcells_at _ _ _ (by decide))
        have c4 : wr.frozen? ⟨w.heap.size, 0, none⟩ = false := hone.free 0 (by rw [dcells_length]; decide)
        go_wp2_with (go_at_call 82; refine (neg_last x (w.heap.size + 1) w.heap.size w wr hne h2 h3 h4 hrow hone hbr).mono ?_; rintro e w' ⟨b, rfl, hm⟩)
        go_ret
        exact ⟨b, rfl, hm⟩
end Go.Proofs.YtpkcjgkgabemoaaDoor.lq.d32

namespace Go.Proofs.YtpkcjgkgabemoaaDoor.lq
open Go.RowKit
set_option linter.unusedVariables false

theorem mask8 (x : Int) (h0 : 0 ≤ x) (h1 : x < 18446744073709551616) : bits .and .u64 x 255 = x % 256 := by
  obtain ⟨n, rfl⟩ := Int.eq_ofNat_of_zero_le h0
  have h := bits_and_u64_nat n 255 (by omega) (by omega)
  have e : n &&& 255 = n % 256 := Nat.and_two_pow_sub_one_eq_mod n 8
  rw [e] at h
  exact h.trans (by omega)
theorem div_le (x : Int) (k : Nat) (h0 : 0 ≤ x) : 0 ≤ x / 256 ^ k ∧ x / 256 ^ k ≤ x := by
  have hp := p256 k
  exact ⟨Int.ediv_nonneg h0 (Int.le_of_lt hp), Int.ediv_le_self _ h0⟩
theorem pow8 (k : Nat) : (2 : Int) ^ (8 * k) = 256 ^ k := by rw [Int.pow_mul]; rfl
theorem pow64 (j : Nat) : (18446744073709551616 : Int) ^ j = 256 ^ (8 * j) := by rw [Int.pow_mul]; rfl
theorem dg_small (v : Int) (k : Nat) (hk : k < 8) : dg (v % 18446744073709551616) k = dg v k :=
  dg_congr (i := 8) (-(v / 18446744073709551616)) (by have e : (256 : Int) ^ 8 = 18446744073709551616 := by decide
                                                      rw [e]; omega) hk
/-- Digit i of a number is a digit of one of its words. -/
theorem word_dg (v : Int) (i : Nat) : q.dg v (i / 8) / 256 ^ (i % 8) % 256 = dg v i := by
  have e := dg_small (v / 18446744073709551616 ^ (i / 8)) (i % 8) (by omega)
  have e1 : q.dg v (i / 8) / 256 ^ (i % 8) % 256 = dg (v / 18446744073709551616 ^ (i / 8) % 18446744073709551616) (i % 8) := rfl
  rw [e1, e]
  unfold dg
  have hp := p256 (8 * (i / 8))
  have e2 := Int.ediv_ediv (x := v) (y := 256 ^ (8 * (i / 8))) (z := 256 ^ (i % 8))
  rw [if_neg (by omega)] at e2
  rw [pow64, e2, ← Int.pow_add, show 8 * (i / 8) + i % 8 = i by omega]
  simp
theorem of_word (v : Int) (i : Nat) : wrap64 (bits .and .u64 (q.dg v (i / 8) / 2 ^ (8 * (i % 8))) 255) = dg v i := by
  obtain ⟨l0, l1⟩ := q.dg_range v (i / 8)
  obtain ⟨d0, d1⟩ := div_le (q.dg v (i / 8)) (i % 8) l0
  rw [pow8, mask8 _ d0 (by omega), word_dg]
  have := dg_range v i
  unfold wrap64; omega

/-- What holds at the head of each round of Of's loop. -/
structure QOfRel (w : World) (a : Int) (k : Nat) (wr : World) : Prop where
  ra : Row wr w.heap.size (q.dcells 4 a)
  rl : Row wr (w.heap.size + 1) (mix 32 k a 0)
  bel : Below w.heap.size w wr
  size : w.heap.size + 1 < wr.heap.size
theorem qofRel_start (w : World) (a : Int) (t t' : TypeId) : QOfRel w a 0 ((w.alloc (.cells #[.int .u64 (q.dg a 0), .int .u64 (q.dg a 1), .int .u64 (q.dg a 2), .int .u64 (q.dg a 3)] t)).alloc (.cells (dcells 32 0).toArray t')) := by
  have h0 := (Row.new w [.int .u64 (q.dg a 0), .int .u64 (q.dg a 1), .int .u64 (q.dg a 2), .int .u64 (q.dg a 3)] t).alloc (.cells (dcells 32 0).toArray t') (by simp)
  have h1 := Row.new (w.alloc (.cells #[.int .u64 (q.dg a 0), .int .u64 (q.dg a 1), .int .u64 (q.dg a 2), .int .u64 (q.dg a 3)] t)) (dcells 32 0) t'
  rw [World.size_alloc] at h1
  exact ⟨h0.cells (qcells a).symm, h1.cells (mix_zero _ _ _).symm, ((Below.refl _ _).alloc (Nat.le_refl _) _).alloc (by simp) _, by simp⟩
theorem qofRel_next {w wr : World} {a : Int} {k : Nat} (h : QOfRel w a k wr) (hk : k < 32) : QOfRel w a (k + 1) (wr.setCell ⟨w.heap.size + 1, k, none⟩ (.int .i64 (dg a k))) :=
  ⟨h.ra.other _ (by omega), (h.rl.set k _ (by rw [mix_length]; exact hk)).cells (mix_set _ _ _ _), h.bel.setCell (by show _ ≤ w.heap.size + 1; omega) _, by simpa using h.size⟩

set_option maxHeartbeats 400000 in
theorem rqof_any {a0 a1 a2 a3 : Int} (a : Int) (ha : Wd a a0 a1 a2 a3) (w : World) :
    Calls Tryd.prog 59 #[.agg #[.int .u64 a0, .int .u64 a1, .int .u64 a2, .int .u64 a3]] w fun e w' => ∃ b, e = .returned (.slice (some ⟨b, 0, none⟩) 32 32) ∧ d32.Made w w' b a := by
  obtain ⟨rfl, rfl, rfl, rfl⟩ := ha
  have hmk := d32.makeD
  go_enter Tryd.func59, Tryd.ntmps59
  go_wp2
  clear hmk
  go_loopw [4] (fun i wr => ∃ k : Nat, k ≤ 32 ∧ i = .int .i64 (k : Int) ∧ QOfRel w a k wr) (fun i _ => 32 - (intOf i).toNat)
  case atStart =>
    have h := qofRel_start w a 52 3
    rw [d32.zeroD] at h
    exact ⟨0, by omega, rfl, h⟩
  case round =>
    obtain ⟨k, hk, rfl, hr⟩ := hrel
    by_cases hlt : k < 32
    · have c1 : wr.cell? ⟨w.heap.size, k / 8, none⟩ = some (.int .u64 (q.dg a (k / 8))) := hr.ra.cell (k / 8) _ (q.dcells_at _ _ _ (by omega))
      have c3 : wr.cell? ⟨w.heap.size + 1, k, none⟩ = some (.int .i64 (dg 0 k)) := hr.rl.cell k _ (mix_at _ _ _ _ _ hlt (Nat.le_refl _))
      have c4 : wr.frozen? ⟨w.heap.size + 1, k, none⟩ = false := hr.rl.free k (by rw [mix_length]; exact hlt)
      have hl : (k : Int) < 32 := by omega
      have hl8 : (k : Int) / 8 < 4 := by omega
      have hl0 : 0 ≤ (k : Int) / 8 := by omega
      have ht : ((k : Int) / 8).toNat = k / 8 := by omega
      have hn := qofRel_next hr hlt
      have f1 := of_word a k
      clear hr
      go_wp2
      go_roundw
      case rel => exact ⟨k + 1, by omega, by simp, hn⟩
      case measure => simp [intOf]; omega
    · obtain rfl : k = 32 := by omega
      have rl := hr.rl.cells (mix_full _ _ _)
      obtain ⟨ra, _, bel, size⟩ := hr
      clear ra
      go_wp2
      go_ret
      exact ⟨_, rfl, rl, by omega, size, bel⟩
end Go.Proofs.YtpkcjgkgabemoaaDoor.lq

namespace Go.Proofs.YtpkcjgkgabemoaaDoor.lq.d32
open Go.Proofs.YtpkcjgkgabemoaaDoor.lq
open Go.RowKit
set_option linter.unusedVariables false

theorem dg15 (v : Int) (h0 : -57896044618658097711785492504343953926634992332820282019728792003956564819968 ≤ v) (h1 : v < 57896044618658097711785492504343953926634992332820282019728792003956564819968) : 128 ≤ dg v 31 ↔ v < 0 := by
  have e : (256 : Int) ^ 31 = 452312848583266388373324160190187140051835877600158453279131187530910662656 := by decide
  unfold dg; rw [e]; omega
theorem below_yes (v : Int) (b : Nat) {cap : Nat} (w : World) (r : Row w b (dcells 32 v)) (h : 128 ≤ dg v 31) :
    Calls Tryd.prog 60 #[.slice (some ⟨b, 0, none⟩) 32 cap] w fun e w' => e = .returned (.bool true) ∧ w' = w := by
  have c : w.cell? ⟨b, 31, none⟩ = some (.int .i64 (dg v 31)) := r.cell 31 _ (dcells_at _ _ _ (by decide))
  go_enter Tryd.func60, Tryd.ntmps60
  go_wp2
  go_ret
  exact ⟨rfl, rfl⟩
theorem below_no (v : Int) (b : Nat) {cap : Nat} (w : World) (r : Row w b (dcells 32 v)) (h : ¬ 128 ≤ dg v 31) :
    Calls Tryd.prog 60 #[.slice (some ⟨b, 0, none⟩) 32 cap] w fun e w' => e = .returned (.bool false) ∧ w' = w := by
  have c : w.cell? ⟨b, 31, none⟩ = some (.int .i64 (dg v 31)) := r.cell 31 _ (dcells_at _ _ _ (by decide))
  have hd : decide (128 ≤ dg v 31) = false := by simpa using h
  go_enter Tryd.func60, Tryd.ntmps60
  go_wp2
  go_ret
  exact ⟨rfl, rfl⟩

theorem emod_zero (v : Int) : ∀ k : Nat, (∀ j, j < k → dg v j = 0) → v % 256 ^ k = 0
  | 0, _ => by simp [Int.emod_one]
  | k + 1, h => by rw [emod_succ, h k (by omega), emod_zero v k (fun j hj => h j (by omega))]; simp
theorem div_step (x : Int) (k : Nat) : x / 256 ^ k = x / 256 ^ (k + 1) * 256 + dg x k := by
  have e : x / 256 ^ (k + 1) = x / 256 ^ k / 256 := by
    have hp := p256 k
    rw [Int.pow_succ, Int.ediv_ediv, if_neg (by omega)]; omega
  rw [e]; unfold dg; omega
theorem lt_of_div {x y : Int} {k : Nat} (h : x / 256 ^ k < y / 256 ^ k) : x < y := by
  rcases Int.lt_or_le x y with l | l
  · exact l
  · have := Int.ediv_le_ediv (p256 k) l; omega
theorem drewN2 (w : World) (n m : Nat) : (w.drewN n).drewN m = w.drewN (n + m) := by simp [World.drewN, Nat.add_assoc]
end Go.Proofs.YtpkcjgkgabemoaaDoor.lq.d32

namespace Go.Proofs.YtpkcjgkgabemoaaDoor
open Go.RowKit
set_option linter.unusedVariables false

theorem half2 (u : Int) (k : Nat) : hf.dg u k = lq.dg u (2 * k) + 256 * lq.dg u (2 * k + 1) := by
  unfold hf.dg lq.dg
  have e : (256 : Int) ^ (2 * k) = 65536 ^ k := by rw [Int.pow_mul]; rfl
  have e2 : (256 : Int) ^ (2 * k + 1) = 65536 ^ k * 256 := by rw [Int.pow_succ, e]
  have hp : (0 : Int) < 65536 ^ k := Int.pow_pos (by decide)
  rw [e, e2]
  have : u / (65536 ^ k * 256) = u / 65536 ^ k / 256 := by rw [Int.ediv_ediv, if_neg (by omega)]; omega
  rw [this]
  omega
def RqRel (w : World) (B b U : Nat) (v i : Value) (wr : World) : Prop := ∃ (k j cap : Nat) (a : Option Addr), k ≤ 16 ∧ j = 2 * k ∧ i = .int .i64 (j : Int) ∧ v = .slice a k cap ∧ Own wr B 3 a k cap (hf.dcells k (U : Int)) ∧ Row wr b (lq.dcells 32 (U : Int)) ∧ Bx wr (w.heap.size + 1) (.int .i64 0) (.slice none 0 0) ∧ Below w.heap.size w wr ∧ B ≤ wr.heap.size
theorem Bx.grownP {w w' : World} {b : Nat} {x y : Value} {o : Option Nat} (h : Bx w b x y) (hg : w.grownBy w' o) (hne : ∀ g, o = some g → b ≠ g) : Bx w' b x y := by
  cases o with
  | none => exact h.on (Below.to hg)
  | some g => exact h.grown hg (hne g rfl)
theorem Row.grownP {w w' : World} {b : Nat} {xs : List Value} {o : Option Nat} (h : Row w b xs) (hb : b < w.heap.size) (hg : w.grownBy w' o) (hne : ∀ g, o = some g → b ≠ g) : Row w' b xs := by
  cases o with
  | none => exact h.below (Below.to hg) hb
  | some g =>
    intro j u hu
    have hn : b ≠ g := hne g rfl
    exact ⟨(hg.cell_far ⟨b, j, none⟩ hb (by simpa using hn)).trans (h j u hu).1, (hg.frozen_far ⟨b, j, none⟩ hb (by simpa using hn)).trans (h j u hu).2⟩
theorem keepC {n i j : Nat} {v1 v2 : Value} {w0 w w' : World} (h : w.cell? ⟨n, i, none⟩ = some v1 ∧ w.cell? ⟨n, j, none⟩ = some v2 ∧ Below w0.heap.size w0 w) (hb : Below w.heap.size w w') : w'.cell? ⟨n, i, none⟩ = some v1 ∧ w'.cell? ⟨n, j, none⟩ = some v2 ∧ Below w0.heap.size w0 w' :=
  ⟨cell_on hb h.1, cell_on hb h.2.1, also h.2.2 hb⟩
theorem sl_one (w : World) (y : Int) : Sl (w.alloc (.cells #[.int .i64 y] 3)) (some ⟨w.heap.size, 0, none⟩) 1 1 [.int .i64 y] := Own.sl (T := 3) (base := w.heap.size) (World.ownsRow_lit w _ 1 (Nat.le_refl _) (by decide) rfl)
set_option maxRecDepth 100000 in
set_option maxHeartbeats 800000 in
theorem rwQuad (x : Int) (h1 : -57896044618658097711785492504343953926634992332820282019728792003956564819968 ≤ x) (h2 : x < 57896044618658097711785492504343953926634992332820282019728792003956564819968) (w : World) :
    Calls Tryd.prog 33 #[.agg #[.int .u64 (lq.q.dg x 0), .int .u64 (lq.q.dg x 1), .int .u64 (lq.q.dg x 2), .int .u64 (lq.q.dg x 3)]] w (GotR w (fun _ => True) x) := by
  obtain ⟨i0, hi0, hz0, hz1, hz2⟩ := info_parts infoInt
  have HO : Hid _ := lq.rqof_any x (lq.wd_self x)
  obtain ⟨U, hU⟩ : ∃ U, U = x.natAbs := ⟨_, rfl⟩
  have HU16 : Hid (U < 65536 ^ 16) := by unfold Hid; rw [show (65536 : Nat) ^ 16 = 115792089237316195423570985008687907853269984665640564039457584007913129639936 from rfl]; omega
  have hD := lq.d32.dg15 x h1 h2
  have HU : Hid _ := hU
  have B0 : Below w.heap.size w ((w.alloc (.cells #[.int .u64 (lq.q.dg x 0), .int .u64 (lq.q.dg x 1), .int .u64 (lq.q.dg x 2), .int .u64 (lq.q.dg x 3)] 52)).alloc (.cells #[.int .i64 0, .slice none 0 0] 30)) := ((Below.refl _ _).alloc (Nat.le_refl _) _).alloc (by simp) _
  have xz := bx_new (w.alloc (.cells #[.int .u64 (lq.q.dg x 0), .int .u64 (lq.q.dg x 1), .int .u64 (lq.q.dg x 2), .int .u64 (lq.q.dg x 3)] 52)) (.int .i64 0) (.slice none 0 0) 30
  rw [World.size_alloc] at xz
  by_cases hx : x < 0
  · have HB : Hid (128 ≤ lq.dg x 31) := hD.2 hx
    have HX : Hid (-x = (U : Int)) := by unfold Hid; omega
    have HR : Hid (x ≠ 0 → (-1 : Int) = x.sign) := fun _ => (sign_neg hx).symm
    clear hD h1 h2 hU
    go_enter Tryd.func33, Tryd.ntmps33
    go_wp2_with (go_at_call 59; fail)
    refine (HO.out _).mono ?_
    rintro e w1 ⟨b1, rfl, m1⟩
    go_wp2_with (go_at_call 60; fail)
    refine (lq.d32.below_yes x b1 w1 m1.row HB.out).mono ?_
    rintro e w1' ⟨rfl, hw⟩; have hw := hw.symm; subst hw
    go_wp2_with (go_at_call 61; fail)
    refine (lq.d32.rneg_any x b1 w1 m1.row m1.size).mono ?_
    rintro e w2 ⟨b, rfl, m2⟩
    have row2 : Row w2 b (lq.dcells 32 (U : Int)) := by rw [← HX.out]; exact m2.row
    have B2 := also (also B0 m1.below) m2.below
    have xz2 := (xz.on m1.below).on m2.below
    have hbs := m2.size
    have hbo : w.heap.size + 1 < b := Nat.lt_of_lt_of_le (Nat.lt_of_lt_of_le (by simp) m1.below.size) m2.old
    have HST : Hid (RqRel w w2.heap.size b U (.slice (some ⟨w2.heap.size, 0, none⟩) 0 0) (.int .i64 0) (w2.alloc (.cells #[] 3))) := ⟨0, 0, 0, _, by omega, rfl, rfl, rfl, eown w2 w2.heap.size 3 (Nat.le_refl _), row2.alloc _ hbs, xz2.on ((Below.refl _ _).alloc (Nat.le_refl _) _), also B2 ((Below.refl _ _).alloc (Nat.le_refl _) _), by simp⟩
    clear row2 B2 xz2 xz B0
    go_wp2
    go_loopw [5, 6] (fun v i wr => RqRel w w2.heap.size b U v i wr) (fun _ i _ => 32 - (intOf i).toNat)
    case atStart => exact HST.out
    case round =>
      obtain ⟨k, j, cap, v, hk, hj, rfl, rfl, hown, row, xz, hbel, hsz1⟩ := hrel
      clear HST
      by_cases hlt : j < 32
      · obtain ⟨p0, p1⟩ := lq.dg_range (U : Int) j
        obtain ⟨q0, q1⟩ := lq.dg_range (U : Int) (j + 1)
        have hj1 : j + 1 < 32 := by omega
        have c0 := row.cell j _ (lq.dcells_at 32 (U : Int) j hlt)
        have c1 := row.cell (j + 1) _ (lq.dcells_at 32 (U : Int) (j + 1) hj1)
        have hd := half2 (U : Int) k
        rw [← hj] at hd
        have HS : Hid _ := hf.dcells_succ k (U : Int)
        obtain ⟨y0, e0⟩ : ∃ y, y = lq.dg (U : Int) j := ⟨_, rfl⟩
        obtain ⟨y1, e1⟩ : ∃ y, y = lq.dg (U : Int) (j + 1) := ⟨_, rfl⟩
        rw [← e0] at p0 p1 c0 hd
        rw [← e1] at q0 q1 c1 hd
        have HD0 : Hid _ := hd
        have HE0 : Hid _ := e0
        have HE1 : Hid _ := e1
        have HJ : Hid _ := hj
        have hk16 : k < 16 := by omega
        clear hd e0 e1 hj
        have E1 : IntKind.i64.wrap ((j : Int) + 1) = ((j + 1 : Nat) : Int) := by rw [IntKind.wrap_i64]; omega
        have E2 : IntKind.i64.wrap (256 * y1) = 256 * y1 := by rw [IntKind.wrap_i64]; omega
        have E3 : IntKind.i64.wrap (y0 + 256 * y1) = y0 + 256 * y1 := by rw [IntKind.wrap_i64]; omega
        have hj2 : (j : Int) + 1 < 32 := by omega
        have hj3 : 0 ≤ (j : Int) + 1 := by omega
        go_wp2
        refine wp_region_held_drew (S := (fun w' => w'.cell? ⟨b, j, none⟩ = some (.int .i64 y0) ∧ w'.cell? ⟨b, j + 1, none⟩ = some (.int .i64 y1) ∧ Below w.heap.size w w')) (by kernel_rfl) ?_ (fun hHeld => ?_)
        · first | exact ⟨c0, c1, hbel⟩ | exact ⟨c0, c1, hbel.drew⟩ | exact keepC hHeld ((Below.refl _ _).alloc (Nat.le_refl _) _)
        refine take_yes (i := 0) (v := ?vn0) rfl (by kernel_rfl) (by kernel_rfl) (by kernel_rfl) (fun _ _ _ h => h) (by rfl) (by assumption) ?hyn0 ?restn0
        case hyn0 => (intro w hSw; (try dsimp only at hSw); first | (go_simp; done) | (go_simp; with_reducible rfl))
        simp only [Act.put, List.setIfInBounds_toArray, List.set_cons_zero, List.set_cons_succ]
        refine take_yes (i := 1) (v := ?vn1) rfl (by kernel_rfl) (by kernel_rfl) (by kernel_rfl) (fun _ _ _ h => h) (by rfl) (by assumption) ?hyn1 ?restn1
        case hyn1 => (intro w hSw; (try dsimp only at hSw); first | (go_simp; done) | (go_simp; with_reducible rfl))
        simp only [Act.put, List.setIfInBounds_toArray, List.set_cons_zero, List.set_cons_succ]
        refine take_yes (i := 2) (v := ?vn2) rfl (by kernel_rfl) (by kernel_rfl) (by kernel_rfl) (fun _ _ _ h => h) (by rfl) (by assumption) ?hyn2 ?restn2
        case hyn2 => (intro w hSw; (try dsimp only at hSw); first | (go_simp; done) | (go_simp; with_reducible rfl))
        simp only [Act.put, List.setIfInBounds_toArray, List.set_cons_zero, List.set_cons_succ]
        refine take_yes (i := 3) (v := ?vn3) rfl (by kernel_rfl) (by kernel_rfl) (by kernel_rfl) (fun _ _ _ h => h) (by rfl) (by assumption) ?hyn3 ?restn3
        case hyn3 => (intro w hSw; (try dsimp only at hSw); first | (go_simp; done) | (go_simp; with_reducible rfl))
        simp only [Act.put, List.setIfInBounds_toArray, List.set_cons_zero, List.set_cons_succ]
        refine take_yes (i := 4) (v := ?vn4) rfl (by kernel_rfl) (by kernel_rfl) (by kernel_rfl) (fun _ _ _ h => h) (by rfl) (by assumption) ?hyn4 ?restn4
        case hyn4 => (intro w hSw; (try dsimp only at hSw); first | (go_simp; done) | (go_simp; with_reducible rfl))
        simp only [Act.put, List.setIfInBounds_toArray, List.set_cons_zero, List.set_cons_succ]
        refine take_yes (i := 5) (v := ?vn5) rfl (by kernel_rfl) (by kernel_rfl) (by kernel_rfl) (fun _ _ _ h => h) (by rfl) (by assumption) ?hyn5 ?restn5
        case hyn5 => (intro w hSw; (try dsimp only at hSw); first | (go_simp; done) | (go_simp; with_reducible rfl))
        simp only [Act.put, List.setIfInBounds_toArray, List.set_cons_zero, List.set_cons_succ]
        refine take_yes (i := 6) (v := ?vn6) rfl (by kernel_rfl) (by kernel_rfl) (by kernel_rfl) (fun _ _ _ h => h) (by rfl) (by assumption) ?hyn6 ?restn6
        case hyn6 => (intro w hSw; (try dsimp only at hSw); first | (go_simp; done) | (go_simp; with_reducible rfl))
        simp only [Act.put, List.setIfInBounds_toArray, List.set_cons_zero, List.set_cons_succ]
        refine take_yes (i := 7) (v := ?vn7) rfl (by kernel_rfl) (by kernel_rfl) (by kernel_rfl) (fun _ _ _ h => h) (by rfl) (by assumption) ?hyn7 ?restn7
        case hyn7 => (intro w hSw; (try dsimp only at hSw); first | (go_simp; done) | (go_simp; with_reducible rfl))
        simp only [Act.put, List.setIfInBounds_toArray, List.set_cons_zero, List.set_cons_succ]
        refine take_yes (i := 8) (v := ?vn8) rfl (by kernel_rfl) (by kernel_rfl) (by kernel_rfl) (fun _ _ _ h => h) (by rfl) (by assumption) ?hyn8 ?restn8
        case hyn8 => (intro w hSw; (try dsimp only at hSw); first | (go_simp; done) | (go_simp; with_reducible rfl))
        simp only [Act.put, List.setIfInBounds_toArray, List.set_cons_zero, List.set_cons_succ]
        refine take_yes (i := 9) (v := ?vn9) rfl (by kernel_rfl) (by kernel_rfl) (by kernel_rfl) (fun _ _ _ h => h) (by rfl) (by assumption) ?hyn9 ?restn9
        case hyn9 => (intro w hSw; (try dsimp only at hSw); first | (go_simp; done) | (go_simp; with_reducible rfl))
        simp only [Act.put, List.setIfInBounds_toArray, List.set_cons_zero, List.set_cons_succ]
        refine take_yes (i := 10) (v := ?vn10) rfl (by kernel_rfl) (by kernel_rfl) (by kernel_rfl) (fun _ _ _ h => h) (by rfl) (by assumption) ?hyn10 ?restn10
        case hyn10 => (intro w hSw; (try dsimp only at hSw); first | (go_simp; done) | (go_simp; with_reducible rfl))
        simp only [Act.put, List.setIfInBounds_toArray, List.set_cons_zero, List.set_cons_succ]
        refine take_yes (i := 11) (v := ?vn11) rfl (by kernel_rfl) (by kernel_rfl) (by kernel_rfl) (fun _ _ _ h => h) (by rfl) (by assumption) ?hyn11 ?restn11
        case hyn11 => (intro w hSw; (try dsimp only at hSw); first | (go_simp; done) | (go_simp; with_reducible rfl))
        simp only [Act.put, List.setIfInBounds_toArray, List.set_cons_zero, List.set_cons_succ]
        refine take_call (i := 12) rfl (by kernel_rfl) (fun K hK => ?_)
        go_simp
        refine hK.out _ _ ?_ (fun hHeld => ?_)
        · first | exact ⟨c0, c1, hbel⟩ | exact ⟨c0, c1, hbel.drew⟩ | exact keepC hHeld ((Below.refl _ _).alloc (Nat.le_refl _) _)
        clear hK K
        have hsl := sl_one wr.drew (y0 + 256 * y1)
        have bel3 : Below wr.heap.size wr (wr.drew.alloc (.cells #[.int .i64 (y0 + 256 * y1)] 3)) := (Below.refl _ _).drew.alloc (Nat.le_refl _) _
        have hown' := Own.below hown bel3
        refine take_call (i := 13) rfl (by kernel_rfl) (fun K hK => ?_)
        refine step_append_any rfl (.tmp 18) (.tmp 30) 27 rfl w2.heap.size 3 i0 (.int .i64 0) 8 Tryd.underlying27 hi0 hz0 hz1 hz2 rfl v k cap _ rfl hown' _ 1 1 [.int .i64 (y0 + 256 * y1)] rfl hsl (by intro u hu; simp at hu; subst hu; rfl) (by unfold maxLen; omega) (by omega) (Nat.le_trans hsz1 (by simp)) ?_; intro a2 cap2 w4 hown4 hgrow4; have hne : ∀ g, (Value.slice v k cap).ownBlock = some g → w2.heap.size ≤ g := fun g hg => (World.ownsRow.lt hown' g hg).1; have row4 := Row.grownP (row.below bel3 (Nat.lt_of_lt_of_le hbs hsz1)) (Nat.lt_of_lt_of_le hbs (Nat.le_trans hsz1 bel3.size)) hgrow4 (fun g hg => by have := hne g hg; omega); have bel4 := (also hbel bel3).grown hgrow4 (also hbel bel3).size (fun g hg => by have := hne g hg; have := hbel.size; omega); have xz4 := Bx.grownP (xz.on bel3) hgrow4 (fun g hg => by have := hne g hg; omega)
        refine hK.out _ _ ?_ (fun hHeld => ?_)
        · exact ⟨row4.cell _ _ (by rw [HE0.out]; exact lq.dcells_at _ _ _ hlt), row4.cell _ _ (by rw [HE1.out]; exact lq.dcells_at _ _ _ hj1), bel4⟩
        clear hK K
        refine take_yes (i := 14) (v := ?vn14) rfl (by kernel_rfl) (by kernel_rfl) (by kernel_rfl) (fun _ _ _ h => h) (by rfl) (by assumption) ?hyn14 ?restn14
        case hyn14 => (intro w hSw; (try dsimp only at hSw); first | (go_simp; done) | (go_simp; with_reducible rfl))
        simp only [Act.put, List.setIfInBounds_toArray, List.set_cons_zero, List.set_cons_succ]
        refine wpAnyH_done (by kernel_rfl) ?_ _
        go_wp2
        go_roundw
        case rel => exact ⟨k + 1, j + 2, cap2, a2, by omega, by have := HJ.out; omega, by simp, rfl, by rw [HS.out, HD0.out]; exact hown4, row4, xz4, bel4, Nat.le_trans hsz1 (Nat.le_trans bel3.size hgrow4.size)⟩
        case measure => simp [intOf]; omega
      · obtain rfl : k = 16 := by omega
        obtain rfl : j = 32 := by omega
        have hf0 := Own.far hown
        go_wp2_with (go_at_call 62; fail)
        refine (rtrim_own v 16 cap U w2.heap.size wr hown HU16.out).mono ?_
        rintro e w5 ⟨rfl, hw, hown5⟩; subst hw
        have hf5 := Own.far hown5
        go_wp2_with (go_at_call 42; fail)
        refine (rwMake (-1) v (hf.nlen U) cap U x wr ⟨Own.sl hown5, rfl⟩ HU.out HR.out).mono ?_
        rintro e w6 ⟨s6, d6, l6, c6, rfl, h6, f6, b6⟩
        obtain ⟨k0, k1, k2, k3⟩ := xz.on b6
        have hsz0 := hbel.size
        go_wp2
        exact bodyPost_ret (v := .agg #[.int .i64 s6, .slice d6 l6 c6]) (by simp [results, Tryd.results33, go_sem, *]) rfl (endR _ (by omega) (also hbel b6) h6 (f6 _ (by omega) (hf5 _ (by omega))) (fun i hi _ => f6 i (by omega) (hf5 i (by omega))) _ _)
  · have HB : Hid (¬ 128 ≤ lq.dg x 31) := fun h => hx (hD.1 h)
    have HX : Hid (x = (U : Int)) := by unfold Hid; omega
    have HR : Hid (x ≠ 0 → (1 : Int) = x.sign) := fun h => (sign_pos (by omega)).symm
    clear hD h1 h2 hU
    go_enter Tryd.func33, Tryd.ntmps33
    go_wp2_with (go_at_call 59; fail)
    refine (HO.out _).mono ?_
    rintro e w2 ⟨b, rfl, m1⟩
    go_wp2_with (go_at_call 60; fail)
    refine (lq.d32.below_no x b w2 m1.row (fun h => by have := HB.out; omega)).mono ?_
    rintro e w1' ⟨rfl, hw⟩; have hw := hw.symm; subst hw
    have row2 : Row w2 b (lq.dcells 32 (U : Int)) := by rw [← HX.out]; exact m1.row
    have B2 := also B0 m1.below
    have xz2 := xz.on m1.below
    have hbs := m1.size
    have hbo : w.heap.size + 1 < b := Nat.lt_of_lt_of_le (by simp) m1.old
    have HST : Hid (RqRel w w2.heap.size b U (.slice (some ⟨w2.heap.size, 0, none⟩) 0 0) (.int .i64 0) (w2.alloc (.cells #[] 3))) := ⟨0, 0, 0, _, by omega, rfl, rfl, rfl, eown w2 w2.heap.size 3 (Nat.le_refl _), row2.alloc _ hbs, xz2.on ((Below.refl _ _).alloc (Nat.le_refl _) _), also B2 ((Below.refl _ _).alloc (Nat.le_refl _) _), by simp⟩
    clear row2 B2 xz2 xz B0
    go_wp2
    go_loopw [5, 6] (fun v i wr => RqRel w w2.heap.size b U v i wr) (fun _ i _ => 32 - (intOf i).toNat)
    case atStart => exact HST.out
    case round =>
      obtain ⟨k, j, cap, v, hk, hj, rfl, rfl, hown, row, xz, hbel, hsz1⟩ := hrel
      clear HST
      by_cases hlt : j < 32
      · obtain ⟨p0, p1⟩ := lq.dg_range (U : Int) j
        obtain ⟨q0, q1⟩ := lq.dg_range (U : Int) (j + 1)
        have hj1 : j + 1 < 32 := by omega
        have c0 := row.cell j _ (lq.dcells_at 32 (U : Int) j hlt)
        have c1 := row.cell (j + 1) _ (lq.dcells_at 32 (U : Int) (j + 1) hj1)
        have hd := half2 (U : Int) k
        rw [← hj] at hd
        have HS : Hid _ := hf.dcells_succ k (U : Int)
        obtain ⟨y0, e0⟩ : ∃ y, y = lq.dg (U : Int) j := ⟨_, rfl⟩
        obtain ⟨y1, e1⟩ : ∃ y, y = lq.dg (U : Int) (j + 1) := ⟨_, rfl⟩
        rw [← e0] at p0 p1 c0 hd
        rw [← e1] at q0 q1 c1 hd
        have HD0 : Hid _ := hd
        have HE0 : Hid _ := e0
        have HE1 : Hid _ := e1
        have HJ : Hid _ := hj
        have hk16 : k < 16 := by omega
        clear hd e0 e1 hj
        have E1 : IntKind.i64.wrap ((j : Int) + 1) = ((j + 1 : Nat) : Int) := by rw [IntKind.wrap_i64]; omega
        have E2 : IntKind.i64.wrap (256 * y1) = 256 * y1 := by rw [IntKind.wrap_i64]; omega
        have E3 : IntKind.i64.wrap (y0 + 256 * y1) = y0 + 256 * y1 := by rw [IntKind.wrap_i64]; omega
        have hj2 : (j : Int) + 1 < 32 := by omega
        have hj3 : 0 ≤ (j : Int) + 1 := by omega
        go_wp2
        refine wp_region_held_drew (S := (fun w' => w'.cell? ⟨b, j, none⟩ = some (.int .i64 y0) ∧ w'.cell? ⟨b, j + 1, none⟩ = some (.int .i64 y1) ∧ Below w.heap.size w w')) (by kernel_rfl) ?_ (fun hHeld => ?_)
        · first | exact ⟨c0, c1, hbel⟩ | exact ⟨c0, c1, hbel.drew⟩ | exact keepC hHeld ((Below.refl _ _).alloc (Nat.le_refl _) _)
        refine take_yes (i := 0) (v := ?vp0) rfl (by kernel_rfl) (by kernel_rfl) (by kernel_rfl) (fun _ _ _ h => h) (by rfl) (by assumption) ?hyp0 ?restp0
        case hyp0 => (intro w hSw; (try dsimp only at hSw); first | (go_simp; done) | (go_simp; with_reducible rfl))
        simp only [Act.put, List.setIfInBounds_toArray, List.set_cons_zero, List.set_cons_succ]
        refine take_yes (i := 1) (v := ?vp1) rfl (by kernel_rfl) (by kernel_rfl) (by kernel_rfl) (fun _ _ _ h => h) (by rfl) (by assumption) ?hyp1 ?restp1
        case hyp1 => (intro w hSw; (try dsimp only at hSw); first | (go_simp; done) | (go_simp; with_reducible rfl))
        simp only [Act.put, List.setIfInBounds_toArray, List.set_cons_zero, List.set_cons_succ]
        refine take_yes (i := 2) (v := ?vp2) rfl (by kernel_rfl) (by kernel_rfl) (by kernel_rfl) (fun _ _ _ h => h) (by rfl) (by assumption) ?hyp2 ?restp2
        case hyp2 => (intro w hSw; (try dsimp only at hSw); first | (go_simp; done) | (go_simp; with_reducible rfl))
        simp only [Act.put, List.setIfInBounds_toArray, List.set_cons_zero, List.set_cons_succ]
        refine take_yes (i := 3) (v := ?vp3) rfl (by kernel_rfl) (by kernel_rfl) (by kernel_rfl) (fun _ _ _ h => h) (by rfl) (by assumption) ?hyp3 ?restp3
        case hyp3 => (intro w hSw; (try dsimp only at hSw); first | (go_simp; done) | (go_simp; with_reducible rfl))
        simp only [Act.put, List.setIfInBounds_toArray, List.set_cons_zero, List.set_cons_succ]
        refine take_yes (i := 4) (v := ?vp4) rfl (by kernel_rfl) (by kernel_rfl) (by kernel_rfl) (fun _ _ _ h => h) (by rfl) (by assumption) ?hyp4 ?restp4
        case hyp4 => (intro w hSw; (try dsimp only at hSw); first | (go_simp; done) | (go_simp; with_reducible rfl))
        simp only [Act.put, List.setIfInBounds_toArray, List.set_cons_zero, List.set_cons_succ]
        refine take_yes (i := 5) (v := ?vp5) rfl (by kernel_rfl) (by kernel_rfl) (by kernel_rfl) (fun _ _ _ h => h) (by rfl) (by assumption) ?hyp5 ?restp5
        case hyp5 => (intro w hSw; (try dsimp only at hSw); first | (go_simp; done) | (go_simp; with_reducible rfl))
        simp only [Act.put, List.setIfInBounds_toArray, List.set_cons_zero, List.set_cons_succ]
        refine take_yes (i := 6) (v := ?vp6) rfl (by kernel_rfl) (by kernel_rfl) (by kernel_rfl) (fun _ _ _ h => h) (by rfl) (by assumption) ?hyp6 ?restp6
        case hyp6 => (intro w hSw; (try dsimp only at hSw); first | (go_simp; done) | (go_simp; with_reducible rfl))
        simp only [Act.put, List.setIfInBounds_toArray, List.set_cons_zero, List.set_cons_succ]
        refine take_yes (i := 7) (v := ?vp7) rfl (by kernel_rfl) (by kernel_rfl) (by kernel_rfl) (fun _ _ _ h => h) (by rfl) (by assumption) ?hyp7 ?restp7
        case hyp7 => (intro w hSw; (try dsimp only at hSw); first | (go_simp; done) | (go_simp; with_reducible rfl))
        simp only [Act.put, List.setIfInBounds_toArray, List.set_cons_zero, List.set_cons_succ]
        refine take_yes (i := 8) (v := ?vp8) rfl (by kernel_rfl) (by kernel_rfl) (by kernel_rfl) (fun _ _ _ h => h) (by rfl) (by assumption) ?hyp8 ?restp8
        case hyp8 => (intro w hSw; (try dsimp only at hSw); first | (go_simp; done) | (go_simp; with_reducible rfl))
        simp only [Act.put, List.setIfInBounds_toArray, List.set_cons_zero, List.set_cons_succ]
        refine take_yes (i := 9) (v := ?vp9) rfl (by kernel_rfl) (by kernel_rfl) (by kernel_rfl) (fun _ _ _ h => h) (by rfl) (by assumption) ?hyp9 ?restp9
        case hyp9 => (intro w hSw; (try dsimp only at hSw); first | (go_simp; done) | (go_simp; with_reducible rfl))
        simp only [Act.put, List.setIfInBounds_toArray, List.set_cons_zero, List.set_cons_succ]
        refine take_yes (i := 10) (v := ?vp10) rfl (by kernel_rfl) (by kernel_rfl) (by kernel_rfl) (fun _ _ _ h => h) (by rfl) (by assumption) ?hyp10 ?restp10
        case hyp10 => (intro w hSw; (try dsimp only at hSw); first | (go_simp; done) | (go_simp; with_reducible rfl))
        simp only [Act.put, List.setIfInBounds_toArray, List.set_cons_zero, List.set_cons_succ]
        refine take_yes (i := 11) (v := ?vp11) rfl (by kernel_rfl) (by kernel_rfl) (by kernel_rfl) (fun _ _ _ h => h) (by rfl) (by assumption) ?hyp11 ?restp11
        case hyp11 => (intro w hSw; (try dsimp only at hSw); first | (go_simp; done) | (go_simp; with_reducible rfl))
        simp only [Act.put, List.setIfInBounds_toArray, List.set_cons_zero, List.set_cons_succ]
        refine take_call (i := 12) rfl (by kernel_rfl) (fun K hK => ?_)
        go_simp
        refine hK.out _ _ ?_ (fun hHeld => ?_)
        · first | exact ⟨c0, c1, hbel⟩ | exact ⟨c0, c1, hbel.drew⟩ | exact keepC hHeld ((Below.refl _ _).alloc (Nat.le_refl _) _)
        clear hK K
        have hsl := sl_one wr.drew (y0 + 256 * y1)
        have bel3 : Below wr.heap.size wr (wr.drew.alloc (.cells #[.int .i64 (y0 + 256 * y1)] 3)) := (Below.refl _ _).drew.alloc (Nat.le_refl _) _
        have hown' := Own.below hown bel3
        refine take_call (i := 13) rfl (by kernel_rfl) (fun K hK => ?_)
        refine step_append_any rfl (.tmp 18) (.tmp 30) 27 rfl w2.heap.size 3 i0 (.int .i64 0) 8 Tryd.underlying27 hi0 hz0 hz1 hz2 rfl v k cap _ rfl hown' _ 1 1 [.int .i64 (y0 + 256 * y1)] rfl hsl (by intro u hu; simp at hu; subst hu; rfl) (by unfold maxLen; omega) (by omega) (Nat.le_trans hsz1 (by simp)) ?_; intro a2 cap2 w4 hown4 hgrow4; have hne : ∀ g, (Value.slice v k cap).ownBlock = some g → w2.heap.size ≤ g := fun g hg => (World.ownsRow.lt hown' g hg).1; have row4 := Row.grownP (row.below bel3 (Nat.lt_of_lt_of_le hbs hsz1)) (Nat.lt_of_lt_of_le hbs (Nat.le_trans hsz1 bel3.size)) hgrow4 (fun g hg => by have := hne g hg; omega); have bel4 := (also hbel bel3).grown hgrow4 (also hbel bel3).size (fun g hg => by have := hne g hg; have := hbel.size; omega); have xz4 := Bx.grownP (xz.on bel3) hgrow4 (fun g hg => by have := hne g hg; omega)
        refine hK.out _ _ ?_ (fun hHeld => ?_)
        · exact ⟨row4.cell _ _ (by rw [HE0.out]; exact lq.dcells_at _ _ _ hlt), row4.cell _ _ (by rw [HE1.out]; exact lq.dcells_at _ _ _ hj1), bel4⟩
        clear hK K
        refine take_yes (i := 14) (v := ?vp14) rfl (by kernel_rfl) (by kernel_rfl) (by kernel_rfl) (fun _ _ _ h => h) (by rfl) (by assumption) ?hyp14 ?restp14
        case hyp14 => (intro w hSw; (try dsimp only at hSw); first | (go_simp; done) | (go_simp; with_reducible rfl))
        simp only [Act.put, List.setIfInBounds_toArray, List.set_cons_zero, List.set_cons_succ]
        refine wpAnyH_done (by kernel_rfl) ?_ _
        go_wp2
        go_roundw
        case rel => exact ⟨k + 1, j + 2, cap2, a2, by omega, by have := HJ.out; omega, by simp, rfl, by rw [HS.out, HD0.out]; exact hown4, row4, xz4, bel4, Nat.le_trans hsz1 (Nat.le_trans bel3.size hgrow4.size)⟩
        case measure => simp [intOf]; omega
      · obtain rfl : k = 16 := by omega
        obtain rfl : j = 32 := by omega
        have hf0 := Own.far hown
        go_wp2_with (go_at_call 62; fail)
        refine (rtrim_own v 16 cap U w2.heap.size wr hown HU16.out).mono ?_
        rintro e w5 ⟨rfl, hw, hown5⟩; subst hw
        have hf5 := Own.far hown5
        go_wp2_with (go_at_call 42; fail)
        refine (rwMake (1) v (hf.nlen U) cap U x wr ⟨Own.sl hown5, rfl⟩ HU.out HR.out).mono ?_
        rintro e w6 ⟨s6, d6, l6, c6, rfl, h6, f6, b6⟩
        obtain ⟨k0, k1, k2, k3⟩ := xz.on b6
        have hsz0 := hbel.size
        go_wp2
        exact bodyPost_ret (v := .agg #[.int .i64 s6, .slice d6 l6 c6]) (by simp [results, Tryd.results33, go_sem, *]) rfl (endR _ (by omega) (also hbel b6) h6 (f6 _ (by omega) (hf5 _ (by omega))) (fun i hi _ => f6 i (by omega) (hf5 i (by omega))) _ _)
end Go.Proofs.YtpkcjgkgabemoaaDoor

namespace Go.Proofs.YtpkcjgkgabemoaaDoor.lq
open Go.RowKit
open Go.ChangeShapes Go.WideShapes Go.ChangeAt Go.Joins
set_option linter.unusedVariables false
set_option linter.constructorNameAsVariable false

theorem list4 {cs : Array Value} (h : cs.size = 4) : ∃ c0 c1 c2 c3, cs = #[c0, c1, c2, c3] := by
  obtain ⟨l⟩ := cs
  match l, h with
  | [c0, c1, c2, c3], _ => exact ⟨c0, c1, c2, c3, rfl⟩
theorem cellsU : Tryd.prog.cellsOf 50 = 1 := by kernel_rfl
theorem cellsQ : Tryd.prog.cellsOf 52 = 4 := by kernel_rfl
theorem open_quad {H : Type} {enc : TypeId × Value → H} {w W : World} {r : Reach} {b0 bs : Nat} {sp : Nat → Bool} {hd : Bool} {v : Value} {d : DataW H} {p : List MemPlace} (hv : Value.okWide Tryd.prog w r b0 52 v) (h : DataW.Trod enc Tryd.prog W bs sp hd 52 v d p) :
    ∃ a0 a1 a2 a3 : Int, v = .agg #[.int .u64 a0, .int .u64 a1, .int .u64 a2, .int .u64 a3] ∧ d = .agg [.lit (.int .u64 a0), .lit (.int .u64 a1), .lit (.int .u64 a2), .lit (.int .u64 a3)] ∧ p = [] ∧ (Lit.int .u64 a0).wf = true ∧ (Lit.int .u64 a1).wf = true ∧ (Lit.int .u64 a2).wf = true ∧ (Lit.int .u64 a3).wf = true := by
  simp only [Value.okWide, Tryd.underlying52] at hv
  obtain ⟨cs, rfl, hsz, _⟩ := hv
  obtain ⟨c0, c1, c2, c3, rfl⟩ := list4 (hsz.trans cellsQ)
  obtain ⟨fuel, hf⟩ := h
  obtain ⟨y0, y1, y2, y3, n, hx, h0, h1, h2, h3⟩ := trod_array4 Tryd.underlying52 cellsU hf
  obtain ⟨a0, e0, rfl, w0⟩ := DataW.trod_int Tryd.underlying50 h0
  obtain ⟨a1, e1, rfl, w1⟩ := DataW.trod_int Tryd.underlying50 h1
  obtain ⟨a2, e2, rfl, w2⟩ := DataW.trod_int Tryd.underlying50 h2
  obtain ⟨a3, e3, rfl, w3⟩ := DataW.trod_int Tryd.underlying50 h3
  simp at e0 e1 e2 e3 hx
  subst e0 e1 e2 e3
  exact ⟨a0, a1, a2, a3, rfl, hx.1, hx.2, w0, w1, w2, w3⟩
theorem shut_quad {H : Type} {enc : TypeId × Value → H} {W : World} {bs : Nat} {sp : Nat → Bool} {hd : Bool} {a0 a1 a2 a3 : Int} (w0 : (Lit.int .u64 a0).wf = true) (w1 : (Lit.int .u64 a1).wf = true) (w2 : (Lit.int .u64 a2).wf = true) (w3 : (Lit.int .u64 a3).wf = true) :
    DataW.Trod enc Tryd.prog W bs sp hd 52 (.agg #[.int .u64 a0, .int .u64 a1, .int .u64 a2, .int .u64 a3]) (.agg [.lit (.int .u64 a0), .lit (.int .u64 a1), .lit (.int .u64 a2), .lit (.int .u64 a3)]) [] := by
  have r4 : List.range 4 = [0, 1, 2, 3] := rfl
  exact ⟨2, by simp [DataW.trod, Tryd.underlying52, Tryd.underlying50, cellsU, cellsQ, Value.cells, r4, w0, w1, w2, w3]⟩

/-- The number of four words. -/
def qn (a0 a1 a2 a3 : Int) : Int := a0 + a1 * 18446744073709551616 + a2 * 340282366920938463463374607431768211456 + wrap64 a3 * 6277101735386680763835789423207666416102355444464034512896
theorem quad_mk {a0 a1 a2 a3 : Int} (w0 : (Lit.int .u64 a0).wf = true) (w1 : (Lit.int .u64 a1).wf = true) (w2 : (Lit.int .u64 a2).wf = true) (w3 : (Lit.int .u64 a3).wf = true) :
    q.dg (qn a0 a1 a2 a3) 0 = a0 ∧ q.dg (qn a0 a1 a2 a3) 1 = a1 ∧ q.dg (qn a0 a1 a2 a3) 2 = a2 ∧ q.dg (qn a0 a1 a2 a3) 3 = a3 ∧
    -57896044618658097711785492504343953926634992332820282019728792003956564819968 ≤ qn a0 a1 a2 a3 ∧ qn a0 a1 a2 a3 < 57896044618658097711785492504343953926634992332820282019728792003956564819968 := by
  have h0 := bd_u64 w0; have h1 := bd_u64 w1; have h2 := bd_u64 w2; have h3 := bd_u64 w3
  rw [qdg0, qdg1, qdg2, qdg3]
  have ht : -9223372036854775808 ≤ wrap64 a3 ∧ wrap64 a3 < 9223372036854775808 ∧ wrap64 a3 % 18446744073709551616 = a3 := by unfold wrap64; omega
  unfold qn
  generalize wrap64 a3 = t at *
  refine ⟨by omega, by omega, ?_, ?_, by omega, by omega⟩
  · have e : (a0 + a1 * 18446744073709551616 + a2 * 340282366920938463463374607431768211456 + t * 6277101735386680763835789423207666416102355444464034512896) / 340282366920938463463374607431768211456 = a2 + t * 18446744073709551616 := by omega
    rw [e]; omega
  · have e : (a0 + a1 * 18446744073709551616 + a2 * 340282366920938463463374607431768211456 + t * 6277101735386680763835789423207666416102355444464034512896) / 6277101735386680763835789423207666416102355444464034512896 = t := by omega
    rw [e]; omega
theorem wide_range (h l : Int) (h1 : -9223372036854775808 ≤ h) (h2 : h ≤ 9223372036854775807) (l1 : 0 ≤ l) (l2 : l ≤ 18446744073709551615) : -170141183460469231731687303715884105728 ≤ h * 18446744073709551616 + l ∧ h * 18446744073709551616 + l < 170141183460469231731687303715884105728 := by omega
end Go.Proofs.YtpkcjgkgabemoaaDoor.lq
