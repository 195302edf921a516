/-
  What zelligeref03's DivMod answers: bit by bit.
-/
import Derived.Test.YteoepelmapjhcaaDoorRef3E
namespace Go.Proofs.YteoepelmapjhcaaDoor
open Go.RowKit
set_option linter.unusedVariables false

theorem new_one (w : World) (x : Int) (T : TypeId) : Sl (w.alloc (.cells #[.int .i64 x] T)) (some ⟨w.heap.size, 0, none⟩) 1 1 [.int .i64 x] := Own.sl (World.ownsRow_lit (base := w.heap.size) (e := T) (size := 1) w #[.int .i64 x] 1 (Nat.le_refl _) (by decide) rfl)
theorem cell_one (x : Nat) (h : x < 65536) : hf.dcells 1 (x : Int) = [.int .i64 (x : Int)] := by
  simp [hf.dcells, List.range_succ, hf.dg]
  omega
theorem pow_bits (j : Nat) : 2 ^ j = 2 ^ (j % 16) * 65536 ^ (j / 16) := by
  rw [show (65536 : Nat) = 2 ^ 16 from rfl, ← Nat.pow_mul, ← Nat.pow_add]
  congr 1
  omega
theorem bit_of (u j : Nat) : (hf.dg (u : Int) (j / 16)) / 2 ^ (j % 16) % 2 = ((u / 2 ^ j % 2 : Nat) : Int) := by
  have e : u / 2 ^ j = u / 65536 ^ (j / 16) / 2 ^ (j % 16) := by rw [pow_bits, Nat.mul_comm, Nat.div_div_eq_div_mul]
  have e2 : hf.dg (u : Int) (j / 16) = ((u / 65536 ^ (j / 16) % 65536 : Nat) : Int) := by
    unfold hf.dg
    rw [Int.natCast_emod, Int.natCast_ediv, hf.pow_cast]
    rfl
  rw [e, e2]
  generalize u / 65536 ^ (j / 16) = X
  obtain ⟨b, hb⟩ : ∃ b, b = j % 16 := ⟨_, rfl⟩
  have hb16 : b < 16 := by omega
  rw [← hb]
  have e3 : X % 65536 / 2 ^ b % 2 = X / 2 ^ b % 2 := by
    have h1 : 65536 = 2 ^ b * (2 * 2 ^ (15 - b)) := by rw [← Nat.mul_assoc, Nat.mul_comm (2 ^ b) 2, ← Nat.pow_succ', ← Nat.pow_add, show b + 1 + (15 - b) = 16 by omega]
    rw [h1, Nat.mod_mul_right_div_self, Nat.mod_mul_right_mod]
  have e4 : ((X % 65536 / 2 ^ b % 2 : Nat) : Int) = ((X % 65536 : Nat) : Int) / 2 ^ b % 2 := by
    rw [Int.natCast_emod (X % 65536 / 2 ^ b), Int.natCast_ediv, Int.natCast_pow]; rfl
  rw [← e4, e3]
/-- A bit more in what has none there. -/
theorem bit_set (l j Q : Nat) (h : 2 ^ (j + 1) ∣ Q) : (hf.dcells l (Q : Int)).set (j / 16) (.int .i64 (hf.dg (Q : Int) (j / 16) + 2 ^ (j % 16))) = hf.dcells l ((Q + 2 ^ j : Nat) : Int) := by
  obtain ⟨b, hb⟩ : ∃ b, b = j % 16 := ⟨_, rfl⟩
  obtain ⟨a, ha⟩ : ∃ a, a = j / 16 := ⟨_, rfl⟩
  rw [← ha, ← hb]
  have hp := hf.pow_nat a
  have e1 : 2 ^ j = 2 ^ b * 65536 ^ a := by rw [ha, hb]; exact pow_bits j
  have e2 : (Q + 2 ^ j) / 65536 ^ a = Q / 65536 ^ a + 2 ^ b := by rw [e1, Nat.add_mul_div_right _ _ hp]
  obtain ⟨X, hX⟩ : ∃ X, X = Q / 65536 ^ a := ⟨_, rfl⟩
  have hd : 2 ^ (b + 1) ∣ X := by
    obtain ⟨c, rfl⟩ := h
    refine ⟨c, ?_⟩
    rw [hX, Nat.pow_succ, e1, show 2 ^ b * 65536 ^ a * 2 * c = 2 ^ b * 2 * c * 65536 ^ a by rw [Nat.mul_right_comm (2 ^ b), Nat.mul_right_comm _ (65536 ^ a) c], Nat.mul_div_cancel _ hp, Nat.pow_succ]
  have hb16 : b < 16 := by omega
  have hX2 : (X + 2 ^ b) / 65536 = X / 65536 ∧ (X + 2 ^ b) % 65536 = X % 65536 + 2 ^ b := by
    obtain ⟨c, rfl⟩ := hd
    have h1 : 65536 = 2 ^ (b + 1) * 2 ^ (15 - b) := by rw [← Nat.pow_add, show b + 1 + (15 - b) = 16 by omega]
    have h3 : 2 ^ (b + 1) * c % 65536 = 2 ^ (b + 1) * (c % 2 ^ (15 - b)) := by rw [h1, Nat.mul_mod_mul_left]
    have h4 : c % 2 ^ (15 - b) + 1 ≤ 2 ^ (15 - b) := Nat.mod_lt _ (Nat.pow_pos (by decide))
    have h5 : 2 ^ (b + 1) * (c % 2 ^ (15 - b)) + 2 ^ (b + 1) ≤ 65536 := by
      have := Nat.mul_le_mul_left (2 ^ (b + 1)) h4
      rw [← h1, Nat.mul_add, Nat.mul_one] at this
      exact this
    have h6 : 2 ^ (b + 1) = 2 * 2 ^ b := by rw [Nat.pow_succ, Nat.mul_comm]
    have h7 : 0 < 2 ^ b := Nat.pow_pos (by decide)
    rw [← h3] at h5
    generalize 2 ^ (b + 1) * c = Y at *
    omega
  refine List.ext_getElem? fun i => ?_
  rw [List.getElem?_set]
  by_cases hi : i < l
  · have hdg : ∀ Z : Nat, hf.dg (Z : Int) i = ((Z / 65536 ^ i % 65536 : Nat) : Int) := fun Z => by
      unfold hf.dg
      rw [Int.natCast_emod, Int.natCast_ediv, hf.pow_cast]
      rfl
    by_cases hai : a = i
    · subst hai
      rw [if_pos rfl, if_pos (by rw [hf.dcells_length]; exact hi), hf.dcells_at _ _ _ hi, hdg, hdg, e2, ← hX, hX2.2]
      simp
    · rw [if_neg hai, hf.dcells_at _ _ _ hi, hf.dcells_at _ _ _ hi, hdg, hdg]
      rcases Nat.lt_or_ge i a with h1 | h1
      · have e3 : (Q + 2 ^ j) / 65536 ^ i % 65536 = Q / 65536 ^ i % 65536 := by
          have e4 : 2 ^ j = 2 ^ b * 65536 ^ (a - i - 1) * 65536 * 65536 ^ i := by
            rw [e1, Nat.mul_assoc, Nat.mul_assoc, ← Nat.pow_succ', ← Nat.pow_add, show a - i - 1 + (i + 1) = a by omega]
          rw [e4, Nat.add_mul_div_right _ _ (hf.pow_nat i), Nat.add_mul_mod_self_right]
        rw [e3]
      · have e3 : ∀ Z : Nat, Z / 65536 ^ i = Z / 65536 ^ a / 65536 / 65536 ^ (i - a - 1) := fun Z => by
          rw [Nat.div_div_eq_div_mul, Nat.div_div_eq_div_mul, ← Nat.pow_succ', ← Nat.pow_add, show a + (i - a - 1 + 1) = i by omega]
        rw [e3 (Q + 2 ^ j), e2, ← hX, hX2.1, hX, ← e3]
  · have hl1 : ∀ Z : Int, (hf.dcells l Z)[i]? = none := fun Z => List.getElem?_eq_none (by rw [hf.dcells_length]; omega)
    rw [hl1, hl1, hf.dcells_length]
    by_cases hai : a = i
    · rw [if_pos hai, if_neg (by omega)]
    · rw [if_neg hai]

/-- One bit more of a division. -/
theorem bit_step (X v c : Nat) (hv : 0 < v) (hc : c < 2) :
    (v ≤ X % v + X % v + c → (2 * X + c) % v = X % v + X % v + c - v ∧ (2 * X + c) / v = 2 * (X / v) + 1) ∧ (¬ v ≤ X % v + X % v + c → (2 * X + c) % v = X % v + X % v + c ∧ (2 * X + c) / v = 2 * (X / v)) := by
  have hr := Nat.mod_lt X hv
  have hd := Nat.div_add_mod X v
  obtain ⟨q, hq⟩ : ∃ q, q = X / v := ⟨_, rfl⟩
  obtain ⟨r, hr'⟩ : ∃ r, r = X % v := ⟨_, rfl⟩
  rw [← hq, ← hr'] at hd
  rw [← hr'] at hr
  rw [← hq, ← hr']
  refine ⟨fun h => ?_, fun h => ?_⟩
  · have e : 2 * X + c = (r + r + c - v) + v * (2 * q + 1) := by rw [Nat.mul_add, Nat.mul_left_comm]; omega
    rw [e, Nat.add_mul_mod_self_left, Nat.add_mul_div_left _ _ hv, Nat.mod_eq_of_lt (by omega), Nat.div_eq_of_lt (by omega)]
    omega
  · have e : 2 * X + c = (r + r + c) + v * (2 * q) := by rw [Nat.mul_left_comm]; omega
    rw [e, Nat.add_mul_mod_self_left, Nat.add_mul_div_left _ _ hv, Nat.mod_eq_of_lt (by omega), Nat.div_eq_of_lt (by omega)]
    omega
theorem half_bit (u j : Nat) : u / 2 ^ j = 2 * (u / 2 ^ (j + 1)) + u / 2 ^ j % 2 := by
  rw [Nat.pow_succ, ← Nat.div_div_eq_div_mul]
  omega
theorem add1 (a : Option Addr) (ca N B : Nat) (w : World) (ha : Sl w a (hf.nlen N) ca (hf.dcells (hf.nlen N) (N : Int))) (hlu : hf.nlen N ≤ 1000000000) (hb : Sl w (some ⟨B, 0, none⟩) 1 1 [.int .i64 1]) :
    Calls Tryd.prog 15 #[.slice a (hf.nlen N) ca, .slice (some ⟨B, 0, none⟩) 1 1] w fun e w' => ∃ a' cap', e = .returned (.slice a' (hf.nlen (N + 1)) cap') ∧ Own w' w.heap.size 3 a' (hf.nlen (N + 1)) cap' (hf.dcells (hf.nlen (N + 1)) ((N + 1 : Nat) : Int)) ∧ Below w.heap.size w w' := by
  have n1 : hf.nlen 1 = 1 := hf.nlen_eq ⟨by decide, Or.inr (by decide)⟩
  have h := radd_any a (some ⟨B, 0, none⟩) ca 1 N 1 w ha (by rw [n1]; rw [cell_one 1 (by decide)]; exact hb) hlu (by rw [n1]; decide)
  rw [n1] at h
  exact h
theorem few2 {R v X : Nat} (h : R < v) (hv : hf.nlen v ≤ 10000000) (hX : X ≤ R + R + 1) : hf.nlen X ≤ 1000000000 := by
  have h1 := hf.nlen_lt v
  have : hf.nlen X ≤ hf.nlen v + 1 := hf.nlen_le (by rw [Nat.pow_succ]; omega)
  omega
/-- What holds at the head of each round. -/
def BitwRel (w : World) (u v l qb : Nat) (r i : Value) (wr : World) : Prop := ∃ (t R cap : Nat) (ar : Option Addr), t ≤ 16 * l ∧ i = .int .i64 ((t : Int) - 1) ∧ r = .slice ar (hf.nlen R) cap ∧ Hid (R = u / 2 ^ t % v) ∧
  Own wr w.heap.size 3 (some ⟨qb, 0, none⟩) l l (hf.dcells l ((u / 2 ^ t / v * 2 ^ t : Nat) : Int)) ∧ Own wr w.heap.size 3 ar (hf.nlen R) cap (hf.dcells (hf.nlen R) (R : Int)) ∧ Below w.heap.size w wr
theorem own_ne {w : World} {base n cap qb : Nat} {T : TypeId} {a : Option Addr} {xs : List Value} (h : Own w base T a n cap xs) (hb : qb < base) : ∀ o, a ≠ some ⟨qb, o, none⟩ := by
  intro o e
  obtain ⟨hl, ⟨h1, _⟩ | ⟨g, cap', cur, hv, hb', r⟩⟩ := h
  · rw [e] at h1
    cases h1
  · rw [e] at hv
    cases hv
    omega
theorem bitw_less {w w3 : World} {u v l qb j R2 c2 c : Nat} {a2 : Option Addr} (ht : j ≤ 16 * l) (hv : 0 < v) (hc : c < 2) (HX : u / 2 ^ j = 2 * (u / 2 ^ (j + 1)) + c) (hR2 : R2 = u / 2 ^ (j + 1) % v + u / 2 ^ (j + 1) % v + c) (hlt : ¬ v ≤ R2)
    (hq : Own w3 w.heap.size 3 (some ⟨qb, 0, none⟩) l l (hf.dcells l ((u / 2 ^ (j + 1) / v * 2 ^ (j + 1) : Nat) : Int))) (hr : Own w3 w.heap.size 3 a2 (hf.nlen R2) c2 (hf.dcells (hf.nlen R2) (R2 : Int))) (hb : Below w.heap.size w w3) :
    BitwRel w u v l qb (.slice a2 (hf.nlen R2) c2) (.int .i64 ((j : Int) - 1)) w3 := by
  obtain ⟨h1, h2⟩ := (bit_step (u / 2 ^ (j + 1)) v c hv hc).2 (by rw [← hR2]; exact hlt)
  rw [← HX] at h1 h2
  refine ⟨j, R2, c2, a2, ht, rfl, rfl, by unfold Hid; rw [h1, hR2], ?_, hr, hb⟩
  rw [h2, show 2 * (u / 2 ^ (j + 1) / v) * 2 ^ j = u / 2 ^ (j + 1) / v * 2 ^ (j + 1) by rw [Nat.pow_succ, Nat.mul_comm 2, Nat.mul_assoc, Nat.mul_comm 2]]
  exact hq
theorem bitw_more {w w4 : World} {u v l qb j A R2 c3 c base : Nat} {a3 : Option Addr} {P : Int} (ht : j < 16 * l) (hv : 0 < v) (hc : c < 2) (HX : u / 2 ^ j = 2 * (u / 2 ^ (j + 1)) + c) (hR2 : R2 = u / 2 ^ (j + 1) % v + u / 2 ^ (j + 1) % v + c) (hge : v ≤ R2) (hA : A = j / 16) (hP : P = 2 ^ (j % 16))
    (hq : Own w4 w.heap.size 3 (some ⟨qb, 0, none⟩) l l (hf.dcells l ((u / 2 ^ (j + 1) / v * 2 ^ (j + 1) : Nat) : Int))) (hr : Own w4 base 3 a3 (hf.nlen (R2 - v)) c3 (hf.dcells (hf.nlen (R2 - v)) ((R2 - v : Nat) : Int))) (hbase : qb < base) (hwb : w.heap.size ≤ base) (hqw : w.heap.size ≤ qb) (hb : Below w.heap.size w w4) :
    BitwRel w u v l qb (.slice a3 (hf.nlen (R2 - v)) c3) (.int .i64 ((j : Int) - 1)) (w4.setCell ⟨qb, A, none⟩ (.int .i64 (hf.dg ((u / 2 ^ (j + 1) / v * 2 ^ (j + 1) : Nat) : Int) A + P))) := by
  subst hA hP
  obtain ⟨h1, h2⟩ := (bit_step (u / 2 ^ (j + 1)) v c hv hc).1 (by rw [← hR2]; exact hge)
  rw [← HX] at h1 h2
  have ws : Wr w4 (w4.setCell ⟨qb, j / 16, none⟩ (.int .i64 (hf.dg ((u / 2 ^ (j + 1) / v * 2 ^ (j + 1) : Nat) : Int) (j / 16) + 2 ^ (j % 16)))) qb 0 l := (Wr.refl _ _ _ _).set _ (Nat.zero_le _) (by omega)
  refine ⟨j, R2 - v, c3, a3, by omega, rfl, rfl, by unfold Hid; rw [h1, hR2], ?_, Own.mono (ws.own hr (own_ne hr hbase)) hwb, hb.setCell hqw _⟩
  rw [h2, show (2 * (u / 2 ^ (j + 1) / v) + 1) * 2 ^ j = u / 2 ^ (j + 1) / v * 2 ^ (j + 1) + 2 ^ j by rw [Nat.add_mul, Nat.pow_succ, Nat.mul_comm 2, Nat.mul_assoc, Nat.mul_comm 2, Nat.one_mul], ← bit_set _ _ _ (Nat.dvd_mul_left _ _)]
  exact Own.set hq _ (by omega)

set_option maxRecDepth 100000 in
set_option maxHeartbeats 2000000 in
theorem rdivMod_any (a b : Option Addr) (ca cb u v : Nat) (w : World) (ha : Sl w a (hf.nlen u) ca (hf.dcells (hf.nlen u) (u : Int))) (hb : Sl w b (hf.nlen v) cb (hf.dcells (hf.nlen v) (v : Int))) (hlu : hf.nlen u ≤ 10000000) (hlv : hf.nlen v ≤ 10000000) (hv : 0 < v) :
    Calls Tryd.prog 21 #[.slice a (hf.nlen u) ca, .slice b (hf.nlen v) cb] w fun e w' => ∃ aq cq ar cr, e = .returned (.tuple #[.slice aq (hf.nlen (u / v)) cq, .slice ar (hf.nlen (u % v)) cr]) ∧
      Sl w' aq (hf.nlen (u / v)) cq (hf.dcells (hf.nlen (u / v)) ((u / v : Nat) : Int)) ∧ Sl w' ar (hf.nlen (u % v)) cr (hf.dcells (hf.nlen (u % v)) ((u % v : Nat) : Int)) ∧ Below w.heap.size w w' := by
  obtain ⟨i0, hi0, hz0, hz1, hz2⟩ := info_parts infoInt
  obtain ⟨l, hl⟩ : ∃ l, l = hf.nlen u := ⟨_, rfl⟩
  rw [← hl] at ha hlu
  have hul : u < 65536 ^ l := by rw [hl]; exact hf.nlen_lt u
  rw [← hl]
  clear hl
  have hz0' : hf.dcells l 0 = List.replicate l (.int .i64 0) := hf.dcells_zero _
  have hmax : l ≤ maxLen := by unfold maxLen; omega
  go_enter Tryd.func21, Tryd.ntmps21
  go_wp2_with (at_make; refine make_any _ rfl (.tmp 10) (.tmp 10) 25 rfl w.heap.size 3 i0 (.int .i64 0) Tryd.underlying25 hi0 hz0 hz1 rfl .i64 .i64 _ _ l rfl rfl (by simp) (by simp) (by rw [hz2]; omega) (by omega) (Nat.le_refl _) ?_; intro w1 hownQ hbel1)
  have hownR : Own (w1.alloc (.cells #[] 3)) w.heap.size 3 (some ⟨w1.heap.size, 0, none⟩) 0 0 [] := own_empty w1 w.heap.size 3 hbel1.size
  have b2 : Below w1.heap.size w1 (w1.alloc (.cells #[] 3)) := (Below.refl _ _).alloc (Nat.le_refl _) _
  have hz16 : u / 2 ^ (16 * l) = 0 := Nat.div_eq_of_lt (by rw [Nat.pow_mul]; exact hul)
  have HST : Hid (BitwRel w u v l w.heap.size (.slice (some ⟨w1.heap.size, 0, none⟩) 0 0) (.int .i64 ((16 : Int) * (l : Int) - 1)) (w1.alloc (.cells #[] 3))) := by
    refine ⟨16 * l, 0, 0, some ⟨w1.heap.size, 0, none⟩, Nat.le_refl _, by simp, by rw [hf.nlen_zero], by unfold Hid; rw [hz16, Nat.zero_mod], ?_, by rw [hf.nlen_zero]; exact hownR, hbel1.trans (b2.mono hbel1.size)⟩
    rw [hz16, Nat.zero_div, Nat.zero_mul]
    rw [← hz0'] at hownQ
    exact Own.below hownQ b2
  clear hownQ hownR hbel1 b2 hz16
  have hcapA := ha.big
  have hroomA := ha.room
  unfold maxLen at hcapA
  have HB : Hid _ := hb
  have fv : hf.nlen v ≤ 1000000000 := by omega
  go_loopw [7, 8] (fun r i wr => BitwRel w u v l w.heap.size r i wr) (fun _ i _ => (intOf i + 1).toNat)
  case atStart => exact HST.out
  case round =>
    obtain ⟨t, R, cap, ar, ht, rfl, rfl, HR, hq, hr, hbel⟩ := hrel
    rcases t with _ | j
    · have hR : R = u % v := by have := HR.out; simpa using this
      have hq' : Own wr w.heap.size 3 (some ⟨w.heap.size, 0, none⟩) l l (hf.dcells l ((u / v : Nat) : Int)) := by simpa using hq
      have hQl : Hid (u / v < 65536 ^ l) := Nat.lt_of_le_of_lt (Nat.div_le_self _ _) hul
      have HQ : Hid _ := hq'
      have HRR : Hid _ := Own.sl hr
      have HRe : Hid _ := hR
      clear hq hq' hr hR
      go_wp2_with (go_at_call 33; fail)
      refine (rtrim_own _ l l (u / v) w.heap.size wr HQ.out hQl.out).mono ?_
      rintro e w' ⟨rfl, hw, hq2⟩
      subst hw
      have hq3 := Own.sl hq2
      clear hq2
      go_wp2
      go_ret2
      rw [← HRe.out]
      exact ⟨_, _, ar, cap, rfl, hq3, HRR.out, hbel⟩
    · obtain ⟨A, hA⟩ : ∃ A, A = j / 16 := ⟨_, rfl⟩
      obtain ⟨B, hB⟩ : ∃ B, B = j % 16 := ⟨_, rfl⟩
      have hAl : A < l := by omega
      obtain ⟨ba, oa, rfl, hba, hsg⟩ := ha.at (by omega)
      have c1 : wr.cell? ⟨ba, oa + A, none⟩ = some (.int .i64 (hf.dg u A)) := (hbel.cell (p := ⟨ba, oa + A, none⟩) hba).trans (hsg.cell A _ (hf.dcells_at _ _ _ hAl))
      have e1 : ((j + 1 : Nat) : Int) - 1 = (j : Int) := by omega
      have e2 : (j : Int) / 16 = (A : Int) := by omega
      have e3 : (j : Int) % 16 = (B : Int) := by omega
      have hB16 : B < 16 := by omega
      have sR := Own.sl hr
      have HO : Hid _ := hq
      have hRv : R < v := by rw [HR.out]; exact Nat.mod_lt _ hv
      clear hq hr
      have fR : hf.nlen R ≤ 1000000000 := Nat.le_trans (hf.nlen_le (Nat.lt_trans hRv (hf.nlen_lt v))) fv
      have HBits : Hid ((hf.dg (u : Int) A) / 2 ^ B % 2 = ((u / 2 ^ j % 2 : Nat) : Int)) := by unfold Hid; rw [hA, hB]; exact bit_of u j
      have hc2 : u / 2 ^ j % 2 < 2 := Nat.mod_lt _ (by decide)
      have HX : Hid _ := half_bit u j
      have HSt : Hid _ := bit_step (u / 2 ^ (j + 1)) v (u / 2 ^ j % 2) hv hc2
      obtain ⟨d0, d1⟩ := hf.dg_range u A
      rw [e1]
      go_wp2_with (go_at_call 15; fail)
      refine (radd_any ar ar cap cap R R wr sR sR fR fR).mono ?_
      rintro e w2 ⟨a2, c2, rfl, ho2, hb2⟩
      have c1 : w2.cell? ⟨ba, oa + A, none⟩ = some (.int .i64 (hf.dg u A)) := (hb2.cell (p := ⟨ba, oa + A, none⟩) (Nat.lt_of_lt_of_le hba hbel.size)).trans c1
      obtain ⟨c, hc⟩ : ∃ c, c = u / 2 ^ j % 2 := ⟨_, rfl⟩
      rw [← hc] at HBits HSt HX hc2
      have HC : Hid _ := hc
      clear hc
      have HA : Hid _ := hA
      have hj16 : j < 16 * l := by omega
      obtain ⟨P2, hP2⟩ : ∃ P2 : Nat, P2 = 2 ^ B := ⟨_, rfl⟩
      have HP2 : Hid ((P2 : Int) = 2 ^ (j % 16)) := by unfold Hid; rw [hP2, hB, Int.natCast_pow]; rfl
      have fP : (2 : Int) ^ B = (P2 : Int) := by rw [hP2, Int.natCast_pow]; rfl
      have P2b : P2 ≤ 32768 := by rw [hP2]; exact Nat.le_trans (Nat.pow_le_pow_right (by decide) (show B ≤ 15 by omega)) (by decide)
      have P2p : 0 < P2 := by rw [hP2]; exact Nat.pow_pos (by decide)
      rw [fP] at HBits
      clear hA hB hP2
      obtain ⟨x, hx⟩ : ∃ x : Int, x = hf.dg (u : Int) A := ⟨_, rfl⟩
      rw [← hx] at d0 d1 HBits c1
      clear hx hsg
      rcases Nat.eq_zero_or_pos c with h0 | h0
      · subst h0
        have fB : (x / (P2 : Int)).tmod 2 = 0 := by rw [Int.tmod_eq_emod_of_nonneg (Int.ediv_nonneg d0 (by omega))]; exact HBits.out
        go_wp2_with (go_at_call 12; fail)
        have sr2 := Own.sl ho2
        have sb2 := (HB.out.below hbel).below hb2
        have bel2 := hbel.trans (hb2.mono hbel.size)
        have hq2 := Own.below HO.out hb2
        have fR2 : hf.nlen (R + R) ≤ 1000000000 := few2 hRv hlv (by omega)
        have HQ2 : Hid _ := hq2
        have HR2 : Hid (R + R = u / 2 ^ (j + 1) % v + u / 2 ^ (j + 1) % v + 0) := by unfold Hid; first | (rw [← HR.out]; done) | (rw [← HR.out]; rfl)
        by_cases hge : v ≤ R + R
        · obtain ⟨k, hk, hk0⟩ : ∃ k, k = cmpI ((R + R : Nat) : Int) (v : Int) ∧ 0 ≤ k := ⟨_, rfl, by unfold cmpI; rw [if_neg (by omega)]; split <;> decide⟩
          have HK : Hid _ := hk.symm
          clear hk hq2
          have hwsz := bel2.size
          refine (rcmp_any a2 b c2 cb (R + R) v w2 sr2 sb2).mono ?_
          rw [HK.out]
          rintro e w5 ⟨rfl, hb5⟩
          have sr5 := sr2.below hb5
          have sb5 := sb2.below hb5
          have hq5 := Own.below HQ2.out hb5
          have bel5 := bel2.trans (hb5.mono bel2.size)
          have HQ5 : Hid _ := hq5
          clear hq5
          go_wp2_with (go_at_call 18; fail)
          refine (rsub_any a2 b c2 cb (R + R) v w5 sr5 sb5 fR2 fv hge).mono ?_
          rintro e w6 ⟨a6, c6, rfl, ho6, hb6⟩
          have hq6 := Own.below HQ5.out hb6
          have bel6 := bel5.trans (hb6.mono bel5.size)
          have c3 : w6.cell? ⟨w.heap.size, A, none⟩ = some (.int .i64 (hf.dg ((u / 2 ^ (j + 1) / v * 2 ^ (j + 1) : Nat) : Int) A)) := Own.cell hq6 A _ (hf.dcells_at _ _ _ hAl)
          have c4 : w6.frozen? ⟨w.heap.size, A, none⟩ = false := Own.free hq6 A hAl
          obtain ⟨g0, g1⟩ := hf.dg_range ((u / 2 ^ (j + 1) / v * 2 ^ (j + 1) : Nat) : Int) A
          have HN : Hid _ := bitw_more (P := (P2 : Int)) hj16 hv (by omega) HX.out HR2.out hge HA.out HP2.out hq6 ho6 (Nat.lt_of_lt_of_le (seg_of_own HQ5.out).2.1 (Nat.le_refl _)) bel5.size (Nat.le_refl _) bel6
          obtain ⟨dq, hdq⟩ : ∃ dq : Int, dq = hf.dg ((u / 2 ^ (j + 1) / v * 2 ^ (j + 1) : Nat) : Int) A := ⟨_, rfl⟩
          rw [← hdq] at c3 g0 g1 HN
          clear hq6 ho6 hdq
          go_wp2
          go_roundw
          case rel => exact HN.out
          case measure => simp [intOf]
        · obtain ⟨k, hk, hk0⟩ : ∃ k, k = cmpI ((R + R : Nat) : Int) (v : Int) ∧ k < 0 := ⟨_, rfl, by unfold cmpI; rw [if_pos (by omega)]; decide⟩
          have HK : Hid _ := hk.symm
          clear hk hq2
          refine (rcmp_any a2 b c2 cb (R + R) v w2 sr2 sb2).mono ?_
          rw [HK.out]
          rintro e w5 ⟨rfl, hb5⟩
          have hq5 := Own.below HQ2.out hb5
          have bel5 := bel2.trans (hb5.mono bel2.size)
          have HN : Hid _ := bitw_less (by omega) hv (by omega) HX.out HR2.out hge hq5 (Own.below (Own.mono ho2 (Nat.le_trans hbel.size (Nat.le_refl _))) hb5) bel5
          clear hq5
          go_wp2
          go_roundw
          case rel => exact HN.out
          case measure => simp [intOf]
      · obtain rfl : c = 1 := by omega
        have fB : (x / (P2 : Int)).tmod 2 = 1 := by rw [Int.tmod_eq_emod_of_nonneg (Int.ediv_nonneg d0 (by omega))]; exact HBits.out
        go_wp2_with (go_at_call 15; fail)
        refine (add1 a2 c2 (R + R) w2.heap.size _ ((Own.sl ho2).below ((Below.refl _ _).alloc (Nat.le_refl _) _)) (few2 hRv hlv (by omega)) (new_one w2 1 3)).mono ?_
        rintro e w4 ⟨a4, c4', rfl, ho4, hb4⟩
        have hb4x : Below wr.heap.size wr w4 := (hb2.alloc hb2.size _).trans (hb4.mono (by have := hb2.size; simp; omega))
        go_wp2_with (go_at_call 12; fail)
        have sr2 := Own.sl ho4
        have sb2 := (HB.out.below hbel).below hb4x
        have bel2 := hbel.trans (hb4x.mono hbel.size)
        have hq2 := Own.below HO.out hb4x
        have fR2 : hf.nlen (R + R + 1) ≤ 1000000000 := few2 hRv hlv (by omega)
        have HQ2 : Hid _ := hq2
        have HR2 : Hid (R + R + 1 = u / 2 ^ (j + 1) % v + u / 2 ^ (j + 1) % v + 1) := by unfold Hid; first | (rw [← HR.out]; done) | (rw [← HR.out]; rfl)
        by_cases hge : v ≤ R + R + 1
        · obtain ⟨k, hk, hk0⟩ : ∃ k, k = cmpI ((R + R + 1 : Nat) : Int) (v : Int) ∧ 0 ≤ k := ⟨_, rfl, by unfold cmpI; rw [if_neg (by omega)]; split <;> decide⟩
          have HK : Hid _ := hk.symm
          clear hk hq2
          have hwsz := bel2.size
          refine (rcmp_any a4 b c4' cb (R + R + 1) v w4 sr2 sb2).mono ?_
          rw [HK.out]
          rintro e w5 ⟨rfl, hb5⟩
          have sr5 := sr2.below hb5
          have sb5 := sb2.below hb5
          have hq5 := Own.below HQ2.out hb5
          have bel5 := bel2.trans (hb5.mono bel2.size)
          have HQ5 : Hid _ := hq5
          clear hq5
          go_wp2_with (go_at_call 18; fail)
          refine (rsub_any a4 b c4' cb (R + R + 1) v w5 sr5 sb5 fR2 fv hge).mono ?_
          rintro e w6 ⟨a6, c6, rfl, ho6, hb6⟩
          have hq6 := Own.below HQ5.out hb6
          have bel6 := bel5.trans (hb6.mono bel5.size)
          have c3 : w6.cell? ⟨w.heap.size, A, none⟩ = some (.int .i64 (hf.dg ((u / 2 ^ (j + 1) / v * 2 ^ (j + 1) : Nat) : Int) A)) := Own.cell hq6 A _ (hf.dcells_at _ _ _ hAl)
          have c4 : w6.frozen? ⟨w.heap.size, A, none⟩ = false := Own.free hq6 A hAl
          obtain ⟨g0, g1⟩ := hf.dg_range ((u / 2 ^ (j + 1) / v * 2 ^ (j + 1) : Nat) : Int) A
          have HN : Hid _ := bitw_more (P := (P2 : Int)) hj16 hv (by omega) HX.out HR2.out hge HA.out HP2.out hq6 ho6 (Nat.lt_of_lt_of_le (seg_of_own HQ5.out).2.1 (Nat.le_refl _)) bel5.size (Nat.le_refl _) bel6
          obtain ⟨dq, hdq⟩ : ∃ dq : Int, dq = hf.dg ((u / 2 ^ (j + 1) / v * 2 ^ (j + 1) : Nat) : Int) A := ⟨_, rfl⟩
          rw [← hdq] at c3 g0 g1 HN
          clear hq6 ho6 hdq
          go_wp2
          go_roundw
          case rel => exact HN.out
          case measure => simp [intOf]
        · obtain ⟨k, hk, hk0⟩ : ∃ k, k = cmpI ((R + R + 1 : Nat) : Int) (v : Int) ∧ k < 0 := ⟨_, rfl, by unfold cmpI; rw [if_pos (by omega)]; decide⟩
          have HK : Hid _ := hk.symm
          clear hk hq2
          refine (rcmp_any a4 b c4' cb (R + R + 1) v w4 sr2 sb2).mono ?_
          rw [HK.out]
          rintro e w5 ⟨rfl, hb5⟩
          have hq5 := Own.below HQ2.out hb5
          have bel5 := bel2.trans (hb5.mono bel2.size)
          have HN : Hid _ := bitw_less (by omega) hv (by omega) HX.out HR2.out hge hq5 (Own.below (Own.mono ho4 (Nat.le_trans hbel.size (Nat.le_trans hb2.size (by simp)))) hb5) bel5
          clear hq5
          go_wp2
          go_roundw
          case rel => exact HN.out
          case measure => simp [intOf]
end Go.Proofs.YteoepelmapjhcaaDoor
