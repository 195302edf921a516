/-
  zelligeref01.Show answers the decimal text of the number.
-/
import Derived.Test.YtjkbmpcchlfglaaRefF
namespace Go.Proofs.Ytjkbmpcchlfglaa
open Go.RowKit
set_option linter.unusedVariables false

theorem ret_str {a b : ByteArray} (h : a = b) : Ending.returned (.string a) = .returned (.string b) := by rw [h]
def strLen : Value → Nat
  | .string s => s.size
  | _ => 0
theorem divRel_start (w wo : World) (bl q : Nat) (hq : q < 340282366920938463463374607431768211456) (hrow : Row wo bl (dcells 16 (q : Int))) (hb : Below w.heap.size w wo) (h1 : w.heap.size ≤ bl) (h2 : bl < wo.heap.size) : DivRel w bl (q : Int) (.bool false) (.int .i64 0) (.int .i64 15) wo := by
  have e16 : (256 : Int) ^ 16 = 340282366920938463463374607431768211456 := by decide
  refine ⟨16, 0, false, by omega, rfl, ?_, rfl, rfl, ?_, ?_, hb, h1, h2⟩
  · rw [e16]; omega
  · rw [e16]; simp; omega
  · rw [mix_full]; exact hrow
theorem slice10 (r : Int) (r0 : 0 ≤ r) (r1 : r < 10) (w : World) : (Instr.slice 9 (.string ⟨#[48, 49, 50, 51, 52, 53, 54, 55, 56, 57]⟩) (some (.int .i64 r)) (some (.int .i64 (r + 1))) none).run Try.prog w = .ok (.string (strOfNums [48 + r])) w := by
  have : r = 0 ∨ r = 1 ∨ r = 2 ∨ r = 3 ∨ r = 4 ∨ r = 5 ∨ r = 6 ∨ r = 7 ∨ r = 8 ∨ r = 9 := by omega
  rcases this with h | h | h | h | h | h | h | h | h | h <;> (subst h; show _ = _; kernel_rfl)
theorem strOfNums_append (a b : List Int) : strOfNums a ++ strOfNums b = strOfNums (a ++ b) := by
  apply ByteArray.ext
  rw [ByteArray.data_append]
  simp [strOfNums]
theorem str_minus (l : List Int) : (⟨#[45]⟩ : ByteArray) ++ strOfNums l = strOfNums (45 :: l) := strOfNums_append [45] l
theorem shRel_next (w wr : World) (bl m t q : Nat) (mb : Bool) (ht : t ≤ 38) (hq : q = m / 10 ^ t) (hmb : mb = true ↔ 0 < q / 10) (hrow : Row wr bl (dcells 16 ((q : Int) / 10))) (hb : Below w.heap.size w wr) (h1 : w.heap.size ≤ bl) (h2 : bl < wr.heap.size) (hgo : t = 0 ∨ q ≠ 0) :
    ShRel w bl m (.string (strOfNums [48 + (q : Int) % 10] ++ strOfNums (digs t m))) (.bool mb) wr := by
  refine ⟨t + 1, q / 10, mb, by omega, ?_, ?_, rfl, ?_, by simpa using hrow, hb, h1, h2, ?_⟩
  · rw [hq, Nat.div_div_eq_div_mul, Nat.pow_succ]
  · rw [strOfNums_append, digs, ← hq]; simp
  · rw [hmb]; omega
  · rcases hgo with h | h
    · exact Or.inl (by omega)
    · exact Or.inr (le_of_div_ne hq h)
theorem meas_ok (q t m : Nat) (ht : t ≤ 38) : 60 - strLen (.string (strOfNums [48 + (q : Int) % 10] ++ strOfNums (digs t m))) < 60 - strLen (.string (strOfNums (digs t m))) := by
  rw [strOfNums_append]
  simp only [strLen, strOfNums_size, List.length_append, List.length_cons, List.length_nil, digs_length]
  omega
set_option maxHeartbeats 2000000 in
theorem rshow_neg (v : Int) (b : Nat) (w : World) (r : Row w b (dcells 16 v)) (hb : b < w.heap.size) (h0 : -170141183460469231731687303715884105728 ≤ v) (h1 : v < 170141183460469231731687303715884105728) (hneg : v < 0) :
    Calls Try.prog 27 #[.slice (some ⟨b, 0, none⟩) 16 16] w fun e w' => e = .returned (.string (showS v)) ∧ Below w.heap.size w w' := by
  have hc : ∀ j, j < 16 → w.cell? ⟨b, j, none⟩ = some (.int .i64 (dg v j)) := fun j hj => r.cell j _ (dcells_at _ _ _ hj)
  have hg := (dg15 v h0 h1).2 hneg
  obtain ⟨m, hm⟩ : ∃ m, v.natAbs = m := ⟨_, rfl⟩
  have hm' : m ≤ 170141183460469231731687303715884105728 := by omega
  have HA : Hid (v.natAbs = m) := hm
  have HN : Hid (-v = (m : Int)) := by unfold Hid; omega
  clear hm
  go_enter Try.func27, Try.ntmps27
  go_wp2_with (first
    | (go_at_call 34; refine (below_yes v _ _ (copied v w _ _) hg).mono ?_; rintro e w' ⟨rfl, hw⟩; have hw := hw.symm; subst hw)
    | (go_at_call 14; refine (rneg_any v _ _ (copied v w _ _) (by simp)).mono ?_; rintro e w1 ⟨bl, rfl, hmd⟩))
  clear hc
  go_loopw [4, 6] (fun s more wr => ShRel w bl m s more wr) (fun s _ _ => 60 - strLen s)
  case atStart =>
    refine ⟨0, m, true, by omega, by simp, rfl, rfl, by simp, ?_, ((((Below.refl _ _).alloc (Nat.le_refl _) _).alloc (by simp) _).drew).trans (hmd.below.mono (by simp; omega)), ?_, hmd.size, Or.inl (by omega)⟩
    · rw [← HN.out]; exact hmd.row
    · have := hmd.old; simp at this; omega
  case round =>
    obtain ⟨t, q, mb, ht, hq0, rfl, rfl, hmb, hrow, hbr, hb1, hb2, hlen0⟩ := hrel
    have HQ : Hid (q = m / 10 ^ t) := hq0
    have HL : Hid (t ≤ 1 ∨ 10 ^ (t - 1) ≤ m) := hlen0
    have HM : Hid (mb = true ↔ (t = 0 ∨ 0 < q)) := hmb
    have hqm : q ≤ m := by rw [hq0]; exact Nat.div_le_self _ _
    clear hq0 hlen0 hmb
    rcases mb with _ | _
    · have hz : t ≠ 0 ∧ q = 0 := by have := HM.out; simp at this; omega
      obtain ⟨ht1, rfl⟩ := hz
      have T : Hid (showI v = 45 :: digs t m) := by
        unfold Hid showI
        rw [HA.out, ndig_eq (by omega) (isLen_of (by omega) HQ.out.symm HL.out)]
        rw [if_pos hneg]; rfl
      clear HQ HL HM
      have z1 : (strOfNums (digs t m)).size = t := by rw [strOfNums_size, digs_length]
      have z3 : ¬ 9223372036854775807 < 1 + t := by omega
      go_wp2
      go_ret
      exact ⟨ret_str (by rw [str_minus, showS, T.out]), hbr⟩
    · have ht2 : t ≤ 38 := by
        rcases Nat.lt_or_ge t 39 with h | h
        · omega
        · exfalso
          have h1 := (HM.out).1 rfl
          have h2 := HQ.out
          rw [pow39 m t hm' h] at h2
          omega
      have HGO : Hid (t = 0 ∨ q ≠ 0) := by have h1 := (HM.out).1 rfl; unfold Hid; omega
      obtain ⟨wo, rfl⟩ : ∃ wo : World, wo = wr := ⟨_, rfl⟩
      have hqi : (0 : Int) ≤ (q : Int) := by omega
      clear HM
      go_wp2
      go_loopw [6, 7, 8] (fun more rest i wr => DivRel w bl (q : Int) more rest i wr) (fun _ _ i _ => (intOf i + 1).toNat)
      case atStart => exact divRel_start w wo bl q (by omega) hrow hbr hb1 hb2
      case round =>
        clear hrow hbr hb1 hb2
        obtain ⟨k, r, mb, hk, rfl, hr0, rfl, rfl, hmb, hrow, hbr, hb1, hb2⟩ := hrel
        rcases k with _ | k
        · have er : r = (q : Int) % 10 := by rw [hr0]; simp
          have HMB : Hid (mb = true ↔ 0 < q / 10) := by unfold Hid; rw [hmb]; simp; omega
          rw [mix_zero] at hrow
          clear hr0 hmb
          subst er
          have z1 : (strOfNums (digs t m)).size = t := by rw [strOfNums_size, digs_length]
          have z2 : (strOfNums [48 + (q : Int) % 10]).size = 1 := by rw [strOfNums_size]; rfl
          have z3 : ¬ 9223372036854775807 < 1 + t := by omega
          have hsl := slice10 ((q : Int) % 10) (by omega) (by omega)
          have r0 : 0 ≤ (q : Int) % 10 := by omega
          have r1 : (q : Int) % 10 < 10 := by omega
          go_wp2
          go_roundw
          case rel => exact shRel_next w wr bl m t q mb ht2 HQ.out HMB.out hrow hbr hb1 hb2 HGO.out
          case measure => exact meas_ok q t m ht2
        · have c1 : wr.cell? ⟨bl, k, none⟩ = some (.int .i64 (dg (q : Int) k)) := hrow.cell k _ (mix_last _ _ _ _ (by omega))
          have c4 : wr.frozen? ⟨bl, k, none⟩ = false := hrow.free k (by rw [mix_length]; omega)
          have r0 : 0 ≤ r := by omega
          have r1 : r < 10 := by omega
          obtain ⟨d0, d1⟩ := dg_range (q : Int) k
          have hl : (k : Int) < 16 := by omega
          have hi' : (((k + 1 : Nat) : Int) - 1) = (k : Int) := by omega
          rw [hi']
          clear hi'
          have EX : Hid ((r * 256 + dg (q : Int) k) / 10 = dg ((q : Int) / 10) k) := by rw [hr0]; exact (long_ten _ _).1
          rcases mb with _ | _
          · by_cases hp : 0 < (r * 256 + dg (q : Int) k) / 10
            · have hn := divRel_next w wr bl k q false hqi hk hmb hrow hbr hb1 hb2 true (by rw [← EX.out]; simp [hp])
              rw [← hr0] at hn
              clear hr0 hmb
              go_wp2
              go_roundw
              case rel => exact hn
              case measure => simp [intOf]
            · have hn := divRel_next w wr bl k q false hqi hk hmb hrow hbr hb1 hb2 false (by rw [← EX.out]; simp; omega)
              rw [← hr0] at hn
              have hpd : decide (0 < (r * 256 + dg (q : Int) k) / 10) = false := by simpa using hp
              clear hr0 hmb
              go_wp2
              go_roundw
              case rel => exact hn
              case measure => simp [intOf]
          · have hn := divRel_next w wr bl k q true hqi hk hmb hrow hbr hb1 hb2 true (by simp)
            rw [← hr0] at hn
            clear hr0 hmb
            go_wp2
            go_roundw
            case rel => exact hn
            case measure => simp [intOf]
set_option maxHeartbeats 2000000 in
theorem rshow_pos (v : Int) (b : Nat) (w : World) (r : Row w b (dcells 16 v)) (hb : b < w.heap.size) (h0 : -170141183460469231731687303715884105728 ≤ v) (h1 : v < 170141183460469231731687303715884105728) (hneg : ¬ v < 0) :
    Calls Try.prog 27 #[.slice (some ⟨b, 0, none⟩) 16 16] w fun e w' => e = .returned (.string (showS v)) ∧ Below w.heap.size w w' := by
  have hc : ∀ j, j < 16 → w.cell? ⟨b, j, none⟩ = some (.int .i64 (dg v j)) := fun j hj => r.cell j _ (dcells_at _ _ _ hj)
  have hg : ¬ 128 ≤ dg v 15 := fun h => hneg ((dg15 v h0 h1).1 h)
  have HG : Hid _ := hg
  clear hg
  obtain ⟨m, hm⟩ : ∃ m, v.natAbs = m := ⟨_, rfl⟩
  have hm' : m ≤ 170141183460469231731687303715884105728 := by omega
  have HA : Hid (v.natAbs = m) := hm
  have HN : Hid (v = (m : Int)) := by unfold Hid; omega
  clear hm
  go_enter Try.func27, Try.ntmps27
  go_wp2_with (first
    | (go_at_call 34; refine (below_no v _ _ (copied v w _ _) (by have := HG.out; omega)).mono ?_; rintro e w' ⟨rfl, hw⟩; have hw := hw.symm; subst hw))
  have hcp := copied v w 3
  clear hc
  go_loopw [4, 6] (fun s more wr => ShRel w (w.heap.size + 1) m s more wr) (fun s _ _ => 60 - strLen s)
  case atStart =>
    refine ⟨0, m, true, by omega, by simp, rfl, rfl, by simp, ?_, (((Below.refl _ _).alloc (Nat.le_refl _) _).alloc (by simp) _).drew, by omega, by simp, Or.inl (by omega)⟩
    rw [← HN.out]; exact hcp _
  case round =>
    obtain ⟨t, q, mb, ht, hq0, rfl, rfl, hmb, hrow, hbr, hb1, hb2, hlen0⟩ := hrel
    have HQ : Hid (q = m / 10 ^ t) := hq0
    have HL : Hid (t ≤ 1 ∨ 10 ^ (t - 1) ≤ m) := hlen0
    have HM : Hid (mb = true ↔ (t = 0 ∨ 0 < q)) := hmb
    have hqm : q ≤ m := by rw [hq0]; exact Nat.div_le_self _ _
    clear hq0 hlen0 hmb
    rcases mb with _ | _
    · have hz : t ≠ 0 ∧ q = 0 := by have := HM.out; simp at this; omega
      obtain ⟨ht1, rfl⟩ := hz
      have T : Hid (showI v = digs t m) := by
        unfold Hid showI
        rw [HA.out, ndig_eq (by omega) (isLen_of (by omega) HQ.out.symm HL.out)]
        rw [if_neg (by omega)]; rfl
      clear HQ HL HM
      have z1 : (strOfNums (digs t m)).size = t := by rw [strOfNums_size, digs_length]
      have z3 : ¬ 9223372036854775807 < 1 + t := by omega
      go_wp2
      go_ret
      exact ⟨ret_str (by rw [showS, T.out]), hbr⟩
    · have ht2 : t ≤ 38 := by
        rcases Nat.lt_or_ge t 39 with h | h
        · omega
        · exfalso
          have h1 := (HM.out).1 rfl
          have h2 := HQ.out
          rw [pow39 m t hm' h] at h2
          omega
      have HGO : Hid (t = 0 ∨ q ≠ 0) := by have h1 := (HM.out).1 rfl; unfold Hid; omega
      obtain ⟨wo, rfl⟩ : ∃ wo : World, wo = wr := ⟨_, rfl⟩
      have hqi : (0 : Int) ≤ (q : Int) := by omega
      clear HM
      go_wp2
      go_loopw [6, 7, 8] (fun more rest i wr => DivRel w (w.heap.size + 1) (q : Int) more rest i wr) (fun _ _ i _ => (intOf i + 1).toNat)
      case atStart => exact divRel_start w wo (w.heap.size + 1) q (by omega) hrow hbr hb1 hb2
      case round =>
        clear hrow hbr hb1 hb2
        obtain ⟨k, r, mb, hk, rfl, hr0, rfl, rfl, hmb, hrow, hbr, hb1, hb2⟩ := hrel
        rcases k with _ | k
        · have er : r = (q : Int) % 10 := by rw [hr0]; simp
          have HMB : Hid (mb = true ↔ 0 < q / 10) := by unfold Hid; rw [hmb]; simp; omega
          rw [mix_zero] at hrow
          clear hr0 hmb
          subst er
          have z1 : (strOfNums (digs t m)).size = t := by rw [strOfNums_size, digs_length]
          have z2 : (strOfNums [48 + (q : Int) % 10]).size = 1 := by rw [strOfNums_size]; rfl
          have z3 : ¬ 9223372036854775807 < 1 + t := by omega
          have hsl := slice10 ((q : Int) % 10) (by omega) (by omega)
          have r0 : 0 ≤ (q : Int) % 10 := by omega
          have r1 : (q : Int) % 10 < 10 := by omega
          go_wp2
          go_roundw
          case rel => exact shRel_next w wr (w.heap.size + 1) m t q mb ht2 HQ.out HMB.out hrow hbr hb1 hb2 HGO.out
          case measure => exact meas_ok q t m ht2
        · have c1 : wr.cell? ⟨(w.heap.size + 1), k, none⟩ = some (.int .i64 (dg (q : Int) k)) := hrow.cell k _ (mix_last _ _ _ _ (by omega))
          have c4 : wr.frozen? ⟨(w.heap.size + 1), k, none⟩ = false := hrow.free k (by rw [mix_length]; omega)
          have r0 : 0 ≤ r := by omega
          have r1 : r < 10 := by omega
          obtain ⟨d0, d1⟩ := dg_range (q : Int) k
          have hl : (k : Int) < 16 := by omega
          have hi' : (((k + 1 : Nat) : Int) - 1) = (k : Int) := by omega
          rw [hi']
          clear hi'
          have EX : Hid ((r * 256 + dg (q : Int) k) / 10 = dg ((q : Int) / 10) k) := by rw [hr0]; exact (long_ten _ _).1
          rcases mb with _ | _
          · by_cases hp : 0 < (r * 256 + dg (q : Int) k) / 10
            · have hn := divRel_next w wr (w.heap.size + 1) k q false hqi hk hmb hrow hbr hb1 hb2 true (by rw [← EX.out]; simp [hp])
              rw [← hr0] at hn
              clear hr0 hmb
              go_wp2
              go_roundw
              case rel => exact hn
              case measure => simp [intOf]
            · have hn := divRel_next w wr (w.heap.size + 1) k q false hqi hk hmb hrow hbr hb1 hb2 false (by rw [← EX.out]; simp; omega)
              rw [← hr0] at hn
              have hpd : decide (0 < (r * 256 + dg (q : Int) k) / 10) = false := by simpa using hp
              clear hr0 hmb
              go_wp2
              go_roundw
              case rel => exact hn
              case measure => simp [intOf]
          · have hn := divRel_next w wr (w.heap.size + 1) k q true hqi hk hmb hrow hbr hb1 hb2 true (by simp)
            rw [← hr0] at hn
            clear hr0 hmb
            go_wp2
            go_roundw
            case rel => exact hn
            case measure => simp [intOf]
theorem rshow_any (v : Int) (b : Nat) (w : World) (r : Row w b (dcells 16 v)) (hb : b < w.heap.size) (h0 : -170141183460469231731687303715884105728 ≤ v) (h1 : v < 170141183460469231731687303715884105728) :
    Calls Try.prog 27 #[.slice (some ⟨b, 0, none⟩) 16 16] w fun e w' => e = .returned (.string (showS v)) ∧ Below w.heap.size w w' := by
  by_cases h : v < 0
  · exact rshow_neg v b w r hb h0 h1 h
  · exact rshow_pos v b w r hb h0 h1 h
end Go.Proofs.Ytjkbmpcchlfglaa
