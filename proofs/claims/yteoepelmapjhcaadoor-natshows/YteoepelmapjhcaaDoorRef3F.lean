/-
  What zelligeref03's Show answers.
-/
import Derived.Test.YteoepelmapjhcaaDoorRef3E
import Derived.Test.YteoepelmapjhcaaDoorShowB
namespace Go.Proofs.YteoepelmapjhcaaDoor
open Go.RowKit
set_option linter.unusedVariables false

theorem slice10 (r : Int) (r0 : 0 ≤ r) (r1 : r < 10) (w : World) : (Instr.slice 9 (.string ⟨#[48, 49, 50, 51, 52, 53, 54, 55, 56, 57]⟩) (some (.int .i64 r)) (some (.int .i64 (r + 1))) none).run Tryd.prog w = .ok (.string (strOfNums [48 + r])) w := by
  have : r = 0 ∨ r = 1 ∨ r = 2 ∨ r = 3 ∨ r = 4 ∨ r = 5 ∨ r = 6 ∨ r = 7 ∨ r = 8 ∨ r = 9 := by omega
  rcases this with h | h | h | h | h | h | h | h | h | h <;> (subst h; show _ = _; kernel_rfl)
theorem hf_one (l : Nat) (u : Int) : ∀ v ∈ hf.dcells l u, v.oneCell' = true := by
  intro v hv
  unfold hf.dcells at hv
  simp only [List.mem_map] at hv
  obtain ⟨j, _, rfl⟩ := hv
  rfl
/-- What holds at the head of each round of the inner loop. -/
def TenIn (w : World) (U L cap : Nat) (a : Option Addr) (c i : Value) (wr : World) : Prop := ∃ (r : Nat) (R : Int), r ≤ L ∧ Hid (R = (U : Int) / 65536 ^ r % 10) ∧ i = .int .i64 ((r : Int) - 1) ∧ c = .int .i64 R ∧ 0 ≤ R ∧ R < 10 ∧ Own wr w.heap.size 3 a L cap (hf.xim L r ((U : Int) / 10) U) ∧ Below w.heap.size w wr
theorem ten_next (w wr : World) (U L cap b q : Nat) (R : Int) (hR : Hid (R = (U : Int) / 65536 ^ (q + 1) % 10)) (hq : q < L) (hown : Own wr w.heap.size 3 (some ⟨b, 0, none⟩) L cap (hf.xim L (q + 1) ((U : Int) / 10) U)) (hb : Below w.heap.size w wr) :
    TenIn w U L cap (some ⟨b, 0, none⟩) (.int .i64 ((R * 65536 + hf.dg U q) % 10)) (.int .i64 ((q : Int) - 1)) (wr.setCell ⟨b, q, none⟩ (.int .i64 ((R * 65536 + hf.dg U q) / 10))) := by
  refine ⟨q, _, by omega, ?_, rfl, rfl, by omega, by omega, ?_, hb.setCell (seg_of_own hown).2.2 _⟩
  · unfold Hid; rw [hR.out, (hf.long_div U 10 q (by decide)).2]
  · rw [hR.out, hf.quot_digit _ _ _ (by decide), ← hf.xim_set]
    exact Own.set hown _ hq
/-- What holds at the head of each round of the outer loop. -/
def TenOut (w : World) (u lu : Nat) (lv sv : Value) (wr : World) : Prop := ∃ (t U cap : Nat) (a : Option Addr), t ≤ dlen u ∧ (t ≤ 1 ∨ 10 ^ (t - 1) ≤ u) ∧ Hid (U = u / 10 ^ t) ∧ lv = .slice a (hf.nlen U) cap ∧ sv = .string (strOfNums (digs t u)) ∧ hf.nlen U ≤ lu ∧ Own wr w.heap.size 3 a (hf.nlen U) cap (hf.dcells (hf.nlen U) (U : Int)) ∧ Below w.heap.size w wr
theorem dlen_few {u l : Nat} (h : u < 65536 ^ l) : dlen u ≤ 5 * l + 1 := by
  obtain ⟨h1, h2, h3⟩ := isDec_dlen u
  rcases h3 with h3 | h3
  · omega
  · rcases Nat.lt_or_ge (5 * l) (dlen u - 1) with h4 | h4
    · have a1 := Nat.pow_le_pow_right (n := 10) (by decide) (show 5 * l ≤ dlen u - 1 by omega)
      have a2 : 65536 ^ l ≤ (10 ^ 5) ^ l := Nat.pow_le_pow_left (by decide) l
      rw [← Nat.pow_mul] at a2
      omega
    · omega
theorem isDec_of {m k : Nat} (h1 : 1 ≤ k) (hq : m / 10 ^ k = 0) (hl : k ≤ 1 ∨ 10 ^ (k - 1) ≤ m) : IsDec m k := by
  refine ⟨h1, ?_, ?_⟩
  · rcases (Nat.div_eq_zero_iff).1 hq with h | h
    · have := Nat.pow_pos (n := k) (show 0 < 10 by decide); omega
    · exact h
  · rcases hl with h | h
    · exact Or.inl (by omega)
    · exact Or.inr h
theorem digs_empty (t u : Nat) : (strOfNums (digs t u)).toList.isEmpty = decide (t = 0) := by
  rw [ByteArray.toList_eq, strOfNums_data]
  rcases t with _ | t
  · rfl
  · simp [digs]
theorem str_eq_empty (t u : Nat) : ((strOfNums (digs t u)).toList == []) = decide (t = 0) := by
  have := digs_empty t u
  rw [Bool.eq_iff_iff] at this ⊢
  simpa using this
theorem ten_meas (t u : Nat) (R : Int) : strLen (.string (strOfNums [48 + R] ++ strOfNums (digs t u))) = t + 1 ∧ strLen (.string (strOfNums (digs t u))) = t := by
  rw [strOfNums_append]
  refine ⟨?_, ?_⟩
  · rw [strLen_str, strOfNums_size, List.length_append, digs_length]
    show 1 + t = t + 1
    omega
  · rw [strLen_str, strOfNums_size, digs_length]
theorem ten_text (t u U : Nat) (hU : U = u / 10 ^ t) : strOfNums [48 + (U : Int) % 10] ++ strOfNums (digs t u) = strOfNums (digs (t + 1) u) := by
  rw [strOfNums_append, digs, ← hU]; simp

set_option maxRecDepth 100000 in
set_option maxHeartbeats 2000000 in
theorem rshow_any (a : Option Addr) (ca u : Nat) (w : World) (ha : Sl w a (hf.nlen u) ca (hf.dcells (hf.nlen u) (u : Int))) (hlu : hf.nlen u ≤ 1000000000) :
    Calls Tryd.prog 30 #[.slice a (hf.nlen u) ca] w fun e w' => e = .returned (.string (decS u)) ∧ Below w.heap.size w w' := by
  obtain ⟨i0, hi0, hz0, hz1, hz2⟩ := info_parts infoInt
  have hd := dlen_few (hf.nlen_lt u)
  have HD : Hid _ := isDec_dlen u
  have hown0 := own_empty w w.heap.size 3 (Nat.le_refl _)
  have hB0 : Below w.heap.size w (w.alloc (.cells #[] 3)) := (Below.refl _ _).alloc (Nat.le_refl _) _
  have ha' := ha.below hB0
  have hmx : hf.nlen u ≤ maxLen := by unfold maxLen; omega
  go_enter Tryd.func30, Tryd.ntmps30
  go_wp2_with (at_builtin; refine append_any _ rfl (.tmp 7) (.tmp 8) 26 rfl w.heap.size 3 i0 (.int .i64 0) 8 Tryd.underlying26 hi0 hz0 hz1 hz2 rfl _ 0 0 [] rfl hown0 a (hf.nlen u) ca (hf.dcells (hf.nlen u) (u : Int)) rfl ha' (hf_one _ _) (by omega) (by omega) (by simp) ?_; intro a2 cap2 w2 hown hgrow)
  rw [List.nil_append] at hown
  have hbel := hB0.grown hgrow (by simp) (fun k' hk' => by simp [Value.ownBlock] at hk'; omega)
  clear hown0 ha' hB0
  go_loopw [3, 4] (fun lv sv wr => TenOut w u (hf.nlen u) lv sv wr) (fun _ sv _ => dlen u + 1 - strLen sv)
  case atStart => exact ⟨0, u, cap2, a2, by omega, Or.inl (by omega), by unfold Hid; simp, by first | rfl | simp, by rfl, Nat.le_refl _, by simpa using hown, hbel⟩
  case round =>
    clear hown hbel
    obtain ⟨t, U, cap, a3, ht, hl, HU, rfl, rfl, hL, hown, hbel⟩ := hrel
    have HE := digs_empty t u
    have HE2 := str_eq_empty t u
    by_cases hgo : 0 < hf.nlen U ∨ t = 0
    · have ht2 : t + 1 ≤ dlen u := by
        obtain ⟨h1, h2, h3⟩ := HD.out
        rcases hgo with h | h
        · rcases Nat.lt_or_ge t (dlen u) with h4 | h4
          · exact h4
          · have := Nat.pow_le_pow_right (n := 10) (by decide) h4
            have hu0 : U = 0 := by rw [HU.out]; exact Nat.div_eq_of_lt (by omega)
            rw [hu0, hf.nlen_zero] at h
            omega
        · omega
      have hl2 : Hid (t + 1 ≤ 1 ∨ 10 ^ (t + 1 - 1) ≤ u) := by
        rcases hgo with h | h
        · right
          rcases Nat.lt_or_ge u (10 ^ t) with h4 | h4
          · have hu0 : U = 0 := by rw [HU.out]; exact Nat.div_eq_of_lt h4
            rw [hu0, hf.nlen_zero] at h
            omega
          · simpa using h4
        · left; omega
      obtain ⟨V, hV⟩ : ∃ V, V = U / 10 := ⟨_, rfl⟩
      have HV : Hid (V = u / 10 ^ (t + 1)) := by unfold Hid; rw [hV, HU.out, Nat.pow_succ, Nat.div_div_eq_div_mul]
      have HV2 : Hid ((U : Int) / 10 = (V : Int)) := by unfold Hid; omega
      have hLV : hf.nlen V ≤ hf.nlen u := Nat.le_trans (hf.nlen_le (Nat.lt_of_le_of_lt (show V ≤ U by omega) (hf.nlen_lt U))) hL
      have HVS : Hid (V < 65536 ^ hf.nlen U) := by have := hf.nlen_lt U; unfold Hid; omega
      have HI : Hid (TenIn w U (hf.nlen U) cap a3 (.int .i64 0) (.int .i64 ((hf.nlen U : Int) - 1)) wr) := ⟨hf.nlen U, 0, Nat.le_refl _, by unfold Hid; rw [Int.ediv_eq_zero_of_lt (by omega) (by rw [← hf.pow_cast]; have := hf.nlen_lt U; omega)]; rfl, rfl, rfl, by omega, by omega, by rw [hf.xim_full]; exact hown, hbel⟩
      have z1 : (strOfNums (digs t u)).size = t := by rw [strOfNums_size, digs_length]
      have HT : Hid _ := ten_text t u U HU.out
      have HMe : Hid _ := fun R => ten_meas t u R
      clear hown hbel hV hl
      obtain ⟨L, hLL⟩ : ∃ L, hf.nlen U = L := ⟨_, rfl⟩
      rw [hLL] at hgo HVS HI hL ⊢
      obtain ⟨S, hS⟩ : ∃ S, strOfNums (digs t u) = S := ⟨_, rfl⟩
      rw [hS] at HE HE2 z1 HT HMe ⊢
      clear hLL hS
      have hcase : (0 : Int) < L ∨ (L = 0 ∧ S.toList.isEmpty = true) := by
        rcases hgo with h | h
        · exact Or.inl (by omega)
        · rcases Nat.eq_zero_or_pos L with h1 | h1
          · exact Or.inr ⟨h1, by rw [HE, h]; rfl⟩
          · exact Or.inl (by omega)
      clear hgo HE HE2
      rcases hcase with hc | ⟨hc, hc2⟩
      · go_wp2
        go_loopw [5, 6] (fun c i wr => TenIn w U L cap a3 c i wr) (fun _ i _ => (intOf i + 1).toNat)
        case atStart => exact HI.out
        case round =>
          obtain ⟨r, R, hr, HR, rfl, rfl, r0, r1, hown, hbel⟩ := hrel
          rcases r with _ | q
          · have HR2 : Hid (R = (U : Int) % 10) := by unfold Hid; rw [HR.out]; simp
            rw [hf.xim_zero, HV2.out] at hown
            have hsl := slice10 R r0 r1
            have z2 : (strOfNums [48 + R]).size = 1 := by rw [strOfNums_size]; rfl
            have z3 : ¬ 9223372036854775807 < 1 + t := by omega
            go_wp2_with (go_at_call 33; refine (rtrim_own _ _ _ V _ _ hown HVS.out).mono ?_; rintro e w' ⟨rfl, hw, hown5⟩; subst hw)
            go_roundw
            case rel => exact ⟨t + 1, V, cap, a3, ht2, hl2.out, HV.out, rfl, by rw [HR2.out, HT.out], hLV, hown5, hbel⟩
            case measure => rw [(HMe.out R).1, (HMe.out R).2]; omega
          · obtain ⟨g, rfl, hg, hg2, _⟩ := Own.at hown (by omega)
            have hroom := (Own.sl hown).room
            have hbig := (Own.sl hown).big
            unfold maxLen at hbig
            have c3 : wr.cell? ⟨g, q, none⟩ = some (.int .i64 (hf.dg U q)) := Own.cell hown q _ (hf.xim_at _ _ _ _ _ (by omega) (by omega))
            have c4 : wr.frozen? ⟨g, q, none⟩ = false := Own.free hown q (by omega)
            obtain ⟨d0, d1⟩ := hf.dg_range U q
            have HN : Hid _ := ten_next w wr U L cap g q R HR (by omega) hown hbel
            obtain ⟨D, hD⟩ : ∃ D, hf.dg (U : Int) q = D := ⟨_, rfl⟩
            rw [hD] at c3 d0 d1 HN
            have e1 : ((q + 1 : Nat) : Int) - 1 = (q : Int) := by omega
            clear hown hD
            go_wp2
            go_roundw
            case rel => exact HN.out
            case measure => simp [intOf]
      · subst hc
        go_wp2
        go_loopw [5, 6] (fun c i wr => TenIn w U 0 cap a3 c i wr) (fun _ i _ => (intOf i + 1).toNat)
        case atStart => exact HI.out
        case round =>
          obtain ⟨r, R, hr, HR, rfl, rfl, r0, r1, hown, hbel⟩ := hrel
          rcases r with _ | q
          · have HR2 : Hid (R = (U : Int) % 10) := by unfold Hid; rw [HR.out]; simp
            rw [hf.xim_zero, HV2.out] at hown
            have hsl := slice10 R r0 r1
            have z2 : (strOfNums [48 + R]).size = 1 := by rw [strOfNums_size]; rfl
            have z3 : ¬ 9223372036854775807 < 1 + t := by omega
            go_wp2_with (go_at_call 33; refine (rtrim_own _ _ _ V _ _ hown HVS.out).mono ?_; rintro e w' ⟨rfl, hw, hown5⟩; subst hw)
            go_roundw
            case rel => exact ⟨t + 1, V, cap, a3, ht2, hl2.out, HV.out, rfl, by rw [HR2.out, HT.out], hLV, hown5, hbel⟩
            case measure => rw [(HMe.out R).1, (HMe.out R).2]; omega
          · omega
    · have hz : hf.nlen U = 0 := by omega
      have hu0 := hf.nlen_eq_zero.1 hz
      have HF : Hid (decS u = strOfNums (digs t u)) := by
        unfold Hid decS
        rw [dlen_eq (isDec_of (by omega) (HU.out.symm.trans hu0) hl)]
      have h1 : ¬ (0 : Int) < (hf.nlen U : Int) := by omega
      have h2 : (strOfNums (digs t u)).toList.isEmpty = false := by rw [HE]; simp; omega
      obtain ⟨S, hS⟩ : ∃ S, strOfNums (digs t u) = S := ⟨_, rfl⟩
      rw [hS] at h2 HF ⊢
      clear HE HE2 hS hz hu0
      go_wp2
      go_ret
      exact ⟨by rw [HF.out]; rfl, hbel⟩
end Go.Proofs.YteoepelmapjhcaaDoor
