/-
  How many bits a number needs: math/bits.Len32 off the shelf, nat's Bits, and zelligeref03's Half and Bits.
-/
import Derived.Test.YteoepelmapjhcaaDoorRef3C
import Derived.Test.YteoepelmapjhcaaDoorNatH
import Derived.Test.YteoepelmapjhcaaDoorLenAbt
import Derived.Shelf.Small.Bits
import Derived.Lib.ItoaNum
namespace Go.Proofs.YteoepelmapjhcaaDoor
open Go.RowKit Go.Shelf
set_option linter.unusedVariables false

def renLen : Ren where
  f := fun | 128 => 50 | n => n
  t := fun | 51 => 44 | 3 => 3 | 4 => 4 | 46 => 51 | 5 => 5 | 9 => 9 | n => n
  g := fun n => n
theorem laysLen : Lays.n128 Tryd.prog renLen where
  mixed := by kernel_rfl
  f128 := Tryd.func50.trans (by kernel_rfl)
  t3 := Tryd.underlying3
  a3 := Tryd.isAgg3
  z3 := Tryd.sizeOf3
  v3 := Tryd.zeroValue3
  t4 := Tryd.underlying4
  a4 := Tryd.isAgg4
  z4 := Tryd.sizeOf4
  v4 := Tryd.zeroValue4
  t5 := Tryd.underlying5
  a5 := Tryd.isAgg5
  z5 := Tryd.sizeOf5
  v5 := Tryd.zeroValue5
  t9 := Tryd.underlying9
  a9 := Tryd.isAgg9
  z9 := Tryd.sizeOf9
  v9 := Tryd.zeroValue9
  t46 := Tryd.underlying51
  a46 := Tryd.isAgg51
  z46 := Tryd.sizeOf51
  v46 := Tryd.zeroValue51
  t51 := Tryd.underlying44
  a51 := Tryd.isAgg44
  z51 := Tryd.sizeOf44
  v51 := Tryd.zeroValue44
theorem bitLen_bt (x : Nat) (h : x < 2 ^ 64) : Lib.bitLen x = bt.nlen x := by
  rcases Nat.eq_zero_or_pos x with rfl | h0
  · rw [bt.nlen_zero]; decide
  · obtain ⟨h1, h2, h3⟩ := Lib.bitLenAux_bounds 64 x h (by omega)
    exact (bt.nlen_eq ⟨h3, Or.inr h2⟩).symm
theorem len32_any (x : Nat) {xv : Int} (hx : xv = (x : Int)) (h : x < 4294967296) (w : World) :
    Calls Tryd.prog 50 #[.int .u32 xv] w fun e w' => e = .returned (.int .i64 (bt.nlen x : Int)) ∧ w = w' := by
  subst hx
  have h' : Calls Tryd.prog 50 #[.int .u32 (x : Int)] w fun e w' => e = .returned (.int .i64 (Lib.bitLen (x : Int).toNat)) ∧ w' = w := Any.bits_Len32 laysLen x w (by omega) (by omega)
  refine h'.mono ?_
  rintro e w' ⟨rfl, rfl⟩
  exact ⟨by rw [Int.toNat_natCast, bitLen_bt x (by omega)], rfl⟩

theorem pow32 (k : Nat) : 4294967296 ^ k = 2 ^ (32 * k) := by rw [Nat.pow_mul]
/-- The bits of a number: those of its highest word, and 32 for each below it. -/
theorem bits_top {u m t : Nat} (hm : wd.nlen u = m + 1) (ht : (t : Int) = wd.dg (u : Int) m) : bt.nlen u = m * 32 + bt.nlen t := by
  have hi := wd.nlen_is u
  rw [hm] at hi
  have htop := wd.dg_top hi
  rw [wd.dg_nat] at ht htop
  have hq : u / 4294967296 ^ m < 4294967296 := by
    have := hi.1
    rw [Nat.pow_succ] at this
    exact Nat.div_lt_of_lt_mul this
  have ht' : t = u / 4294967296 ^ m := by rw [Nat.mod_eq_of_lt hq] at ht; omega
  have ht0 : t ≠ 0 := by
    rw [Nat.mod_eq_of_lt hq] at htop
    omega
  have hb := bt.nlen_is t
  have hb1 := bt.nlen_pos (show 0 < t by omega)
  have hp := wd.pow_nat m
  have hd := Nat.div_add_mod u (4294967296 ^ m)
  have hl := Nat.mod_lt u hp
  rw [← ht'] at hd
  have e : 4294967296 ^ m = 2 ^ (m * 32) := by rw [pow32, Nat.mul_comm]
  refine bt.nlen_eq ⟨?_, Or.inr ?_⟩
  · rw [Nat.pow_add, ← e]
    have : 4294967296 ^ m * (t + 1) ≤ 4294967296 ^ m * 2 ^ bt.nlen t := Nat.mul_le_mul_left _ hb.1
    rw [Nat.mul_add] at this
    omega
  · have h2 : 2 ^ (bt.nlen t - 1) ≤ t := hb.2.resolve_left (by omega)
    rw [show m * 32 + bt.nlen t - 1 = m * 32 + (bt.nlen t - 1) by omega, Nat.pow_add, ← e]
    have := Nat.mul_le_mul_left (4294967296 ^ m) h2
    omega

set_option maxRecDepth 100000 in
set_option maxHeartbeats 1000000 in
theorem bits_any (a : Option Addr) (la ca u : Nat) (w : World) (ha : Sl w a la ca (wd.dcells la (u : Int))) (hu : u < 4294967296 ^ la) (hla : la ≤ 1000000000) :
    Calls Tryd.prog 25 #[.slice a la ca] w fun e w' => e = .returned (.int .i64 (bt.nlen u : Int)) ∧ w = w' := by
  have hl := wd.nlen_le hu
  rcases hm : wd.nlen u with _ | m
  · have h0 := wd.nlen_eq_zero.1 hm
    subst h0
    have HB : Hid (bt.nlen 0 = 0) := bt.nlen_zero
    have HM : Hid _ := fun ap cp => (show Value.slice ap (wd.nlen 0) cp = Value.slice ap 0 cp by rw [hm])
    clear hm
    go_enter Tryd.func25, Tryd.ntmps25
    go_wp2_with (go_at_call 34; refine (strip_any a la ca 0 _ ha hu).mono ?_; rintro e w' ⟨a1, ca1, rfl, hw, hcut⟩; subst hw; rw [HM.out])
    go_ret
    exact ⟨by rw [HB.out]; rfl, rfl⟩
  · obtain ⟨d0, d1⟩ := wd.dg_range u m
    obtain ⟨t, ht⟩ := Int.eq_ofNat_of_zero_le d0
    have HT : Hid (bt.nlen u = m * 32 + bt.nlen t) := bits_top hm ht.symm
    obtain ⟨l, hlm⟩ : ∃ l, l = m + 1 := ⟨_, rfl⟩
    rw [← hlm] at hm
    have HSt : Hid _ := fun (w0 : World) (h : Sl w0 a la ca (wd.dcells la (u : Int))) => strip_to l a la ca u w0 h hu hm
    have HC : Hid _ := fun (a1 : Option Addr) (ca1 : Nat) (hc : Cut a la ca a1 l ca1) => hc.sl ha
    have hb : bt.nlen t ≤ 32 := bt.nlen_le (by omega)
    have hm0 : 0 < l := by omega
    have hml : m < l := by omega
    have hm1 : l ≤ 1000000000 := by omega
    have e1 : (l : Int) - 1 = (m : Int) := by omega
    have e2 : ((l : Int) == 0) = false := by rw [beq_eq_false_iff_ne]; omega
    have HTT : Hid _ := ht
    rw [ht] at d0 d1
    obtain ⟨N, hN⟩ : ∃ N, bt.nlen t = N := ⟨_, rfl⟩
    have HL : Hid _ := fun (w0 : World) => len32_any t rfl (by omega) w0
    have HNN : Hid _ := hN
    rw [hN] at HT hb
    clear hm hl ht hlm hu hN
    go_enter Tryd.func25, Tryd.ntmps25
    go_wp2_with (first
      | (go_at_call 34; refine (HSt.out _ ha).mono ?_; rintro e w' ⟨a1, ca1, rfl, hw, hcut⟩; subst hw; have hsl := HC.out a1 ca1 hcut; obtain ⟨ba, oa, rfl, hba, hseg⟩ := hsl.at hm0; have hroom := hsl.room; have c1 := hseg.cell m _ (wd.dcells_at _ _ _ hml); rw [HTT.out] at c1)
      | (go_at_call 50; refine (HL.out _).mono ?_; rw [HNN.out]; rintro e w' ⟨rfl, hw⟩; subst hw))
    go_ret
    exact ⟨by rw [HT.out]; simp, rfl⟩

/-- What holds at the head of each round of the halving's loop. -/
def HalfRel (w : World) (u l b : Nat) (c i : Value) (wr : World) : Prop := ∃ r : Nat, r ≤ l ∧ i = .int .i64 ((r : Int) - 1) ∧ c = .int .i64 ((u : Int) / 65536 ^ r % 2) ∧ Own wr w.heap.size 3 (some ⟨b, 0, none⟩) l l (hf.xim l r ((u : Int) / 2) 0) ∧ Below w.heap.size w wr
theorem half_next (w wr : World) (u l b q : Nat) (hq : q < l) (hown : Own wr w.heap.size 3 (some ⟨b, 0, none⟩) l l (hf.xim l (q + 1) ((u : Int) / 2) 0)) (hb : Below w.heap.size w wr) :
    HalfRel w u l b (.int .i64 (((u : Int) / 65536 ^ (q + 1) % 2 * 65536 + hf.dg u q) % 2)) (.int .i64 ((q : Int) - 1)) (wr.setCell ⟨b, q, none⟩ (.int .i64 (((u : Int) / 65536 ^ (q + 1) % 2 * 65536 + hf.dg u q) / 2))) := by
  refine ⟨q, by omega, rfl, by rw [(hf.long_div u 2 q (by decide)).2], ?_, hb.setCell (seg_of_own hown).2.2 _⟩
  rw [hf.quot_digit _ _ _ (by decide), ← hf.xim_set]
  exact Own.set hown _ hq
set_option maxRecDepth 100000 in
set_option maxHeartbeats 1000000 in
theorem rhalf_any (a : Option Addr) (ca u : Nat) (w : World) (ha : Sl w a (hf.nlen u) ca (hf.dcells (hf.nlen u) (u : Int))) (hlu : hf.nlen u ≤ 1000000000) :
    Calls Tryd.prog 46 #[.slice a (hf.nlen u) ca] w fun e w' => ∃ a' cap', e = .returned (.slice a' (hf.nlen (u / 2)) cap') ∧ Own w' w.heap.size 3 a' (hf.nlen (u / 2)) cap' (hf.dcells (hf.nlen (u / 2)) ((u / 2 : Nat) : Int)) ∧ Below w.heap.size w w' := by
  obtain ⟨i0, hi0, hz0, hz1, hz2⟩ := info_parts infoInt
  have hu := hf.nlen_lt u
  obtain ⟨l, hl'⟩ : ∃ l, hf.nlen u = l := ⟨_, rfl⟩
  rw [hl'] at ha hlu hu ⊢
  have HZ : Hid ((u : Int) / 65536 ^ l = 0) := Int.ediv_eq_zero_of_lt (by omega) (by rw [← hf.pow_cast]; omega)
  have HD : Hid (hf.dcells l 0 = List.replicate l (.int .i64 0)) := hf.dcells_zero _
  have HE : Hid ((u : Int) / 2 = ((u / 2 : Nat) : Int)) := by unfold Hid; omega
  have HS : Hid (u / 2 < 65536 ^ l) := by unfold Hid; omega
  have hmax : l ≤ maxLen := by unfold maxLen; omega
  obtain ⟨v, hv⟩ : ∃ v, u / 2 = v := ⟨_, rfl⟩
  rw [hv] at HE HS ⊢
  clear hu hl' hv
  go_enter Tryd.func46, Tryd.ntmps46
  go_wp2_with (at_make; refine make_any _ rfl (.tmp 7) (.tmp 7) 25 rfl w.heap.size 3 i0 (.int .i64 0) Tryd.underlying25 hi0 hz0 hz1 rfl .i64 .i64 _ _ l rfl rfl (by simp) (by simp) (by rw [hz2]; omega) (by omega) (Nat.le_refl _) ?_; intro w1 hown hbel)
  rw [← HD.out] at hown
  go_loopw [4, 5] (fun c i wr => HalfRel w u l w.heap.size c i wr) (fun _ i _ => (intOf i + 1).toNat)
  case atStart => exact ⟨l, Nat.le_refl _, rfl, by rw [HZ.out]; rfl, by rw [hf.xim_full]; exact hown, hbel⟩
  case round =>
    clear hown hbel
    obtain ⟨r, hr, rfl, rfl, hown, hbel⟩ := hrel
    rcases r with _ | q
    · rw [hf.xim_zero, HE.out] at hown
      obtain ⟨C, hC⟩ : ∃ C, (u : Int) / 65536 ^ 0 % 2 = C := ⟨_, rfl⟩
      rw [hC]
      clear hC
      go_wp2_with (go_at_call 33; refine (rtrim_own _ _ _ v _ _ hown HS.out).mono ?_; rintro e w' ⟨rfl, hw, hown5⟩; subst hw)
      go_ret
      exact ⟨_, _, rfl, hown5, hbel⟩
    · obtain ⟨ba, oa, rfl, hba, hseg⟩ := ha.at (by omega)
      have hroom := ha.room
      have c1 : wr.cell? ⟨ba, oa + q, none⟩ = some (.int .i64 (hf.dg u q)) := (hbel.cell (p := ⟨ba, oa + q, none⟩) hba).trans (hseg.cell q _ (hf.dcells_at _ _ _ (by omega)))
      have c3 : wr.cell? ⟨w.heap.size, q, none⟩ = some (.int .i64 (hf.dg 0 q)) := Own.cell hown q _ (hf.xim_at _ _ _ _ _ (by omega) (by omega))
      have c4 : wr.frozen? ⟨w.heap.size, q, none⟩ = false := Own.free hown q (by omega)
      obtain ⟨d0, d1⟩ := hf.dg_range u q
      have HN : Hid _ := half_next w wr u l w.heap.size q (by omega) hown hbel
      have r0 : 0 ≤ (u : Int) / 65536 ^ (q + 1) % 2 := Int.emod_nonneg _ (by decide)
      have r1 : (u : Int) / 65536 ^ (q + 1) % 2 < 2 := Int.emod_lt_of_pos _ (by decide)
      obtain ⟨R, hR⟩ : ∃ R, (u : Int) / 65536 ^ (q + 1) % 2 = R := ⟨_, rfl⟩
      obtain ⟨D, hD⟩ : ∃ D, hf.dg (u : Int) q = D := ⟨_, rfl⟩
      rw [hR] at r0 r1 HN ⊢
      rw [hD] at c1 d0 d1 HN
      have e1 : ((q + 1 : Nat) : Int) - 1 = (q : Int) := by omega
      clear hown hR hD
      go_wp2
      go_roundw
      case rel => exact HN.out
      case measure => simp [intOf]

/-- What holds at the head of each round of the bits' count. -/
def BitRel (w : World) (u : Nat) (av nv : Value) (wr : World) : Prop := ∃ (t U cap : Nat) (a : Option Addr), t ≤ bt.nlen u ∧ (t = 0 ∨ 2 ^ (t - 1) ≤ u) ∧ Hid (U = u / 2 ^ t) ∧ nv = .int .i64 (t : Int) ∧ av = .slice a (hf.nlen U) cap ∧ hf.nlen U ≤ 1000000000 ∧ Sl wr a (hf.nlen U) cap (hf.dcells (hf.nlen U) (U : Int)) ∧ Below w.heap.size w wr
theorem hf_mono {u v : Nat} (h : u ≤ v) : hf.nlen u ≤ hf.nlen v := hf.nlen_le (Nat.lt_of_le_of_lt h (hf.nlen_lt v))
set_option maxRecDepth 100000 in
set_option maxHeartbeats 1000000 in
theorem rbits_any (a : Option Addr) (ca u : Nat) (w : World) (ha : Sl w a (hf.nlen u) ca (hf.dcells (hf.nlen u) (u : Int))) (hlu : hf.nlen u ≤ 1000000000) :
    Calls Tryd.prog 26 #[.slice a (hf.nlen u) ca] w fun e w' => e = .returned (.int .i64 (bt.nlen u : Int)) ∧ Below w.heap.size w w' := by
  have hb : bt.nlen u ≤ 16000000000 := Nat.le_trans (bt.nlen_le (n := 16 * hf.nlen u) (by rw [Nat.pow_mul]; exact hf.nlen_lt u)) (by omega)
  go_enter Tryd.func26, Tryd.ntmps26
  go_wp2
  go_loopw [0, 3] (fun av nv wr => BitRel w u av nv wr) (fun _ nv _ => bt.nlen u + 1 - (intOf nv).toNat)
  case atStart => exact ⟨0, u, ca, a, by omega, Or.inl rfl, by unfold Hid; simp, rfl, rfl, hlu, ha, Below.refl _ _⟩
  case round =>
    obtain ⟨t, U, cap, a', ht, hl, HU, rfl, rfl, hlU, hsl, hbel⟩ := hrel
    by_cases hz : hf.nlen U = 0
    · have h0 := hf.nlen_eq_zero.1 hz
      have HL : Hid (bt.nlen u = t) := by
        refine bt.nlen_eq ⟨?_, hl⟩
        rcases Nat.div_eq_zero_iff.1 (HU.out.symm.trans h0) with h | h
        · have := Nat.pow_pos (n := t) (show 0 < 2 by decide); omega
        · exact h
      have hz' : ¬ (0 : Int) < (hf.nlen U : Int) := by omega
      clear hz h0
      go_wp2
      go_ret
      exact ⟨by rw [HL.out]; rfl, hbel⟩
    · have hle : 2 ^ t ≤ u := by
        rcases Nat.lt_or_ge u (2 ^ t) with h | h
        · exact absurd (by rw [HU.out, Nat.div_eq_of_lt h, hf.nlen_zero]) hz
        · exact h
      have ht2 : t + 1 ≤ bt.nlen u := by
        rcases Nat.lt_or_ge t (bt.nlen u) with h | h
        · exact h
        · have h1 := bt.nlen_lt u
          have h2 := Nat.pow_le_pow_right (n := 2) (by decide) h
          omega
      have hz' : (0 : Int) < (hf.nlen U : Int) := by omega
      obtain ⟨V, hV⟩ : ∃ V, U / 2 = V := ⟨_, rfl⟩
      have HV : Hid (V = u / 2 ^ (t + 1)) := by unfold Hid; rw [← hV, HU.out, Nat.div_div_eq_div_mul, Nat.pow_succ]
      have hlV : hf.nlen V ≤ 1000000000 := Nat.le_trans (hf_mono (by omega)) hlU
      have HH : Hid _ := fun (w0 : World) (h : Sl w0 a' (hf.nlen U) cap (hf.dcells (hf.nlen U) (U : Int))) => rhalf_any a' cap U w0 h hlU
      have HVV : Hid _ := hV
      clear hz hV
      go_wp2_with (go_at_call 46; refine (HH.out _ hsl).mono ?_; rw [HVV.out]; rintro e w2 ⟨a2, c2, rfl, hown2, hbel2⟩)
      go_roundw
      case rel => exact ⟨t + 1, V, c2, a2, ht2, Or.inr (by simpa using hle), HV.out, by go_num, rfl, hlV, Own.sl hown2, hbel.trans (hbel2.mono hbel.size)⟩
      case measure => simp [intOf]; omega
end Go.Proofs.YteoepelmapjhcaaDoor
