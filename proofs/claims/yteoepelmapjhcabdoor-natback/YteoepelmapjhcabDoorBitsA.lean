/-
  How many bits a number needs: math/bits.Len32 off the shelf, nat's Bits, and zelligeref03's Half and Bits.
-/
import Derived.Test.YteoepelmapjhcabDoorNatH
import Derived.Test.YteoepelmapjhcabDoorLenAbt
import Derived.Shelf.Small.Bits
import Derived.Lib.ItoaNum
namespace Go.Proofs.YteoepelmapjhcabDoor
open Go.RowKit Go.Shelf
set_option linter.unusedVariables false

def renLen : Ren where
  f := fun | 128 => 43 | n => n
  t := fun | 51 => 36 | 3 => 3 | 4 => 4 | 46 => 55 | 5 => 5 | 9 => 9 | n => n
  g := fun n => n
theorem laysLen : Lays.n128 Tryd.prog renLen where
  mixed := by kernel_rfl
  f128 := Tryd.func43.trans (by kernel_rfl)
  t3 := Tryd.underlying3
  a3 := Tryd.isAgg3
  z3 := Tryd.sizeOf3
  v3 := Tryd.zeroValue3
  t4 := Tryd.underlying4
  a4 := Tryd.isAgg4
  z4 := Tryd.sizeOf4
  v4 := Tryd.zeroValue4
  t5 := Tryd.underlying5
  a5 := Tryd.isAgg5
  z5 := Tryd.sizeOf5
  v5 := Tryd.zeroValue5
  t9 := Tryd.underlying9
  a9 := Tryd.isAgg9
  z9 := Tryd.sizeOf9
  v9 := Tryd.zeroValue9
  t46 := Tryd.underlying55
  a46 := Tryd.isAgg55
  z46 := Tryd.sizeOf55
  v46 := Tryd.zeroValue55
  t51 := Tryd.underlying36
  a51 := Tryd.isAgg36
  z51 := Tryd.sizeOf36
  v51 := Tryd.zeroValue36
theorem bitLen_bt (x : Nat) (h : x < 2 ^ 64) : Lib.bitLen x = bt.nlen x := by
  rcases Nat.eq_zero_or_pos x with rfl | h0
  · rw [bt.nlen_zero]; decide
  · obtain ⟨h1, h2, h3⟩ := Lib.bitLenAux_bounds 64 x h (by omega)
    exact (bt.nlen_eq ⟨h3, Or.inr h2⟩).symm
theorem len32_any (x : Nat) {xv : Int} (hx : xv = (x : Int)) (h : x < 4294967296) (w : World) :
    Calls Tryd.prog 43 #[.int .u32 xv] w fun e w' => e = .returned (.int .i64 (bt.nlen x : Int)) ∧ w = w' := by
  subst hx
  have h' : Calls Tryd.prog 43 #[.int .u32 (x : Int)] w fun e w' => e = .returned (.int .i64 (Lib.bitLen (x : Int).toNat)) ∧ w' = w := Any.bits_Len32 laysLen x w (by omega) (by omega)
  refine h'.mono ?_
  rintro e w' ⟨rfl, rfl⟩
  exact ⟨by rw [Int.toNat_natCast, bitLen_bt x (by omega)], rfl⟩

theorem pow32 (k : Nat) : 4294967296 ^ k = 2 ^ (32 * k) := by rw [Nat.pow_mul]
/-- The bits of a number: those of its highest word, and 32 for each below it. -/
theorem bits_top {u m t : Nat} (hm : wd.nlen u = m + 1) (ht : (t : Int) = wd.dg (u : Int) m) : bt.nlen u = m * 32 + bt.nlen t := by
  have hi := wd.nlen_is u
  rw [hm] at hi
  have htop := wd.dg_top hi
  rw [wd.dg_nat] at ht htop
  have hq : u / 4294967296 ^ m < 4294967296 := by
    have := hi.1
    rw [Nat.pow_succ] at this
    exact Nat.div_lt_of_lt_mul this
  have ht' : t = u / 4294967296 ^ m := by rw [Nat.mod_eq_of_lt hq] at ht; omega
  have ht0 : t ≠ 0 := by
    rw [Nat.mod_eq_of_lt hq] at htop
    omega
  have hb := bt.nlen_is t
  have hb1 := bt.nlen_pos (show 0 < t by omega)
  have hp := wd.pow_nat m
  have hd := Nat.div_add_mod u (4294967296 ^ m)
  have hl := Nat.mod_lt u hp
  rw [← ht'] at hd
  have e : 4294967296 ^ m = 2 ^ (m * 32) := by rw [pow32, Nat.mul_comm]
  refine bt.nlen_eq ⟨?_, Or.inr ?_⟩
  · rw [Nat.pow_add, ← e]
    have : 4294967296 ^ m * (t + 1) ≤ 4294967296 ^ m * 2 ^ bt.nlen t := Nat.mul_le_mul_left _ hb.1
    rw [Nat.mul_add] at this
    omega
  · have h2 : 2 ^ (bt.nlen t - 1) ≤ t := hb.2.resolve_left (by omega)
    rw [show m * 32 + bt.nlen t - 1 = m * 32 + (bt.nlen t - 1) by omega, Nat.pow_add, ← e]
    have := Nat.mul_le_mul_left (4294967296 ^ m) h2
    omega

set_option maxRecDepth 100000 in
set_option maxHeartbeats 1000000 in
theorem bits_any (a : Option Addr) (la ca u : Nat) (w : World) (ha : Sl w a la ca (wd.dcells la (u : Int))) (hu : u < 4294967296 ^ la) (hla : la ≤ 1000000000) :
    Calls Tryd.prog 27 #[.slice a la ca] w fun e w' => e = .returned (.int .i64 (bt.nlen u : Int)) ∧ w = w' := by
  have hl := wd.nlen_le hu
  rcases hm : wd.nlen u with _ | m
  · have h0 := wd.nlen_eq_zero.1 hm
    subst h0
    have HB : Hid (bt.nlen 0 = 0) := bt.nlen_zero
    have HM : Hid _ := fun ap cp => (show Value.slice ap (wd.nlen 0) cp = Value.slice ap 0 cp by rw [hm])
    clear hm
    go_enter Tryd.func27, Tryd.ntmps27
    go_wp2_with (go_at_call 14; refine (strip_any a la ca 0 _ ha hu).mono ?_; rintro e w' ⟨a1, ca1, rfl, hw, hcut⟩; subst hw; rw [HM.out])
    go_ret
    exact ⟨by rw [HB.out]; rfl, rfl⟩
  · obtain ⟨d0, d1⟩ := wd.dg_range u m
    obtain ⟨t, ht⟩ := Int.eq_ofNat_of_zero_le d0
    have HT : Hid (bt.nlen u = m * 32 + bt.nlen t) := bits_top hm ht.symm
    obtain ⟨l, hlm⟩ : ∃ l, l = m + 1 := ⟨_, rfl⟩
    rw [← hlm] at hm
    have HSt : Hid _ := fun (w0 : World) (h : Sl w0 a la ca (wd.dcells la (u : Int))) => strip_to l a la ca u w0 h hu hm
    have HC : Hid _ := fun (a1 : Option Addr) (ca1 : Nat) (hc : Cut a la ca a1 l ca1) => hc.sl ha
    have hb : bt.nlen t ≤ 32 := bt.nlen_le (by omega)
    have hm0 : 0 < l := by omega
    have hml : m < l := by omega
    have hm1 : l ≤ 1000000000 := by omega
    have e1 : (l : Int) - 1 = (m : Int) := by omega
    have e2 : ((l : Int) == 0) = false := by rw [beq_eq_false_iff_ne]; omega
    have HTT : Hid _ := ht
    rw [ht] at d0 d1
    obtain ⟨N, hN⟩ : ∃ N, bt.nlen t = N := ⟨_, rfl⟩
    have HL : Hid _ := fun (w0 : World) => len32_any t rfl (by omega) w0
    have HNN : Hid _ := hN
    rw [hN] at HT hb
    clear hm hl ht hlm hu hN
    go_enter Tryd.func27, Tryd.ntmps27
    go_wp2_with (first
      | (go_at_call 14; refine (HSt.out _ ha).mono ?_; rintro e w' ⟨a1, ca1, rfl, hw, hcut⟩; subst hw; have hsl := HC.out a1 ca1 hcut; obtain ⟨ba, oa, rfl, hba, hseg⟩ := hsl.at hm0; have hroom := hsl.room; have c1 := hseg.cell m _ (wd.dcells_at _ _ _ hml); rw [HTT.out] at c1)
      | (go_at_call 43; refine (HL.out _).mono ?_; rw [HNN.out]; rintro e w' ⟨rfl, hw⟩; subst hw))
    go_ret
    exact ⟨by rw [HT.out]; simp, rfl⟩

end Go.Proofs.YteoepelmapjhcabDoor
