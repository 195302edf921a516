/-
  Sums and differences of words.
-/
import Derived.Test.YteoepelmapjhcaaDoorNatB
import Derived.Laws.BitsAllLaws
import Derived.Deep.RegionWith
namespace Go.Proofs.YteoepelmapjhcaaDoor
open Go.RowKit
set_option linter.unusedVariables false

set_option maxHeartbeats 400000 in
theorem add32_any (x y c : Int) (w : World) (hx : 0 ≤ x) (hx' : x < 4294967296) (hy : 0 ≤ y) (hy' : y < 4294967296) (hc : 0 ≤ c) (hc' : c ≤ 1) :
    Calls Tryd.prog 38 #[.int .u32 x, .int .u32 y, .int .u32 c] w fun e w' => e = .returned (.tuple #[.int .u32 ((x + y + c) % 4294967296), .int .u32 ((x + y + c) / 4294967296)]) ∧ w = w' := by
  go_enter Tryd.func38, Tryd.ntmps38
  go_wp2
  go_ret2
  exact ⟨rfl, rfl⟩
theorem top_bit (x : Nat) (h : x < 4294967296) : x / 2147483648 = if x.testBit 31 then 1 else 0 := by
  rw [Nat.testBit_eq_decide_div_mod_eq]
  have : x / 2 ^ 31 < 2 := by omega
  by_cases e : x / 2 ^ 31 % 2 = 1
  · rw [if_pos (by simpa using e)]; omega
  · rw [if_neg (by simpa using e)]; omega
theorem top_yes (x : Nat) (h : x < 4294967296) : x.testBit 31 = decide (2147483648 ≤ x) := by
  rw [Nat.testBit_eq_decide_div_mod_eq, Bool.eq_iff_iff]
  simp only [decide_eq_true_eq]
  omega
theorem borrow_nat (x y d c : Nat) (hx : x < 4294967296) (hy : y < 4294967296) (hc : c ≤ 1) (hd : (d : Int) = ((x : Int) - y - c) % 4294967296) :
    (((4294967295 ^^^ x) &&& y) ||| ((4294967295 ^^^ (x ^^^ y)) &&& d)) / 2147483648 = if x < y + c then 1 else 0 := by
  have hd' : d < 4294967296 := by omega
  have h1 : (((4294967295 ^^^ x) &&& y) ||| ((4294967295 ^^^ (x ^^^ y)) &&& d)) < 2 ^ 32 := Nat.or_lt_two_pow (Nat.and_lt_two_pow _ (by omega)) (Nat.and_lt_two_pow _ (by omega))
  rw [top_bit _ (by omega)]
  simp only [Nat.testBit_or, Nat.testBit_and, Nat.testBit_xor, top_yes x hx, top_yes y hy, top_yes d hd', show (4294967295 : Nat).testBit 31 = true by decide]
  by_cases a : 2147483648 ≤ x <;> by_cases b : 2147483648 ≤ y <;> by_cases e : 2147483648 ≤ d <;> simp [a, b, e] <;> omega
theorem borrow_bits (x y c : Int) (hx : 0 ≤ x) (hx' : x < 4294967296) (hy : 0 ≤ y) (hy' : y < 4294967296) (hc : 0 ≤ c) (hc' : c ≤ 1) :
    bits BinOp.or IntKind.u32 (bits BinOp.and IntKind.u32 (bits BinOp.xor IntKind.u32 IntKind.u32.max x) y) (bits BinOp.and IntKind.u32 (bits BinOp.xor IntKind.u32 IntKind.u32.max (bits BinOp.xor IntKind.u32 x y)) ((x - y - c) % 4294967296)) / 2147483648 = wd.bor x (y + c) := by
  obtain ⟨X, rfl⟩ := Int.eq_ofNat_of_zero_le hx
  obtain ⟨Y, rfl⟩ := Int.eq_ofNat_of_zero_le hy
  obtain ⟨C, rfl⟩ := Int.eq_ofNat_of_zero_le hc
  obtain ⟨D, hD⟩ := Int.eq_ofNat_of_zero_le (show 0 ≤ ((X : Int) - Y - C) % 4294967296 by omega)
  have hDl : D < 4294967296 := by omega
  have l1 : X ^^^ Y < 2 ^ 32 := Nat.xor_lt_two_pow (by omega) (by omega)
  have l2 : 4294967295 ^^^ X < 2 ^ 32 := Nat.xor_lt_two_pow (by omega) (by omega)
  have l3 : 4294967295 ^^^ (X ^^^ Y) < 2 ^ 32 := Nat.xor_lt_two_pow (by omega) (by omega)
  have l4 : (4294967295 ^^^ X) &&& Y < 2 ^ 32 := Nat.and_lt_two_pow _ (by omega)
  have l5 : (4294967295 ^^^ (X ^^^ Y)) &&& D < 2 ^ 32 := Nat.and_lt_two_pow _ (by omega)
  have em : IntKind.u32.max = ((4294967295 : Nat) : Int) := by decide
  rw [hD, em, u32_xor_nat X Y (by omega) (by omega), u32_xor_nat 4294967295 X (by omega) (by omega), u32_xor_nat 4294967295 (X ^^^ Y) (by omega) (by omega), u32_and_nat _ Y (by omega) (by omega), u32_and_nat _ D (by omega) (by omega), u32_or_nat _ _ (by omega) (by omega)]
  have h := borrow_nat X Y D C (by omega) (by omega) (by omega) (by omega)
  unfold wd.bor
  have h2 : ((((4294967295 ^^^ X) &&& Y ||| (4294967295 ^^^ (X ^^^ Y)) &&& D : Nat) : Int)) / 2147483648 = (((((4294967295 ^^^ X) &&& Y ||| (4294967295 ^^^ (X ^^^ Y)) &&& D) / 2147483648 : Nat)) : Int) := by omega
  rw [h2, h]
  by_cases e : X < Y + C
  · rw [if_pos e, if_pos (by omega)]; rfl
  · rw [if_neg e, if_neg (by omega)]; rfl
set_option maxHeartbeats 400000 in
theorem sub32_any (x y c : Int) (w : World) (hx : 0 ≤ x) (hx' : x < 4294967296) (hy : 0 ≤ y) (hy' : y < 4294967296) (hc : 0 ≤ c) (hc' : c ≤ 1) :
    Calls Tryd.prog 35 #[.int .u32 x, .int .u32 y, .int .u32 c] w fun e w' => e = .returned (.tuple #[.int .u32 ((x - y - c) % 4294967296), .int .u32 (wd.bor x (y + c))]) ∧ w = w' := by
  have HB : Hid _ := borrow_bits x y c hx hx' hy hy' hc hc'
  go_enter Tryd.func35, Tryd.ntmps35
  go_wp2
  go_ret2
  exact ⟨by rw [← HB.out]; rfl, rfl⟩
theorem dcells_two (x : Nat) (h : x < 18446744073709551616) : wd.dcells 2 (x : Int) = [.int .u32 ((x : Int) % 4294967296), .int .u32 ((x : Int) / 4294967296)] := by
  simp [wd.dcells, List.range_succ, wd.dg]
  omega
theorem own_two (w : World) (x : Nat) (h : x < 18446744073709551616) : Own (w.alloc (.cells #[.int .u32 ((x : Int) % 4294967296), .int .u32 ((x : Int) / 4294967296)] 44)) w.heap.size 44 (some ⟨w.heap.size, 0, none⟩) 2 2 (wd.dcells 2 x) := by
  rw [dcells_two x h]
  exact World.ownsRow_lit w _ 2 (Nat.le_refl _) (by decide) rfl
set_option maxHeartbeats 400000 in
theorem of_any (x : Nat) (hx : x < 18446744073709551616) {xv : Int} (hxv : xv = (x : Int)) (w : World) :
    Calls Tryd.prog 31 #[.int .u64 xv] w fun e w' => ∃ a cap, e = .returned (.slice a (wd.nlen x) cap) ∧ Own w' w.heap.size 44 a (wd.nlen x) cap (wd.dcells (wd.nlen x) x) ∧ Below w.heap.size w w' := by
  subst hxv
  have h0 : (0 : Int) ≤ x := by omega
  have h1 : (x : Int) < 18446744073709551616 := by omega
  go_enter Tryd.func31, Tryd.ntmps31
  have hown := own_two w x hx
  go_wp2_with (go_at_call 34; refine (strip_any _ 2 2 x _ hown.sl (by simpa using hx)).mono ?_; rintro e w' ⟨a1, cap1, rfl, hw, hcut⟩; subst hw)
  go_ret
  exact ⟨a1, cap1, rfl, hcut.own hown, (Below.refl _ _).alloc (Nat.le_refl _) _⟩
end Go.Proofs.YteoepelmapjhcaaDoor
