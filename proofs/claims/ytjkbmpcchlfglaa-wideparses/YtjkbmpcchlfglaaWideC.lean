/-
  What division by ten of a number of two words answers.
-/
import Derived.Test.YtjkbmpcchlfglaaWideB
import Derived.Deep.QuietTactic
import Derived.BigQuiet
namespace Go.Proofs.Ytjkbmpcchlfglaa
open Go.RowKit
set_option linter.unusedVariables false
set_option maxRecDepth 100000 in
set_option maxHeartbeats 1000000 in
theorem len64_ten (w : World) : Calls Try.prog 43 #[.int .u64 10] w fun e w' => e = .returned (.int .i64 4) ∧ w' = w := by
  go_enter Try.func43, Try.ntmps43
  go_wp2
  go_ret
  exact ⟨ret_int (by decide +kernel), rfl⟩
theorem lz64_ten (w : World) : Calls Try.prog 42 #[.int .u64 10] w fun e w' => e = .returned (.int .i64 60) ∧ w' = w := by
  go_enter Try.func42, Try.ntmps42
  go_wp2_with (go_at_call 43; refine (len64_ten _).mono ?_; rintro e w' ⟨rfl, rfl⟩)
  go_ret
  exact ⟨rfl, rfl⟩
theorem or60 (r l : Int) (r0 : 0 ≤ r) (r1 : r < 10) (l0 : 0 ≤ l) (l1 : l < 18446744073709551616) : bits .or .u64 (r * 1152921504606846976) (l / 16) = r * 1152921504606846976 + l / 16 := by
  obtain ⟨r, rfl⟩ := Int.eq_ofNat_of_zero_le r0
  obtain ⟨l, rfl⟩ := Int.eq_ofNat_of_zero_le l0
  have h := bits_or_u64_nat (r * 1152921504606846976) (l / 16) (by omega) (by omega)
  have e := Nat.shiftLeft_add_eq_or_of_lt (i := 60) (b := l / 16) (by omega) r
  rw [Nat.shiftLeft_eq] at e
  have e2 : r * 1152921504606846976 ||| l / 16 = r * 1152921504606846976 + l / 16 := e.symm
  rw [e2] at h
  refine Eq.trans ?_ (h.trans (by omega))
  congr 1
theorem div10 (r l U q1 L V q0 : Int) (r0 : 0 ≤ r) (r1 : r < 10) (l0 : 0 ≤ l) (l1 : l < 18446744073709551616) (hU : U = r * 1152921504606846976 + l / 16) (hL : L = l % 16 * 1152921504606846976) (hq : q1 = U / 2684354560)
    (hV : V = (U - q1 * 2684354560) * 4294967296 + L / 4294967296) (hq0 : q0 = V / 2684354560) :
    q1 * 4294967296 + q0 = (r * 18446744073709551616 + l) / 10 ∧ (V - q0 * 2684354560) * 4294967296 / 1152921504606846976 = (r * 18446744073709551616 + l) % 10 := by omega
theorem rem_fin (V q0 : Int) (v0 : 0 ≤ V) (v1 : V < 11529215046068469760) (b2 : 0 ≤ V - q0 * 2684354560) (b3 : V - q0 * 2684354560 < 2684354560) :
    IntKind.u64.wrap (IntKind.u64.wrap (IntKind.u64.wrap (V * 4294967296)) - IntKind.u64.wrap (q0 * 11529215046068469760)) / 1152921504606846976 = (V - q0 * 2684354560) * 4294967296 / 1152921504606846976 := by
  simp only [IntKind.wrap_u64]; omega
set_option maxHeartbeats 1000000 in
theorem div64_ten (r l : Int) (r0 : 1 ≤ r) (r1 : r < 10) (l0 : 0 ≤ l) (l1 : l < 18446744073709551616) (w : World) :
    Calls Try.prog 40 #[.int .u64 r, .int .u64 l, .int .u64 10] w fun e w' => e = .returned (.tuple #[.int .u64 ((r * 18446744073709551616 + l) / 10), .int .u64 ((r * 18446744073709551616 + l) % 10)]) ∧ w' = w := by
  have g1 : ¬ 10 ≤ r := by omega
  have g2 : ((r : Int) == 0) = false := by simp; omega
  have hA : bits .and .u64 11529215046068469760 4294967295 = 0 := mask32 _ (by decide) (by decide)
  obtain ⟨U, hU⟩ : ∃ U, U = r * 1152921504606846976 + l / 16 := ⟨_, rfl⟩
  have hO : bits .or .u64 (r * 1152921504606846976) (l / 16) = U := by rw [hU]; exact or60 r l (by omega) r1 l0 l1
  obtain ⟨L, hL⟩ : ∃ L, L = l % 16 * 1152921504606846976 := ⟨_, rfl⟩
  have hS : IntKind.u64.wrap (l * 1152921504606846976) = L := by rw [IntKind.wrap_u64]; omega
  have hM : bits .and .u64 L 4294967295 = 0 := by rw [mask32 L (by omega) (by omega)]; omega
  obtain ⟨q1, hq⟩ : ∃ q1, q1 = U / 2684354560 := ⟨_, rfl⟩
  obtain ⟨V, hV⟩ : ∃ V, V = (U - q1 * 2684354560) * 4294967296 + L / 4294967296 := ⟨_, rfl⟩
  obtain ⟨q0, hq0⟩ : ∃ q0, q0 = V / 2684354560 := ⟨_, rfl⟩
  have E : Hid (q1 * 4294967296 + q0 = (r * 18446744073709551616 + l) / 10 ∧ (V - q0 * 2684354560) * 4294967296 / 1152921504606846976 = (r * 18446744073709551616 + l) % 10) := div10 r l U q1 L V q0 (by omega) r1 l0 l1 hU hL hq hV hq0
  have u0 : 0 ≤ U := by omega
  have u1 : U < 11529215046068469760 := by omega
  have L0 : 0 ≤ L := by omega
  have L1 : L < 18446744073709551616 := by omega
  have a0 : 0 ≤ q1 := by omega
  have a1 : q1 < 4294967296 := by omega
  have a2 : 0 ≤ U - q1 * 2684354560 := by omega
  have a3 : U - q1 * 2684354560 < 2684354560 := by omega
  have v0 : 0 ≤ V := by omega
  have v1 : V < 11529215046068469760 := by omega
  have b0 : 0 ≤ q0 := by omega
  have b1 : q0 < 4294967296 := by omega
  have b2 : 0 ≤ V - q0 * 2684354560 := by omega
  have b3 : V - q0 * 2684354560 < 2684354560 := by omega
  have w1 : IntKind.u64.wrap (U.tdiv 2684354560) = q1 := by rw [Int.tdiv_eq_ediv_of_nonneg u0, IntKind.wrap_u64]; omega
  have w2 : IntKind.u64.wrap (V.tdiv 2684354560) = q0 := by rw [Int.tdiv_eq_ediv_of_nonneg v0, IntKind.wrap_u64]; omega
  have w3 : IntKind.u64.wrap (IntKind.u64.wrap (IntKind.u64.wrap (U * 4294967296) + L / 4294967296) - IntKind.u64.wrap (q1 * 11529215046068469760)) = V := by simp only [IntKind.wrap_u64]; omega
  clear hU hL hq hV hq0
  go_enter Try.func40, Try.ntmps40
  go_wp2_with (go_at_call 42; refine (lz64_ten _).mono ?_; rintro e w' ⟨rfl, rfl⟩)
  go_loop [15, 16] (fun q t => q = .int .u64 q1 ∧ t = .int .u64 (U - q1 * 2684354560)) (fun _ _ => 0)
  case atStart => exact ⟨rfl, rfl⟩
  case round =>
    obtain ⟨rfl, rfl⟩ := hrel
    go_wp2
    go_loop [18, 16] (fun q t => q = .int .u64 q0 ∧ t = .int .u64 (V - q0 * 2684354560)) (fun _ _ => 0)
    case atStart => exact ⟨rfl, rfl⟩
    case round =>
      obtain ⟨rfl, rfl⟩ := hrel
      go_wp2
      go_ret2
      refine ⟨ret_tup2 E.out.1 (Eq.trans ?_ E.out.2), rfl⟩
      exact rem_fin V q0 v0 v1 b2 b3
theorem div64_ten0 (l : Int) (l0 : 0 ≤ l) (l1 : l < 18446744073709551616) (w : World) :
    Calls Try.prog 40 #[.int .u64 0, .int .u64 l, .int .u64 10] w fun e w' => e = .returned (.tuple #[.int .u64 (l / 10), .int .u64 (l % 10)]) ∧ ∃ n, w' = w.drewN n := by
  go_enter Try.func40, Try.ntmps40
  go_wp2
  go_quiet (fail)
  go_wp2
  go_ret2
  exact ⟨rfl, _, rfl⟩
theorem divTen_words (h l : Int) (h0 : 0 ≤ h) (h1 : h < 18446744073709551616) (l0 : 0 ≤ l) (l1 : l < 18446744073709551616) :
    h / 10 = (h * 18446744073709551616 + l) / 10 / 18446744073709551616 ∧ (h % 10 * 18446744073709551616 + l) / 10 = (h * 18446744073709551616 + l) / 10 % 18446744073709551616 ∧ (h % 10 * 18446744073709551616 + l) % 10 = (h * 18446744073709551616 + l) % 10 := by omega
theorem ret_tup3 {k : IntKind} {a b c d e f : Int} (h : a = d) (h' : b = e) (h'' : c = f) : Ending.returned (.tuple #[.int k a, .int k b, .int k c]) = .returned (.tuple #[.int k d, .int k e, .int k f]) := by rw [h, h', h'']
/-- wide.divTen: the tenth of a number of two words, and what is left. -/
theorem divTen_any (h l : Int) (h0 : 0 ≤ h) (h1 : h < 18446744073709551616) (l0 : 0 ≤ l) (l1 : l < 18446744073709551616) (w : World) :
    Calls Try.prog 36 #[.int .u64 h, .int .u64 l] w fun e w' => e = .returned (.tuple #[.int .u64 ((h * 18446744073709551616 + l) / 10 / 18446744073709551616), .int .u64 ((h * 18446744073709551616 + l) / 10 % 18446744073709551616), .int .u64 ((h * 18446744073709551616 + l) % 10)]) ∧ ∃ n, w' = w.drewN n := by
  have E : Hid _ := divTen_words h l h0 h1 l0 l1
  by_cases hr : h % 10 = 0
  · go_enter Try.func36, Try.ntmps36
    go_wp2_with (go_at_call 40; refine (div64_ten0 l l0 l1 _).mono ?_; rintro e w' ⟨rfl, n, rfl⟩)
    go_ret3
    refine ⟨ret_tup3 E.out.1 (Eq.trans ?_ E.out.2.1) (Eq.trans ?_ E.out.2.2), n, rfl⟩
    · rw [hr]; simp
    · rw [hr]; simp
  · go_enter Try.func36, Try.ntmps36
    go_wp2_with (go_at_call 40; refine (div64_ten (h % 10) l (by omega) (by omega) l0 l1 _).mono ?_; rintro e w' ⟨rfl, rfl⟩)
    go_ret3
    exact ⟨ret_tup3 E.out.1 E.out.2.1 E.out.2.2, 0, rfl⟩
end Go.Proofs.Ytjkbmpcchlfglaa
