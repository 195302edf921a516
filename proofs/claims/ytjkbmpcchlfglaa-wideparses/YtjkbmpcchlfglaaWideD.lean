/-
  What the text of a number of two words is.
-/
import Derived.Test.YtjkbmpcchlfglaaWideC
import Derived.Test.YtjkbmpcchlfglaaDec
import Derived.Laws.BytesArg
import Derived.WalkSmall
namespace Go.Proofs.Ytjkbmpcchlfglaa
open Go.RowKit
set_option linter.unusedVariables false

theorem mag_words_neg (a : Int) (h0 : -170141183460469231731687303715884105728 ≤ a) (h1 : a < 0) : IntKind.u64.wrap (hi (-a)) = (a.natAbs : Int) / 18446744073709551616 ∧ lo (-a) = (a.natAbs : Int) % 18446744073709551616 := by
  rw [IntKind.wrap_u64]; unfold hi lo; omega
theorem mag_words_pos (a : Int) (h0 : 0 ≤ a) (h1 : a < 170141183460469231731687303715884105728) : IntKind.u64.wrap (hi a) = (a.natAbs : Int) / 18446744073709551616 ∧ lo a = (a.natAbs : Int) % 18446744073709551616 := by
  rw [IntKind.wrap_u64]; unfold hi lo; omega
theorem hi_neg (a : Int) (h0 : -170141183460469231731687303715884105728 ≤ a) (h1 : a < 0) : hi a < 0 := by unfold hi; omega
theorem hi_pos (a : Int) (h0 : 0 ≤ a) (h1 : a < 170141183460469231731687303715884105728) : ¬ hi a < 0 := by unfold hi; omega

/-- wide.magnitude. -/
theorem magnitude_any {ah al : Int} (a : Int) (m : Nat) (hm : a.natAbs = m) (ha : ah = hi a) (hl : al = lo a) (h0 : -170141183460469231731687303715884105728 ≤ a) (h1 : a < 170141183460469231731687303715884105728) (w : World) :
    Calls Try.prog 35 #[.agg #[.int .i64 ah, .int .u64 al]] w fun e w' =>
      e = .returned (.tuple #[.int .u64 ((m : Int) / 18446744073709551616), .int .u64 ((m : Int) % 18446744073709551616)]) ∧ Below w.heap.size w w' := by
  subst ha hl hm
  by_cases hneg : a < 0
  · have g := hi_neg a h0 hneg
    have E : Hid _ := mag_words_neg a h0 hneg
    go_enter Try.func35, Try.ntmps35
    go_wp2_with (go_at_call 15; refine (neg_any a rfl rfl _).mono ?_; rintro e w' ⟨rfl, hb⟩; obtain ⟨hc, hf⟩ := bcell hb)
    go_quiet (fail)
    go_wp2
    go_ret2
    exact ⟨ret_tup2 E.out.1 E.out.2, below_drewN (((((Below.refl _ _).alloc (Nat.le_refl _) _).trans (hb.mono (by simp))).setCell (by simp) _).setCell (by simp) _) _⟩
  · have g := hi_pos a (by omega) h1
    have E : Hid _ := mag_words_pos a (by omega) h1
    go_enter Try.func35, Try.ntmps35
    go_wp2
    go_quiet (fail)
    go_wp2
    go_ret2
    exact ⟨ret_tup2 E.out.1 E.out.2, below_drewN ((Below.refl _ _).alloc (Nat.le_refl _) _) _⟩

theorem divTen_num {x y : Int} (q : Nat) (hx : x = (q : Int) / 18446744073709551616) (hy : y = (q : Int) % 18446744073709551616) (q1 : q < 340282366920938463463374607431768211456) (w : World) :
    Calls Try.prog 36 #[.int .u64 x, .int .u64 y] w fun e w' =>
      e = .returned (.tuple #[.int .u64 ((q : Int) / 10 / 18446744073709551616), .int .u64 ((q : Int) / 10 % 18446744073709551616), .int .u64 ((q : Int) % 10)]) ∧ ∃ n, w' = w.drewN n := by
  subst hx hy
  have h := divTen_any ((q : Int) / 18446744073709551616) ((q : Int) % 18446744073709551616) (by omega) (by omega) (by omega) (by omega) w
  have e : (q : Int) / 18446744073709551616 * 18446744073709551616 + (q : Int) % 18446744073709551616 = q := by omega
  rw [e] at h
  exact h

theorem slice40 (tb p n : Nat) (i : Int) (hi : i = (p : Int)) (h : p + n = 40) (h0 : 0 < n) (w : World) : (Instr.sliceAt 61 (.pointer (some ⟨tb, 0, none⟩)) (some (.int .i64 i)) none none).run Try.prog w = .ok (.slice (some ⟨tb, p, none⟩) n n) w := by
  subst hi
  obtain rfl : n = 40 - p := by omega
  have h' : (p : Int) ≤ 40 := by omega
  have hn : ¬ 40 = p := by omega
  have key := run_sliceAt_array_l (P := Try.prog) w 61 ⟨tb, 0, none⟩ Try.underlying61 .i64 (p : Int) (by omega) (by simpa [Program.arrayLen, Try.underlying61] using h')
  rw [key]
  simp [Program.arrayLen, Program.elem, Try.underlying61, slicedAt, go_sem, hn]
end Go.Proofs.Ytjkbmpcchlfglaa
