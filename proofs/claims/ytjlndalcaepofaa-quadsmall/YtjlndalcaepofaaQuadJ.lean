/-
  The laws' own look at one product's text: it is as it should be.
-/
import Derived.Test.YtjlndalcaepofaaQuadE
import Derived.Test.YtjlndalcaepofaaQuadI
namespace Go.Proofs.Ytjlndalcaepofaa
open Go.RowKit
set_option linter.unusedVariables false

theorem lives_text : x.hexS (-18446744073709551616) = ⟨#[45, 49, 48, 48, 48, 48, 48, 48, 48, 48, 48, 48, 48, 48, 48, 48, 48, 48]⟩ := by decide +kernel
theorem lives_any (w : World) : Calls Try.prog 16 #[] w fun e w' => e = .returned (.bool true) ∧ Below w.heap.size w w' := by
  have hs := lives_text
  have e1 : (18446744073709551616 : Int) * -1 = -18446744073709551616 := by decide
  go_enter Try.func16, Try.ntmps16
  go_wp2_with (first
    | (go_at_call 19; refine (qmul_any 18446744073709551616 (-1) (by decide) (by decide) (by decide) (by decide) (by decide) (by decide) (by decide) (by decide) _).mono ?_; rw [e1]; rintro e w1 ⟨rfl, hb⟩)
    | (go_at_call 25; refine (qhex_any (-18446744073709551616) (wd_self _) (by decide) (by decide) _).mono ?_; rw [hs]; rintro e w2 ⟨rfl, hb2⟩))
  go_ret
  exact ⟨rfl, hb.trans (hb2.mono hb.size)⟩
end Go.Proofs.Ytjlndalcaepofaa
