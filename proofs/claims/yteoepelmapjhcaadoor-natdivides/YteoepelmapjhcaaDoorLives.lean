/-
  The laws' own look: a quotient is shown.
-/
import Derived.Test.YteoepelmapjhcaaDoorParseB
import Derived.Test.YteoepelmapjhcaaDoorNatH
namespace Go.Proofs.YteoepelmapjhcaaDoor
open Go.RowKit
set_option linter.unusedVariables false

def ten20 : ByteArray := ⟨#[49, 48, 48, 48, 48, 48, 48, 48, 48, 48, 48, 48, 48, 48, 48, 48, 48, 48, 48, 48, 48]⟩
theorem nlen3 : wd.nlen 3 = 1 := wd.nlen_eq ⟨by decide, Or.inr (by decide)⟩
theorem nlenU : wd.nlen 100000000000000000000 = 3 := wd.nlen_eq ⟨by decide, Or.inr (by decide)⟩
theorem decQ : decS 33333333333333333333 = ⟨#[51, 51, 51, 51, 51, 51, 51, 51, 51, 51, 51, 51, 51, 51, 51, 51, 51, 51, 51, 51]⟩ := by
  unfold decS
  rw [dlen_eq (k := 20) ⟨by decide, by decide, Or.inr (by decide)⟩]
  decide +kernel
theorem decR : decS 1 = ⟨#[49]⟩ := by
  unfold decS
  rw [dlen_eq (k := 1) ⟨by decide, by decide, Or.inl rfl⟩]
  decide +kernel
theorem lenQ : wd.nlen 33333333333333333333 ≤ 1000000000 := Nat.le_trans (wd.nlen_le (n := 3) (by decide)) (by decide)
theorem lenR : wd.nlen 1 ≤ 1000000000 := Nat.le_trans (wd.nlen_le (n := 1) (by decide)) (by decide)
theorem rdU : rdN (nums ten20) = 100000000000000000000 := by decide +kernel
theorem showsU : showsB (nums ten20) = true := by decide +kernel
theorem parseU (w : World) : Calls Tryd.prog 29 #[.string ten20] w fun e w' => ∃ a cap, e = .returned (.tuple #[.slice a 3 cap, .int .i64 0]) ∧ Own w' w.heap.size 44 a 3 cap (wd.dcells 3 ((100000000000000000000 : Nat) : Int)) ∧ Below w.heap.size w w' := by
  have h := parse_num ten20 w showsU (by decide)
  rw [rdU, nlenU] at h
  exact h
theorem of3 (w : World) : Calls Tryd.prog 31 #[.int .u64 3] w fun e w' => ∃ a cap, e = .returned (.slice a 1 cap) ∧ Own w' w.heap.size 44 a 1 cap (wd.dcells 1 ((3 : Nat) : Int)) ∧ Below w.heap.size w w' := by
  have h := of_any 3 (by decide) (xv := 3) rfl w
  rw [nlen3] at h
  exact h
theorem div3 (a b : Option Addr) (ca cb : Nat) (w : World) (ha : Sl w a 3 ca (wd.dcells 3 ((100000000000000000000 : Nat) : Int))) (hb : Sl w b 1 cb (wd.dcells 1 ((3 : Nat) : Int))) :
    Calls Tryd.prog 20 #[.slice a 3 ca, .slice b 1 cb] w (Both w 33333333333333333333 1) :=
  divMod_word a b 3 1 ca cb 100000000000000000000 3 w ha (by decide) (by decide) hb (by decide) nlen3 (by rw [nlenU]; decide)
theorem eq_same (s : ByteArray) : (s.toList == s.toList) = true := beq_self_eq_true _

set_option maxRecDepth 100000 in
set_option maxHeartbeats 1000000 in
theorem lives_any (w : World) : Calls Tryd.prog 19 #[] w fun e w' => e = .returned (.bool true) ∧ Below w.heap.size w w' := by
  have HP : Hid _ := parseU
  unfold ten20 at HP
  go_enter Tryd.func19, Tryd.ntmps19
  go_wp2_with (first
    | (go_at_call 29; refine (HP.out _).mono ?_; rintro e w1 ⟨a1, c1, rfl, hown1, hbel1⟩)
    | (go_at_call 31; refine (of3 _).mono ?_; rintro e w2 ⟨a2, c2, rfl, hown2, hbel2⟩; have hsl1 := (Own.sl hown1).below hbel2)
    | (go_at_call 20; refine (div3 a1 a2 c1 c2 _ hsl1 (Own.sl hown2)).mono ?_; rintro e w3 ⟨aq, cq, ar, cr, rfl, hq, hr, hbel3⟩)
    | (go_at_call_of 28 [Value.slice aq (wd.nlen 33333333333333333333) cq]; refine (show_any aq _ cq 33333333333333333333 _ (Own.sl hq) (wd.nlen_lt _) lenQ).mono ?_; rw [decQ]; rintro e w4 ⟨rfl, hbel4⟩)
    | (go_at_call 28; refine (show_any ar _ cr 1 _ ((Own.sl hr).below hbel4) (wd.nlen_lt _) lenR).mono ?_; rw [decR]; rintro e w5 ⟨rfl, hbel5⟩))
  go_ret
  exact ⟨rfl, hbel1.trans ((hbel2.trans ((hbel3.trans ((hbel4.trans (hbel5.mono hbel4.size)).mono hbel3.size)).mono hbel2.size)).mono hbel1.size)⟩
end Go.Proofs.YteoepelmapjhcaaDoor
