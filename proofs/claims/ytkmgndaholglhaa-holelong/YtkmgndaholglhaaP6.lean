/-
  Joined texts, part 6:
  What package tie's Conflict answers.
  Slices of points, and what package tie's Best answers.
  Objects that calls change in place: which blocks a call may write (Keep F: all others stay), lists of ints in memory of one's own, append onto them. It imports nothing of the program.
  Slices of elements of several cells in memory of one's own: what is kept, append onto them. It imports nothing of the program.
  How a hole is filled, over whatever tells which corner goes with an edge. It imports nothing of the program.
  Layer 13's hole: pointsAt; slices.Grow of none, slices.Concat of two slices of ints.
-/
import Derived.Test.YtkmgndaholglhaaP5
import Derived.Test.YtkmgndaholglhaaRows
import Derived.WalkKit
import Derived.WalkSpells
import Derived.Deep.QuietTactic
import Derived.BigQuiet
import Derived.RegionTactic
import Derived.ChangeAlike
import Derived.OwnWalk
import Derived.Laws.AppendOwnNone
import Derived.Maps.AppendAt
import Derived.Lib.AppendZeros
namespace Go.Proofs.Ytkmgndaholglhaa
open Go.RowKit
set_option linter.unusedVariables false

theorem eqP_no {x y z t : Int} (h : (x, y) ≠ (z, t)) (w : World) : (Op.equalIn 10000 31 (.agg #[.int .i64 x, .int .i64 y]) (.agg #[.int .i64 z, .int .i64 t])).run Try.prog w = .ok false w := by
  have k : ¬(x = z ∧ y = t) := fun k => h (by rw [k.1, k.2])
  by_cases e0 : x = z <;> by_cases e1 : y = t <;> simp [go_sem, Try.underlying31, Try.underlying2, e0, e1] <;> exact k ⟨e0, e1⟩
theorem ci_can {a b c d : Pt} (hl : leftQ a b c = true) (hd : canC d.1 d.2 = true) : ciP a.1 a.2 b.1 b.2 c.1 c.2 d.1 d.2 = (deQ a b c d).sign := by
  obtain ⟨qa, qb, qc, _⟩ := left_iff.1 hl
  unfold ciP
  rw [can4.2 ⟨qa, qb, qc, hd⟩]
  rfl
set_option maxRecDepth 100000 in
set_option maxHeartbeats 8000000 in
theorem tConflict (a1 a2 b1 b2 c1 c2 d1 d2 : Int) (w : World) {r : Bool} (hr : r = cfQ (a1, a2) (b1, b2) (c1, c2) (d1, d2)) :
    Calls Try.prog 17 #[.agg #[.int .i64 a1, .int .i64 a2], .agg #[.int .i64 b1, .int .i64 b2], .agg #[.int .i64 c1, .int .i64 c2], .agg #[.int .i64 d1, .int .i64 d2]] w fun e w' => e = .returned (.bool r) ∧ Below w.heap.size w w' := by
  cases hd : canC d1 d2
  · skip
    obtain rfl : r = false := by rw [hr, cf_no]; rintro ⟨h1, _⟩; rw [hd] at h1; cases h1
    try clear hr
    try clear hl
    obtain ⟨W, hW, bW, x_a, x_b, x_c, x_d, sW⟩ := bs_2222 w (.int .i64 a1) (.int .i64 a2) (.int .i64 b1) (.int .i64 b2) (.int .i64 c1) (.int .i64 c2) (.int .i64 d1) (.int .i64 d2) 31 31 31 31
    have zbW := bW.size
    have BB := bW
    go_enter Try.func17, Try.ntmps17
    go_wp2_with (go_at_call 26; fail)
    rw [← hW]
    clear hW
    refine (lCan d1 d2 W hd.symm).mono ?_
    rintro e w1 ⟨rfl, bw1⟩
    have zbw1 := bw1.size
    replace BB := also BB bw1
    replace x_a := x_a.on bw1
    replace x_b := x_b.on bw1
    replace x_c := x_c.on bw1
    replace x_d := x_d.on bw1
    have ⟨x_a_0, x_a_1, x_a_2, x_a_3⟩ := x_a
    have ⟨x_b_0, x_b_1, x_b_2, x_b_3⟩ := x_b
    have ⟨x_c_0, x_c_1, x_c_2, x_c_3⟩ := x_c
    have ⟨x_d_0, x_d_1, x_d_2, x_d_3⟩ := x_d
    go_wp2
    go_ret
    exact ⟨rfl, BB⟩
  · skip
    cases hl : leftQ (a1, a2) (b1, b2) (c1, c2)
    · skip
      obtain rfl : r = false := by rw [hr, cf_no]; rintro ⟨_, h1, _⟩; rw [hl] at h1; cases h1
      obtain ⟨g, hg⟩ : ∃ g, g = (arP a1 a2 b1 b2 c1 c2).sign := ⟨_, rfl⟩
      have hg1 : ¬ g = 1 := by rw [hg]; exact of_decide_eq_false hl
      have G : Hid _ := hg
      clear hg
      try clear hr
      try clear hl
      obtain ⟨W, hW, bW, x_a, x_b, x_c, x_d, sW⟩ := bs_2222 w (.int .i64 a1) (.int .i64 a2) (.int .i64 b1) (.int .i64 b2) (.int .i64 c1) (.int .i64 c2) (.int .i64 d1) (.int .i64 d2) 31 31 31 31
      have zbW := bW.size
      have BB := bW
      go_enter Try.func17, Try.ntmps17
      go_wp2_with (go_at_call 26; fail)
      rw [← hW]
      clear hW
      refine (lCan d1 d2 W hd.symm).mono ?_
      rintro e w1 ⟨rfl, bw1⟩
      have zbw1 := bw1.size
      replace BB := also BB bw1
      replace x_a := x_a.on bw1
      replace x_b := x_b.on bw1
      replace x_c := x_c.on bw1
      replace x_d := x_d.on bw1
      have ⟨x_a_0, x_a_1, x_a_2, x_a_3⟩ := x_a
      have ⟨x_b_0, x_b_1, x_b_2, x_b_3⟩ := x_b
      have ⟨x_c_0, x_c_1, x_c_2, x_c_3⟩ := x_c
      have ⟨x_d_0, x_d_1, x_d_2, x_d_3⟩ := x_d
      go_wp2_with (go_at_call 16; fail)
      refine (pOrient a1 a2 b1 b2 c1 c2 w1 G.out).mono ?_
      rintro e w2 ⟨rfl, bw2⟩
      clear x_a_0 x_a_1 x_a_2 x_a_3 x_b_0 x_b_1 x_b_2 x_b_3 x_c_0 x_c_1 x_c_2 x_c_3 x_d_0 x_d_1 x_d_2 x_d_3
      have zbw2 := bw2.size
      replace BB := also BB bw2
      replace x_a := x_a.on bw2
      replace x_b := x_b.on bw2
      replace x_c := x_c.on bw2
      replace x_d := x_d.on bw2
      have ⟨x_a_0, x_a_1, x_a_2, x_a_3⟩ := x_a
      have ⟨x_b_0, x_b_1, x_b_2, x_b_3⟩ := x_b
      have ⟨x_c_0, x_c_1, x_c_2, x_c_3⟩ := x_c
      have ⟨x_d_0, x_d_1, x_d_2, x_d_3⟩ := x_d
      go_wp2
      go_ret
      exact ⟨rfl, BB⟩
    · skip
      by_cases na : (d1, d2) = (a1, a2)
      · obtain ⟨rfl, rfl⟩ := Prod.mk.inj na
        obtain rfl : r = false := by rw [hr, cf_no]; rintro ⟨_, _, h3, h4, h5⟩; exact h3 rfl
        obtain ⟨g, hg⟩ : ∃ g, g = (arP d1 d2 b1 b2 c1 c2).sign := ⟨_, rfl⟩
        obtain rfl : g = 1 := by rw [hg]; exact of_decide_eq_true hl
        have G : Hid _ := hg
        clear hg
        try clear hr
        try clear hl
        obtain ⟨W, hW, bW, x_a, x_b, x_c, x_d, sW⟩ := bs_2222 w (.int .i64 d1) (.int .i64 d2) (.int .i64 b1) (.int .i64 b2) (.int .i64 c1) (.int .i64 c2) (.int .i64 d1) (.int .i64 d2) 31 31 31 31
        have zbW := bW.size
        have BB := bW
        go_enter Try.func17, Try.ntmps17
        go_wp2_with (go_at_call 26; fail)
        rw [← hW]
        clear hW
        refine (lCan d1 d2 W hd.symm).mono ?_
        rintro e w1 ⟨rfl, bw1⟩
        have zbw1 := bw1.size
        replace BB := also BB bw1
        replace x_a := x_a.on bw1
        replace x_b := x_b.on bw1
        replace x_c := x_c.on bw1
        replace x_d := x_d.on bw1
        have ⟨x_a_0, x_a_1, x_a_2, x_a_3⟩ := x_a
        have ⟨x_b_0, x_b_1, x_b_2, x_b_3⟩ := x_b
        have ⟨x_c_0, x_c_1, x_c_2, x_c_3⟩ := x_c
        have ⟨x_d_0, x_d_1, x_d_2, x_d_3⟩ := x_d
        go_wp2_with (go_at_call 16; fail)
        refine (pOrient d1 d2 b1 b2 c1 c2 w1 G.out).mono ?_
        rintro e w2 ⟨rfl, bw2⟩
        clear x_a_0 x_a_1 x_a_2 x_a_3 x_b_0 x_b_1 x_b_2 x_b_3 x_c_0 x_c_1 x_c_2 x_c_3 x_d_0 x_d_1 x_d_2 x_d_3
        have zbw2 := bw2.size
        replace BB := also BB bw2
        replace x_a := x_a.on bw2
        replace x_b := x_b.on bw2
        replace x_c := x_c.on bw2
        replace x_d := x_d.on bw2
        have ⟨x_a_0, x_a_1, x_a_2, x_a_3⟩ := x_a
        have ⟨x_b_0, x_b_1, x_b_2, x_b_3⟩ := x_b
        have ⟨x_c_0, x_c_1, x_c_2, x_c_3⟩ := x_c
        have ⟨x_d_0, x_d_1, x_d_2, x_d_3⟩ := x_d
        go_wp2
        go_ret
        exact ⟨rfl, BB⟩
      · skip
        by_cases nb : (d1, d2) = (b1, b2)
        · obtain ⟨rfl, rfl⟩ := Prod.mk.inj nb
          obtain rfl : r = false := by rw [hr, cf_no]; rintro ⟨_, _, h3, h4, h5⟩; exact h4 rfl
          obtain ⟨g, hg⟩ : ∃ g, g = (arP a1 a2 d1 d2 c1 c2).sign := ⟨_, rfl⟩
          obtain rfl : g = 1 := by rw [hg]; exact of_decide_eq_true hl
          have G : Hid _ := hg
          clear hg
          have ka := eqP_no na
          clear na
          try clear hr
          try clear hl
          obtain ⟨W, hW, bW, x_a, x_b, x_c, x_d, sW⟩ := bs_2222 w (.int .i64 a1) (.int .i64 a2) (.int .i64 d1) (.int .i64 d2) (.int .i64 c1) (.int .i64 c2) (.int .i64 d1) (.int .i64 d2) 31 31 31 31
          have zbW := bW.size
          have BB := bW
          go_enter Try.func17, Try.ntmps17
          go_wp2_with (go_at_call 26; fail)
          rw [← hW]
          clear hW
          refine (lCan d1 d2 W hd.symm).mono ?_
          rintro e w1 ⟨rfl, bw1⟩
          have zbw1 := bw1.size
          replace BB := also BB bw1
          replace x_a := x_a.on bw1
          replace x_b := x_b.on bw1
          replace x_c := x_c.on bw1
          replace x_d := x_d.on bw1
          have ⟨x_a_0, x_a_1, x_a_2, x_a_3⟩ := x_a
          have ⟨x_b_0, x_b_1, x_b_2, x_b_3⟩ := x_b
          have ⟨x_c_0, x_c_1, x_c_2, x_c_3⟩ := x_c
          have ⟨x_d_0, x_d_1, x_d_2, x_d_3⟩ := x_d
          go_wp2_with (go_at_call 16; fail)
          refine (pOrient a1 a2 d1 d2 c1 c2 w1 G.out).mono ?_
          rintro e w2 ⟨rfl, bw2⟩
          clear x_a_0 x_a_1 x_a_2 x_a_3 x_b_0 x_b_1 x_b_2 x_b_3 x_c_0 x_c_1 x_c_2 x_c_3 x_d_0 x_d_1 x_d_2 x_d_3
          have zbw2 := bw2.size
          replace BB := also BB bw2
          replace x_a := x_a.on bw2
          replace x_b := x_b.on bw2
          replace x_c := x_c.on bw2
          replace x_d := x_d.on bw2
          have ⟨x_a_0, x_a_1, x_a_2, x_a_3⟩ := x_a
          have ⟨x_b_0, x_b_1, x_b_2, x_b_3⟩ := x_b
          have ⟨x_c_0, x_c_1, x_c_2, x_c_3⟩ := x_c
          have ⟨x_d_0, x_d_1, x_d_2, x_d_3⟩ := x_d
          go_wp2
          go_ret
          exact ⟨rfl, BB⟩
        · skip
          by_cases nc : (d1, d2) = (c1, c2)
          · obtain ⟨rfl, rfl⟩ := Prod.mk.inj nc
            obtain rfl : r = false := by rw [hr, cf_no]; rintro ⟨_, _, h3, h4, h5⟩; exact h5 rfl
            obtain ⟨g, hg⟩ : ∃ g, g = (arP a1 a2 b1 b2 d1 d2).sign := ⟨_, rfl⟩
            obtain rfl : g = 1 := by rw [hg]; exact of_decide_eq_true hl
            have G : Hid _ := hg
            clear hg
            have ka := eqP_no na
            clear na
            have kb := eqP_no nb
            clear nb
            try clear hr
            try clear hl
            obtain ⟨W, hW, bW, x_a, x_b, x_c, x_d, sW⟩ := bs_2222 w (.int .i64 a1) (.int .i64 a2) (.int .i64 b1) (.int .i64 b2) (.int .i64 d1) (.int .i64 d2) (.int .i64 d1) (.int .i64 d2) 31 31 31 31
            have zbW := bW.size
            have BB := bW
            go_enter Try.func17, Try.ntmps17
            go_wp2_with (go_at_call 26; fail)
            rw [← hW]
            clear hW
            refine (lCan d1 d2 W hd.symm).mono ?_
            rintro e w1 ⟨rfl, bw1⟩
            have zbw1 := bw1.size
            replace BB := also BB bw1
            replace x_a := x_a.on bw1
            replace x_b := x_b.on bw1
            replace x_c := x_c.on bw1
            replace x_d := x_d.on bw1
            have ⟨x_a_0, x_a_1, x_a_2, x_a_3⟩ := x_a
            have ⟨x_b_0, x_b_1, x_b_2, x_b_3⟩ := x_b
            have ⟨x_c_0, x_c_1, x_c_2, x_c_3⟩ := x_c
            have ⟨x_d_0, x_d_1, x_d_2, x_d_3⟩ := x_d
            go_wp2_with (go_at_call 16; fail)
            refine (pOrient a1 a2 b1 b2 d1 d2 w1 G.out).mono ?_
            rintro e w2 ⟨rfl, bw2⟩
            clear x_a_0 x_a_1 x_a_2 x_a_3 x_b_0 x_b_1 x_b_2 x_b_3 x_c_0 x_c_1 x_c_2 x_c_3 x_d_0 x_d_1 x_d_2 x_d_3
            have zbw2 := bw2.size
            replace BB := also BB bw2
            replace x_a := x_a.on bw2
            replace x_b := x_b.on bw2
            replace x_c := x_c.on bw2
            replace x_d := x_d.on bw2
            have ⟨x_a_0, x_a_1, x_a_2, x_a_3⟩ := x_a
            have ⟨x_b_0, x_b_1, x_b_2, x_b_3⟩ := x_b
            have ⟨x_c_0, x_c_1, x_c_2, x_c_3⟩ := x_c
            have ⟨x_d_0, x_d_1, x_d_2, x_d_3⟩ := x_d
            go_wp2
            go_ret
            exact ⟨rfl, BB⟩
          · skip
            rcases Int.lt_trichotomy (deQ (a1, a2) (b1, b2) (c1, c2) (d1, d2)) 0 with hde | hde | hde
            · skip
              obtain ⟨g, hg⟩ : ∃ g, g = (arP a1 a2 b1 b2 c1 c2).sign := ⟨_, rfl⟩
              obtain rfl : g = 1 := by rw [hg]; exact of_decide_eq_true hl
              have G : Hid _ := hg
              clear hg
              obtain ⟨m, hm⟩ : ∃ m, m = ciP a1 a2 b1 b2 c1 c2 d1 d2 := ⟨_, rfl⟩
              have hms := hm.trans (ci_can (a := (a1, a2)) (b := (b1, b2)) (c := (c1, c2)) (d := (d1, d2)) hl hd)
              rw [cf_yes (a := (a1, a2)) (b := (b1, b2)) (c := (c1, c2)) (d := (d1, d2)) hd hl na nb nc] at hr
              unfold cirQ at hr
              rw [if_neg (by omega)] at hr
              obtain rfl : m = -1 := by rw [hms]; exact Int.sign_eq_neg_one_of_neg hde
              obtain rfl : r = false := by rw [hr]; exact decide_eq_false (by omega)
              have M : Hid _ := hm
              clear hm hms
              have ka := eqP_no na
              clear na
              have kb := eqP_no nb
              clear nb
              have kc := eqP_no nc
              clear nc
              try clear hr
              try clear hl
              clear hde
              obtain ⟨W, hW, bW, x_a, x_b, x_c, x_d, sW⟩ := bs_2222 w (.int .i64 a1) (.int .i64 a2) (.int .i64 b1) (.int .i64 b2) (.int .i64 c1) (.int .i64 c2) (.int .i64 d1) (.int .i64 d2) 31 31 31 31
              have zbW := bW.size
              have BB := bW
              go_enter Try.func17, Try.ntmps17
              go_wp2_with (go_at_call 26; fail)
              rw [← hW]
              clear hW
              refine (lCan d1 d2 W hd.symm).mono ?_
              rintro e w1 ⟨rfl, bw1⟩
              have zbw1 := bw1.size
              replace BB := also BB bw1
              replace x_a := x_a.on bw1
              replace x_b := x_b.on bw1
              replace x_c := x_c.on bw1
              replace x_d := x_d.on bw1
              have ⟨x_a_0, x_a_1, x_a_2, x_a_3⟩ := x_a
              have ⟨x_b_0, x_b_1, x_b_2, x_b_3⟩ := x_b
              have ⟨x_c_0, x_c_1, x_c_2, x_c_3⟩ := x_c
              have ⟨x_d_0, x_d_1, x_d_2, x_d_3⟩ := x_d
              go_wp2_with (go_at_call 16; fail)
              refine (pOrient a1 a2 b1 b2 c1 c2 w1 G.out).mono ?_
              rintro e w2 ⟨rfl, bw2⟩
              clear x_a_0 x_a_1 x_a_2 x_a_3 x_b_0 x_b_1 x_b_2 x_b_3 x_c_0 x_c_1 x_c_2 x_c_3 x_d_0 x_d_1 x_d_2 x_d_3
              have zbw2 := bw2.size
              replace BB := also BB bw2
              replace x_a := x_a.on bw2
              replace x_b := x_b.on bw2
              replace x_c := x_c.on bw2
              replace x_d := x_d.on bw2
              have ⟨x_a_0, x_a_1, x_a_2, x_a_3⟩ := x_a
              have ⟨x_b_0, x_b_1, x_b_2, x_b_3⟩ := x_b
              have ⟨x_c_0, x_c_1, x_c_2, x_c_3⟩ := x_c
              have ⟨x_d_0, x_d_1, x_d_2, x_d_3⟩ := x_d
              go_wp2_with (go_at_call 27; fail)
              refine (pCircle a1 a2 b1 b2 c1 c2 d1 d2 w2 M.out).mono ?_
              rintro e w3 ⟨rfl, bw3⟩
              clear x_a_0 x_a_1 x_a_2 x_a_3 x_b_0 x_b_1 x_b_2 x_b_3 x_c_0 x_c_1 x_c_2 x_c_3 x_d_0 x_d_1 x_d_2 x_d_3
              have zbw3 := bw3.size
              replace BB := also BB bw3
              replace x_a := x_a.on bw3
              replace x_b := x_b.on bw3
              replace x_c := x_c.on bw3
              replace x_d := x_d.on bw3
              have ⟨x_a_0, x_a_1, x_a_2, x_a_3⟩ := x_a
              have ⟨x_b_0, x_b_1, x_b_2, x_b_3⟩ := x_b
              have ⟨x_c_0, x_c_1, x_c_2, x_c_3⟩ := x_c
              have ⟨x_d_0, x_d_1, x_d_2, x_d_3⟩ := x_d
              go_wp2
              go_ret
              exact ⟨rfl, BB⟩
            · skip
              obtain ⟨g, hg⟩ : ∃ g, g = (arP a1 a2 b1 b2 c1 c2).sign := ⟨_, rfl⟩
              obtain rfl : g = 1 := by rw [hg]; exact of_decide_eq_true hl
              have G : Hid _ := hg
              clear hg
              obtain ⟨m, hm⟩ : ∃ m, m = ciP a1 a2 b1 b2 c1 c2 d1 d2 := ⟨_, rfl⟩
              have hms := hm.trans (ci_can (a := (a1, a2)) (b := (b1, b2)) (c := (c1, c2)) (d := (d1, d2)) hl hd)
              rw [cf_yes (a := (a1, a2)) (b := (b1, b2)) (c := (c1, c2)) (d := (d1, d2)) hd hl na nb nc] at hr
              unfold cirQ at hr
              rw [if_pos hde] at hr
              obtain rfl : m = 0 := by rw [hms, hde]; rfl
              obtain ⟨qa, qb, qc, p⟩ := left_iff.1 hl
              rw [← oc_tie qa qb qc hd p na nb nc] at hr
              have HR : Hid _ := hr
              have M : Hid _ := hm
              clear hm hms
              have ka := eqP_no na
              clear na
              have kb := eqP_no nb
              clear nb
              have kc := eqP_no nc
              clear nc
              try clear hr
              try clear hl
              clear hde qa qb qc p
              obtain ⟨W, hW, bW, x_a, x_b, x_c, x_d, sW⟩ := bs_2222 w (.int .i64 a1) (.int .i64 a2) (.int .i64 b1) (.int .i64 b2) (.int .i64 c1) (.int .i64 c2) (.int .i64 d1) (.int .i64 d2) 31 31 31 31
              have zbW := bW.size
              have BB := bW
              go_enter Try.func17, Try.ntmps17
              go_wp2_with (go_at_call 26; fail)
              rw [← hW]
              clear hW
              refine (lCan d1 d2 W hd.symm).mono ?_
              rintro e w1 ⟨rfl, bw1⟩
              have zbw1 := bw1.size
              replace BB := also BB bw1
              replace x_a := x_a.on bw1
              replace x_b := x_b.on bw1
              replace x_c := x_c.on bw1
              replace x_d := x_d.on bw1
              have ⟨x_a_0, x_a_1, x_a_2, x_a_3⟩ := x_a
              have ⟨x_b_0, x_b_1, x_b_2, x_b_3⟩ := x_b
              have ⟨x_c_0, x_c_1, x_c_2, x_c_3⟩ := x_c
              have ⟨x_d_0, x_d_1, x_d_2, x_d_3⟩ := x_d
              go_wp2_with (go_at_call 16; fail)
              refine (pOrient a1 a2 b1 b2 c1 c2 w1 G.out).mono ?_
              rintro e w2 ⟨rfl, bw2⟩
              clear x_a_0 x_a_1 x_a_2 x_a_3 x_b_0 x_b_1 x_b_2 x_b_3 x_c_0 x_c_1 x_c_2 x_c_3 x_d_0 x_d_1 x_d_2 x_d_3
              have zbw2 := bw2.size
              replace BB := also BB bw2
              replace x_a := x_a.on bw2
              replace x_b := x_b.on bw2
              replace x_c := x_c.on bw2
              replace x_d := x_d.on bw2
              have ⟨x_a_0, x_a_1, x_a_2, x_a_3⟩ := x_a
              have ⟨x_b_0, x_b_1, x_b_2, x_b_3⟩ := x_b
              have ⟨x_c_0, x_c_1, x_c_2, x_c_3⟩ := x_c
              have ⟨x_d_0, x_d_1, x_d_2, x_d_3⟩ := x_d
              go_wp2_with (go_at_call 27; fail)
              refine (pCircle a1 a2 b1 b2 c1 c2 d1 d2 w2 M.out).mono ?_
              rintro e w3 ⟨rfl, bw3⟩
              clear x_a_0 x_a_1 x_a_2 x_a_3 x_b_0 x_b_1 x_b_2 x_b_3 x_c_0 x_c_1 x_c_2 x_c_3 x_d_0 x_d_1 x_d_2 x_d_3
              have zbw3 := bw3.size
              replace BB := also BB bw3
              replace x_a := x_a.on bw3
              replace x_b := x_b.on bw3
              replace x_c := x_c.on bw3
              replace x_d := x_d.on bw3
              have ⟨x_a_0, x_a_1, x_a_2, x_a_3⟩ := x_a
              have ⟨x_b_0, x_b_1, x_b_2, x_b_3⟩ := x_b
              have ⟨x_c_0, x_c_1, x_c_2, x_c_3⟩ := x_c
              have ⟨x_d_0, x_d_1, x_d_2, x_d_3⟩ := x_d
              go_wp2_with (go_at_call 28; fail)
              refine (tOn a1 a2 b1 b2 c1 c2 d1 d2 w3 HR.out).mono ?_
              rintro e w4 ⟨rfl, bw4⟩
              clear x_a_0 x_a_1 x_a_2 x_a_3 x_b_0 x_b_1 x_b_2 x_b_3 x_c_0 x_c_1 x_c_2 x_c_3 x_d_0 x_d_1 x_d_2 x_d_3
              have zbw4 := bw4.size
              replace BB := also BB bw4
              replace x_a := x_a.on bw4
              replace x_b := x_b.on bw4
              replace x_c := x_c.on bw4
              replace x_d := x_d.on bw4
              go_wp2
              go_ret
              exact ⟨rfl, BB⟩
            · skip
              obtain ⟨g, hg⟩ : ∃ g, g = (arP a1 a2 b1 b2 c1 c2).sign := ⟨_, rfl⟩
              obtain rfl : g = 1 := by rw [hg]; exact of_decide_eq_true hl
              have G : Hid _ := hg
              clear hg
              obtain ⟨m, hm⟩ : ∃ m, m = ciP a1 a2 b1 b2 c1 c2 d1 d2 := ⟨_, rfl⟩
              have hms := hm.trans (ci_can (a := (a1, a2)) (b := (b1, b2)) (c := (c1, c2)) (d := (d1, d2)) hl hd)
              rw [cf_yes (a := (a1, a2)) (b := (b1, b2)) (c := (c1, c2)) (d := (d1, d2)) hd hl na nb nc] at hr
              unfold cirQ at hr
              rw [if_neg (by omega)] at hr
              obtain rfl : m = 1 := by rw [hms]; exact Int.sign_eq_one_of_pos hde
              obtain rfl : r = true := by rw [hr]; exact decide_eq_true (by omega)
              have M : Hid _ := hm
              clear hm hms
              have ka := eqP_no na
              clear na
              have kb := eqP_no nb
              clear nb
              have kc := eqP_no nc
              clear nc
              try clear hr
              try clear hl
              clear hde
              obtain ⟨W, hW, bW, x_a, x_b, x_c, x_d, sW⟩ := bs_2222 w (.int .i64 a1) (.int .i64 a2) (.int .i64 b1) (.int .i64 b2) (.int .i64 c1) (.int .i64 c2) (.int .i64 d1) (.int .i64 d2) 31 31 31 31
              have zbW := bW.size
              have BB := bW
              go_enter Try.func17, Try.ntmps17
              go_wp2_with (go_at_call 26; fail)
              rw [← hW]
              clear hW
              refine (lCan d1 d2 W hd.symm).mono ?_
              rintro e w1 ⟨rfl, bw1⟩
              have zbw1 := bw1.size
              replace BB := also BB bw1
              replace x_a := x_a.on bw1
              replace x_b := x_b.on bw1
              replace x_c := x_c.on bw1
              replace x_d := x_d.on bw1
              have ⟨x_a_0, x_a_1, x_a_2, x_a_3⟩ := x_a
              have ⟨x_b_0, x_b_1, x_b_2, x_b_3⟩ := x_b
              have ⟨x_c_0, x_c_1, x_c_2, x_c_3⟩ := x_c
              have ⟨x_d_0, x_d_1, x_d_2, x_d_3⟩ := x_d
              go_wp2_with (go_at_call 16; fail)
              refine (pOrient a1 a2 b1 b2 c1 c2 w1 G.out).mono ?_
              rintro e w2 ⟨rfl, bw2⟩
              clear x_a_0 x_a_1 x_a_2 x_a_3 x_b_0 x_b_1 x_b_2 x_b_3 x_c_0 x_c_1 x_c_2 x_c_3 x_d_0 x_d_1 x_d_2 x_d_3
              have zbw2 := bw2.size
              replace BB := also BB bw2
              replace x_a := x_a.on bw2
              replace x_b := x_b.on bw2
              replace x_c := x_c.on bw2
              replace x_d := x_d.on bw2
              have ⟨x_a_0, x_a_1, x_a_2, x_a_3⟩ := x_a
              have ⟨x_b_0, x_b_1, x_b_2, x_b_3⟩ := x_b
              have ⟨x_c_0, x_c_1, x_c_2, x_c_3⟩ := x_c
              have ⟨x_d_0, x_d_1, x_d_2, x_d_3⟩ := x_d
              go_wp2_with (go_at_call 27; fail)
              refine (pCircle a1 a2 b1 b2 c1 c2 d1 d2 w2 M.out).mono ?_
              rintro e w3 ⟨rfl, bw3⟩
              clear x_a_0 x_a_1 x_a_2 x_a_3 x_b_0 x_b_1 x_b_2 x_b_3 x_c_0 x_c_1 x_c_2 x_c_3 x_d_0 x_d_1 x_d_2 x_d_3
              have zbw3 := bw3.size
              replace BB := also BB bw3
              replace x_a := x_a.on bw3
              replace x_b := x_b.on bw3
              replace x_c := x_c.on bw3
              replace x_d := x_d.on bw3
              have ⟨x_a_0, x_a_1, x_a_2, x_a_3⟩ := x_a
              have ⟨x_b_0, x_b_1, x_b_2, x_b_3⟩ := x_b
              have ⟨x_c_0, x_c_1, x_c_2, x_c_3⟩ := x_c
              have ⟨x_d_0, x_d_1, x_d_2, x_d_3⟩ := x_d
              go_wp2
              go_ret
              exact ⟨rfl, BB⟩
end Go.Proofs.Ytkmgndaholglhaa

namespace Go.Proofs.Ytkmgndaholglhaa
open Go.RowKit
set_option linter.unusedVariables false

/-- The two cells of a point in a slice. -/
structure Pc (w : World) (b q : Nat) (x y : Value) : Prop where
  c0 : w.cell? ⟨b, q, none⟩ = some x
  c1 : w.cell? ⟨b, q + 1, none⟩ = some y
  f0 : w.frozen? ⟨b, q, none⟩ = false
  f1 : w.frozen? ⟨b, q + 1, none⟩ = false
theorem Pc.on {w w' : World} {b q : Nat} {x y : Value} (h : Pc w b q x y) (hb : Below w.heap.size w w') : Pc w' b q x y := ⟨cell_on hb h.c0, cell_on hb h.c1, free_on hb h.c0 h.f0, free_on hb h.c1 h.f1⟩
/-- A slice of points. -/
structure PSl (w : World) (a : Option Addr) (n cap : Nat) (L : List Pt) : Prop where
  len : L.length = n
  room : n ≤ cap
  nil : a = none → n = 0 ∧ cap = 0
  seg : n = 0 ∨ ∃ b o, a = some ⟨b, o, none⟩ ∧ b < w.heap.size ∧ Seg w b o (pcells L)
theorem PSl.below {w w' : World} {a : Option Addr} {n cap : Nat} {L : List Pt} (h : PSl w a n cap L) (hb : Below w.heap.size w w') : PSl w' a n cap L := by
  refine ⟨h.len, h.room, h.nil, ?_⟩
  rcases h.seg with e | ⟨b, o, e, hlt, hs⟩
  · exact Or.inl e
  · exact Or.inr ⟨b, o, e, Nat.lt_of_lt_of_le hlt hb.size, hs.below hb hlt⟩
theorem pcells_length : ∀ L : List Pt, (pcells L).length = L.length * 2
  | [] => rfl
  | p :: l => by have := pcells_length l; simp only [pcells, List.length_cons, this]; omega
theorem PSl.at {w : World} {a : Option Addr} {n cap k : Nat} {L : List Pt} (h : PSl w a n cap L) (hk : k < n) : ∃ b o x y, a = some ⟨b, o, none⟩ ∧ b < w.heap.size ∧ L[k]? = some (x, y) ∧ ∀ j x y, L[j]? = some (x, y) → Pc w b (o + j * 2) (.int .i64 x) (.int .i64 y) := by
  rcases h.seg with e | ⟨b, o, e, hlt, hs⟩
  · omega
  · have hkl : k < L.length := by rw [h.len]; exact hk
    refine ⟨b, o, L[k].1, L[k].2, e, hlt, List.getElem?_eq_getElem hkl, fun j x y hj => ?_⟩
    obtain ⟨e1, e2⟩ := pcells_at L j x y hj
    have hjl := (List.getElem?_eq_some_iff.1 hj).1
    have hl := pcells_length L
    exact ⟨hs.cell _ _ e1, hs.cell _ _ e2, hs.free (j * 2) (by omega), hs.free (j * 2 + 1) (by omega)⟩
theorem bst_step {a b c : Pt} {L : List Pt} {k : Nat} (h : L[k]? = some c) : bstQ a b L (k + 1) = if leftQ a b c && (decide (bstQ a b L k < 0) || cfQ a b (L.getD (bstQ a b L k).toNat (0, 0)) c) then (k : Int) else bstQ a b L k := by
  conv => lhs; unfold bstQ
  rw [List.getD, h]
  rfl
theorem bst_no {a b c : Pt} {L : List Pt} {k : Nat} {z : Int} (h : L[k]? = some c) (hz : z = bstQ a b L k) (hl : leftQ a b c = false) : z = bstQ a b L (k + 1) := by
  rw [bst_step h, hl, hz]; rfl
theorem bst_first {a b c : Pt} {L : List Pt} {k : Nat} (h : L[k]? = some c) (hz : -1 = bstQ a b L k) (hl : leftQ a b c = true) : (k : Int) = bstQ a b L (k + 1) := by
  rw [bst_step h, hl, ← hz]; rfl
theorem bst_more {a b c d : Pt} {L : List Pt} {k j : Nat} {q : Bool} (h : L[k]? = some c) (hz : (j : Int) = bstQ a b L k) (hj : L[j]? = some d) (hl : leftQ a b c = true) (hq : cfQ a b d c = q) : (if q = true then (k : Int) else (j : Int)) = bstQ a b L (k + 1) := by
  rw [bst_step h, hl, ← hz, Int.toNat_natCast, List.getD, hj, decide_eq_false (by omega : ¬ (j : Int) < 0)]
  show _ = if (true && (false || cfQ a b d c)) = true then _ else _
  rw [hq]
  cases q <;> rfl
set_option maxRecDepth 100000 in
set_option maxHeartbeats 8000000 in
theorem tBest (a1 a2 b1 b2 : Int) (s : Option Addr) (n cap : Nat) (L : List Pt) (w : World) (hL : PSl w s n cap L) (hn : n ≤ 1000000) {r : Int} (hr : r = bstQ (a1, a2) (b1, b2) L n) :
    Calls Try.prog 11 #[.agg #[.int .i64 a1, .int .i64 a2], .agg #[.int .i64 b1, .int .i64 b2], .slice s n cap] w fun e w' => e = .returned (.int .i64 r) ∧ Below w.heap.size w w' := by
  have HR : Hid _ := hr
  clear hr
  obtain ⟨W, hW, bW, x_a, x_b, sW⟩ := bs_22 w (.int .i64 a1) (.int .i64 a2) (.int .i64 b1) (.int .i64 b2) 31 31
  have zbW := bW.size
  have BB := bW
  go_enter Try.func11, Try.ntmps11
  go_wp2
  rw [← hW]
  clear hW
  go_loopw [7, 12] (fun m i wr => ∃ (k : Nat) (z : Int), k ≤ n ∧ i = .int .i64 (k : Int) ∧ m = .int .i64 z ∧ Hid (z = bstQ (a1, a2) (b1, b2) L k) ∧ Bx wr w.heap.size (.int .i64 a1) (.int .i64 a2) ∧ Bx wr (w.heap.size + 1) (.int .i64 b1) (.int .i64 b2) ∧ Below w.heap.size w wr) (fun _ i _ => n - (intOf i).toNat)
  case atStart => exact ⟨0, -1, by omega, rfl, rfl, rfl, x_a, x_b, BB⟩
  case round =>
    clear x_a x_b BB
    obtain ⟨k, z, hk, rfl, rfl, hz, x_a, x_b, BB⟩ := hrel
    by_cases hlt : k < n
    · obtain ⟨bl, ofs, x, y, rfl, hbl, hxy, hpc⟩ := (hL.below BB).at hlt
      have x_e := hpc k x y hxy
      have hw : wrap64 ((k : Int) + 1) = (k : Int) + 1 := wrap_in (by omega) (by omega)
      have hlt' : (k : Int) < (n : Int) := by omega
      have zb := bx_lt x_b
      have hrng := bst_range (a1, a2) (b1, b2) L k
      rw [← hz.out] at hrng
      have HXY : Hid _ := hxy
      have hLl := hL.len
      clear hxy hL
      cases hl : leftQ (a1, a2) (b1, b2) (x, y)
      · skip
        obtain ⟨g, hg⟩ : ∃ g, g = (arP a1 a2 b1 b2 x y).sign := ⟨_, rfl⟩
        have hg1 : (g == 1) = false := by rw [hg]; simpa using of_decide_eq_false hl
        have G : Hid _ := hg
        clear hg
        have HL : Hid _ := hl
        clear hl
        have q1 := x_e.c0
        have q2 := x_e.c1
        obtain ⟨V, hV, bV, x_p, sV⟩ := bs_2 wr (.int .i64 x) (.int .i64 y) 31
        have zbV := bV.size
        replace x_a := x_a.on bV
        replace x_b := x_b.on bV
        replace BB := also BB bV
        replace x_e := x_e.on bV
        go_wp2
        rw [← hV]
        clear hV
        clear q1 q2
        have dd1 : Below V.heap.size V V.drew := (Below.refl _ _).drew
        have zdd1 := dd1.size
        replace x_a := x_a.on dd1
        replace x_b := x_b.on dd1
        replace BB := also BB dd1
        replace x_e := x_e.on dd1
        replace x_p := x_p.on dd1
        refine wp_region_held_drew (S := (fun w' => w'.cell? ⟨w.heap.size, 0, none⟩ = some (.int .i64 a1) ∧ w'.cell? ⟨w.heap.size, 1, none⟩ = some (.int .i64 a2) ∧ w'.cell? ⟨w.heap.size + 1, 0, none⟩ = some (.int .i64 b1) ∧ w'.cell? ⟨w.heap.size + 1, 1, none⟩ = some (.int .i64 b2) ∧ w'.cell? ⟨wr.heap.size, 0, none⟩ = some (.int .i64 x) ∧ w'.cell? ⟨wr.heap.size, 1, none⟩ = some (.int .i64 y) ∧ Below w.heap.size w w')) (by kernel_rfl) ?_ (fun hHeld => ?_)
        · exact ⟨x_a.c0, x_a.c1, x_b.c0, x_b.c1, x_p.c0, x_p.c1, BB⟩
        refine ty (i := 0) (v := ?vsno0) rfl ?hysno0 ?_
        case hysno0 => (intro w hSw; (try dsimp only at hSw); go_simp <;> with_reducible rfl)
        simp only [Act.put, ps1, ps2, ps3]
        refine ty (i := 1) (v := ?vsno1) rfl ?hysno1 ?_
        case hysno1 => (intro w hSw; (try dsimp only at hSw); go_simp <;> with_reducible rfl)
        simp only [Act.put, ps1, ps2, ps3]
        refine ty (i := 2) (v := ?vsno2) rfl ?hysno2 ?_
        case hysno2 => (intro w hSw; (try dsimp only at hSw); go_simp <;> with_reducible rfl)
        simp only [Act.put, ps1, ps2, ps3]
        refine take_call (i := 3) rfl (by kernel_rfl) (fun Kc hK => ?_)
        go_simp
        (go_at_call 16; refine (pOrient a1 a2 b1 b2 x y _ G.out).mono ?_; rintro e w1 ⟨rfl, bw1⟩)
        refine hK.out _ _ ?_ (fun hHeld => ?_)
        · exact ⟨cell_on bw1 hHeld.1, cell_on bw1 hHeld.2.1, cell_on bw1 hHeld.2.2.1, cell_on bw1 hHeld.2.2.2.1, cell_on bw1 hHeld.2.2.2.2.1, cell_on bw1 hHeld.2.2.2.2.2.1, also hHeld.2.2.2.2.2.2 bw1⟩
        clear hK Kc
        have zbw1 := bw1.size
        replace x_a := x_a.on bw1
        replace x_b := x_b.on bw1
        replace BB := also BB bw1
        replace x_e := x_e.on bw1
        replace x_p := x_p.on bw1
        refine ty (i := 4) (v := ?vsno4) rfl ?hysno4 ?_
        case hysno4 => (intro w hSw; (try dsimp only at hSw); go_simp <;> with_reducible rfl)
        simp only [Act.put, ps1, ps2, ps3]
        refine ty (i := 5) (v := ?vsno5) rfl ?hysno5 ?_
        case hysno5 => (intro w hSw; (try dsimp only at hSw); go_simp <;> with_reducible rfl)
        simp only [Act.put, ps1, ps2, ps3]
        refine take_no (i := 6) rfl (by kernel_rfl) (by kernel_rfl) (by kernel_rfl) (fun _ _ _ h => h) (by rfl) (by assumption) ?_
        simp only [Act.put, ps1, ps2, ps3]
        refine take_no (i := 7) rfl (by kernel_rfl) (by kernel_rfl) (by kernel_rfl) (fun _ _ _ h => h) (by rfl) (by assumption) ?_
        simp only [Act.put, ps1, ps2, ps3]
        refine take_no (i := 8) rfl (by kernel_rfl) (by kernel_rfl) (by kernel_rfl) (fun _ _ _ h => h) (by rfl) (by assumption) ?_
        simp only [Act.put, ps1, ps2, ps3]
        refine take_no (i := 9) rfl (by kernel_rfl) (by kernel_rfl) (by kernel_rfl) (fun _ _ _ h => h) (by rfl) (by assumption) ?_
        simp only [Act.put, ps1, ps2, ps3]
        refine take_no (i := 10) rfl (by kernel_rfl) (by kernel_rfl) (by kernel_rfl) (fun _ _ _ h => h) (by rfl) (by assumption) ?_
        simp only [Act.put, ps1, ps2, ps3]
        refine take_no (i := 11) rfl (by kernel_rfl) (by kernel_rfl) (by kernel_rfl) (fun _ _ _ h => h) (by rfl) (by assumption) ?_
        simp only [Act.put, ps1, ps2, ps3]
        refine take_no (i := 12) rfl (by kernel_rfl) (by kernel_rfl) (by kernel_rfl) (fun _ _ _ h => h) (by rfl) (by assumption) ?_
        simp only [Act.put, ps1, ps2, ps3]
        refine take_no (i := 13) rfl (by kernel_rfl) (by kernel_rfl) (by kernel_rfl) (fun _ _ _ h => h) (by rfl) (by assumption) ?_
        simp only [Act.put, ps1, ps2, ps3]
        refine take_no (i := 14) rfl (by kernel_rfl) (by kernel_rfl) (by kernel_rfl) (fun _ _ _ h => h) (by rfl) (by assumption) ?_
        simp only [Act.put, ps1, ps2, ps3]
        refine take_no (i := 15) rfl (by kernel_rfl) (by kernel_rfl) (by kernel_rfl) (fun _ _ _ h => h) (by rfl) (by assumption) ?_
        simp only [Act.put, ps1, ps2, ps3]
        refine take_no (i := 16) rfl (by kernel_rfl) (by kernel_rfl) (by kernel_rfl) (fun _ _ _ h => h) (by rfl) (by assumption) ?_
        simp only [Act.put, ps1, ps2, ps3]
        refine take_no (i := 17) rfl (by kernel_rfl) (by kernel_rfl) (by kernel_rfl) (fun _ _ _ h => h) (by rfl) (by assumption) ?_
        simp only [Act.put, ps1, ps2, ps3]
        refine ty (i := 18) (v := ?vsno18) rfl ?hysno18 ?_
        case hysno18 => (intro w hSw; (try dsimp only at hSw); go_simp <;> with_reducible rfl)
        simp only [Act.put, ps1, ps2, ps3]
        refine wpAnyH_done (by kernel_rfl) ?_ _
        go_wp2
        go_roundw
        case rel => exact ⟨k + 1, _, by omega, by simp, rfl, bst_no HXY.out hz.out HL.out, x_a, x_b, BB⟩
        case measure => simp [intOf]; omega
      · by_cases hz0 : z < 0
        · obtain rfl : z = -1 := by omega
          obtain ⟨g, hg⟩ : ∃ g, g = (arP a1 a2 b1 b2 x y).sign := ⟨_, rfl⟩
          obtain rfl : g = 1 := by rw [hg]; exact of_decide_eq_true hl
          have G : Hid _ := hg
          clear hg
          have HL : Hid _ := hl
          clear hl
          have q1 := x_e.c0
          have q2 := x_e.c1
          obtain ⟨V, hV, bV, x_p, sV⟩ := bs_2 wr (.int .i64 x) (.int .i64 y) 31
          have zbV := bV.size
          replace x_a := x_a.on bV
          replace x_b := x_b.on bV
          replace BB := also BB bV
          replace x_e := x_e.on bV
          go_wp2
          rw [← hV]
          clear hV
          clear q1 q2
          have dd1 : Below V.heap.size V V.drew := (Below.refl _ _).drew
          have zdd1 := dd1.size
          replace x_a := x_a.on dd1
          replace x_b := x_b.on dd1
          replace BB := also BB dd1
          replace x_e := x_e.on dd1
          replace x_p := x_p.on dd1
          refine wp_region_held_drew (S := (fun w' => w'.cell? ⟨w.heap.size, 0, none⟩ = some (.int .i64 a1) ∧ w'.cell? ⟨w.heap.size, 1, none⟩ = some (.int .i64 a2) ∧ w'.cell? ⟨w.heap.size + 1, 0, none⟩ = some (.int .i64 b1) ∧ w'.cell? ⟨w.heap.size + 1, 1, none⟩ = some (.int .i64 b2) ∧ w'.cell? ⟨wr.heap.size, 0, none⟩ = some (.int .i64 x) ∧ w'.cell? ⟨wr.heap.size, 1, none⟩ = some (.int .i64 y) ∧ Below w.heap.size w w')) (by kernel_rfl) ?_ (fun hHeld => ?_)
          · exact ⟨x_a.c0, x_a.c1, x_b.c0, x_b.c1, x_p.c0, x_p.c1, BB⟩
          refine ty (i := 0) (v := ?vsfirst0) rfl ?hysfirst0 ?_
          case hysfirst0 => (intro w hSw; (try dsimp only at hSw); go_simp <;> with_reducible rfl)
          simp only [Act.put, ps1, ps2, ps3]
          refine ty (i := 1) (v := ?vsfirst1) rfl ?hysfirst1 ?_
          case hysfirst1 => (intro w hSw; (try dsimp only at hSw); go_simp <;> with_reducible rfl)
          simp only [Act.put, ps1, ps2, ps3]
          refine ty (i := 2) (v := ?vsfirst2) rfl ?hysfirst2 ?_
          case hysfirst2 => (intro w hSw; (try dsimp only at hSw); go_simp <;> with_reducible rfl)
          simp only [Act.put, ps1, ps2, ps3]
          refine take_call (i := 3) rfl (by kernel_rfl) (fun Kc hK => ?_)
          go_simp
          (go_at_call 16; refine (pOrient a1 a2 b1 b2 x y _ G.out).mono ?_; rintro e w1 ⟨rfl, bw1⟩)
          refine hK.out _ _ ?_ (fun hHeld => ?_)
          · exact ⟨cell_on bw1 hHeld.1, cell_on bw1 hHeld.2.1, cell_on bw1 hHeld.2.2.1, cell_on bw1 hHeld.2.2.2.1, cell_on bw1 hHeld.2.2.2.2.1, cell_on bw1 hHeld.2.2.2.2.2.1, also hHeld.2.2.2.2.2.2 bw1⟩
          clear hK Kc
          have zbw1 := bw1.size
          replace x_a := x_a.on bw1
          replace x_b := x_b.on bw1
          replace BB := also BB bw1
          replace x_e := x_e.on bw1
          replace x_p := x_p.on bw1
          refine ty (i := 4) (v := ?vsfirst4) rfl ?hysfirst4 ?_
          case hysfirst4 => (intro w hSw; (try dsimp only at hSw); go_simp <;> with_reducible rfl)
          simp only [Act.put, ps1, ps2, ps3]
          refine ty (i := 5) (v := ?vsfirst5) rfl ?hysfirst5 ?_
          case hysfirst5 => (intro w hSw; (try dsimp only at hSw); go_simp <;> with_reducible rfl)
          simp only [Act.put, ps1, ps2, ps3]
          refine ty (i := 6) (v := ?vsfirst6) rfl ?hysfirst6 ?_
          case hysfirst6 => (intro w hSw; (try dsimp only at hSw); go_simp <;> with_reducible rfl)
          simp only [Act.put, ps1, ps2, ps3]
          refine ty (i := 7) (v := ?vsfirst7) rfl ?hysfirst7 ?_
          case hysfirst7 => (intro w hSw; (try dsimp only at hSw); go_simp <;> with_reducible rfl)
          simp only [Act.put, ps1, ps2, ps3]
          refine ty (i := 8) (v := ?vsfirst8) rfl ?hysfirst8 ?_
          case hysfirst8 => (intro w hSw; (try dsimp only at hSw); go_simp <;> with_reducible rfl)
          simp only [Act.put, ps1, ps2, ps3]
          refine take_no (i := 9) rfl (by kernel_rfl) (by kernel_rfl) (by kernel_rfl) (fun _ _ _ h => h) (by rfl) (by assumption) ?_
          simp only [Act.put, ps1, ps2, ps3]
          refine take_no (i := 10) rfl (by kernel_rfl) (by kernel_rfl) (by kernel_rfl) (fun _ _ _ h => h) (by rfl) (by assumption) ?_
          simp only [Act.put, ps1, ps2, ps3]
          refine take_no (i := 11) rfl (by kernel_rfl) (by kernel_rfl) (by kernel_rfl) (fun _ _ _ h => h) (by rfl) (by assumption) ?_
          simp only [Act.put, ps1, ps2, ps3]
          refine take_no (i := 12) rfl (by kernel_rfl) (by kernel_rfl) (by kernel_rfl) (fun _ _ _ h => h) (by rfl) (by assumption) ?_
          simp only [Act.put, ps1, ps2, ps3]
          refine take_no (i := 13) rfl (by kernel_rfl) (by kernel_rfl) (by kernel_rfl) (fun _ _ _ h => h) (by rfl) (by assumption) ?_
          simp only [Act.put, ps1, ps2, ps3]
          refine take_no (i := 14) rfl (by kernel_rfl) (by kernel_rfl) (by kernel_rfl) (fun _ _ _ h => h) (by rfl) (by assumption) ?_
          simp only [Act.put, ps1, ps2, ps3]
          refine take_no (i := 15) rfl (by kernel_rfl) (by kernel_rfl) (by kernel_rfl) (fun _ _ _ h => h) (by rfl) (by assumption) ?_
          simp only [Act.put, ps1, ps2, ps3]
          refine take_no (i := 16) rfl (by kernel_rfl) (by kernel_rfl) (by kernel_rfl) (fun _ _ _ h => h) (by rfl) (by assumption) ?_
          simp only [Act.put, ps1, ps2, ps3]
          refine ty (i := 17) (v := ?vsfirst17) rfl ?hysfirst17 ?_
          case hysfirst17 => (intro w hSw; (try dsimp only at hSw); go_simp <;> with_reducible rfl)
          simp only [Act.put, ps1, ps2, ps3]
          refine ty (i := 18) (v := ?vsfirst18) rfl ?hysfirst18 ?_
          case hysfirst18 => (intro w hSw; (try dsimp only at hSw); go_simp <;> with_reducible rfl)
          simp only [Act.put, ps1, ps2, ps3]
          refine wpAnyH_done (by kernel_rfl) ?_ _
          go_wp2
          go_roundw
          case rel => exact ⟨k + 1, _, by omega, by simp, rfl, bst_first HXY.out hz.out HL.out, x_a, x_b, BB⟩
          case measure => simp [intOf]; omega
        · obtain ⟨j, rfl⟩ : ∃ j : Nat, z = (j : Int) := ⟨z.toNat, by omega⟩
          have hjk : j < n := by omega
          have hjk' : (j : Int) < (n : Int) := by omega
          obtain ⟨u, v, huv⟩ : ∃ u v, L[j]? = some (u, v) := ⟨_, _, List.getElem?_eq_getElem (by rw [hLl]; exact hjk)⟩
          have x_l := hpc j u v huv
          have HJ : Hid _ := huv
          clear huv hrng
          cases hcf : cfQ (a1, a2) (b1, b2) (u, v) (x, y)
          · skip
            obtain ⟨g, hg⟩ : ∃ g, g = (arP a1 a2 b1 b2 x y).sign := ⟨_, rfl⟩
            obtain rfl : g = 1 := by rw [hg]; exact of_decide_eq_true hl
            have G : Hid _ := hg
            clear hg
            have HL : Hid _ := hl
            clear hl
            have HC : Hid _ := hcf
            clear hcf
            have q1 := x_e.c0
            have q2 := x_e.c1
            obtain ⟨V, hV, bV, x_p, sV⟩ := bs_2 wr (.int .i64 x) (.int .i64 y) 31
            have zbV := bV.size
            replace x_a := x_a.on bV
            replace x_b := x_b.on bV
            replace BB := also BB bV
            replace x_e := x_e.on bV
            replace x_l := x_l.on bV
            go_wp2
            rw [← hV]
            clear hV
            clear q1 q2
            have dd1 : Below V.heap.size V V.drew := (Below.refl _ _).drew
            have zdd1 := dd1.size
            replace x_a := x_a.on dd1
            replace x_b := x_b.on dd1
            replace BB := also BB dd1
            replace x_e := x_e.on dd1
            replace x_l := x_l.on dd1
            replace x_p := x_p.on dd1
            refine wp_region_held_drew (S := (fun w' => w'.cell? ⟨w.heap.size, 0, none⟩ = some (.int .i64 a1) ∧ w'.cell? ⟨w.heap.size, 1, none⟩ = some (.int .i64 a2) ∧ w'.cell? ⟨w.heap.size + 1, 0, none⟩ = some (.int .i64 b1) ∧ w'.cell? ⟨w.heap.size + 1, 1, none⟩ = some (.int .i64 b2) ∧ w'.cell? ⟨wr.heap.size, 0, none⟩ = some (.int .i64 x) ∧ w'.cell? ⟨wr.heap.size, 1, none⟩ = some (.int .i64 y) ∧ w'.cell? ⟨bl, ofs + j * 2, none⟩ = some (.int .i64 u) ∧ w'.cell? ⟨bl, ofs + j * 2 + 1, none⟩ = some (.int .i64 v) ∧ Below w.heap.size w w')) (by kernel_rfl) ?_ (fun hHeld => ?_)
            · exact ⟨x_a.c0, x_a.c1, x_b.c0, x_b.c1, x_p.c0, x_p.c1, x_l.c0, x_l.c1, BB⟩
            refine ty (i := 0) (v := ?vsmfalse0) rfl ?hysmfalse0 ?_
            case hysmfalse0 => (intro w hSw; (try dsimp only at hSw); go_simp <;> with_reducible rfl)
            simp only [Act.put, ps1, ps2, ps3]
            refine ty (i := 1) (v := ?vsmfalse1) rfl ?hysmfalse1 ?_
            case hysmfalse1 => (intro w hSw; (try dsimp only at hSw); go_simp <;> with_reducible rfl)
            simp only [Act.put, ps1, ps2, ps3]
            refine ty (i := 2) (v := ?vsmfalse2) rfl ?hysmfalse2 ?_
            case hysmfalse2 => (intro w hSw; (try dsimp only at hSw); go_simp <;> with_reducible rfl)
            simp only [Act.put, ps1, ps2, ps3]
            refine take_call (i := 3) rfl (by kernel_rfl) (fun Kc hK => ?_)
            go_simp
            (go_at_call 16; refine (pOrient a1 a2 b1 b2 x y _ G.out).mono ?_; rintro e w1 ⟨rfl, bw1⟩)
            refine hK.out _ _ ?_ (fun hHeld => ?_)
            · exact ⟨cell_on bw1 hHeld.1, cell_on bw1 hHeld.2.1, cell_on bw1 hHeld.2.2.1, cell_on bw1 hHeld.2.2.2.1, cell_on bw1 hHeld.2.2.2.2.1, cell_on bw1 hHeld.2.2.2.2.2.1, cell_on bw1 hHeld.2.2.2.2.2.2.1, cell_on bw1 hHeld.2.2.2.2.2.2.2.1, also hHeld.2.2.2.2.2.2.2.2 bw1⟩
            clear hK Kc
            have zbw1 := bw1.size
            replace x_a := x_a.on bw1
            replace x_b := x_b.on bw1
            replace BB := also BB bw1
            replace x_e := x_e.on bw1
            replace x_l := x_l.on bw1
            replace x_p := x_p.on bw1
            refine ty (i := 4) (v := ?vsmfalse4) rfl ?hysmfalse4 ?_
            case hysmfalse4 => (intro w hSw; (try dsimp only at hSw); go_simp <;> with_reducible rfl)
            simp only [Act.put, ps1, ps2, ps3]
            refine ty (i := 5) (v := ?vsmfalse5) rfl ?hysmfalse5 ?_
            case hysmfalse5 => (intro w hSw; (try dsimp only at hSw); go_simp <;> with_reducible rfl)
            simp only [Act.put, ps1, ps2, ps3]
            refine ty (i := 6) (v := ?vsmfalse6) rfl ?hysmfalse6 ?_
            case hysmfalse6 => (intro w hSw; (try dsimp only at hSw); go_simp <;> with_reducible rfl)
            simp only [Act.put, ps1, ps2, ps3]
            refine ty (i := 7) (v := ?vsmfalse7) rfl ?hysmfalse7 ?_
            case hysmfalse7 => (intro w hSw; (try dsimp only at hSw); go_simp <;> with_reducible rfl)
            simp only [Act.put, ps1, ps2, ps3]
            refine ty (i := 8) (v := ?vsmfalse8) rfl ?hysmfalse8 ?_
            case hysmfalse8 => (intro w hSw; (try dsimp only at hSw); go_simp <;> with_reducible rfl)
            simp only [Act.put, ps1, ps2, ps3]
            refine ty (i := 9) (v := ?vsmfalse9) rfl ?hysmfalse9 ?_
            case hysmfalse9 => (intro w hSw; (try dsimp only at hSw); go_simp <;> with_reducible rfl)
            simp only [Act.put, ps1, ps2, ps3]
            refine ty (i := 10) (v := ?vsmfalse10) rfl ?hysmfalse10 ?_
            case hysmfalse10 => (intro w hSw; (try dsimp only at hSw); go_simp <;> with_reducible rfl)
            simp only [Act.put, ps1, ps2, ps3]
            refine ty (i := 11) (v := ?vsmfalse11) rfl ?hysmfalse11 ?_
            case hysmfalse11 => (intro w hSw; (try dsimp only at hSw); go_simp <;> with_reducible rfl)
            simp only [Act.put, ps1, ps2, ps3]
            refine ty (i := 12) (v := ?vsmfalse12) rfl ?hysmfalse12 ?_
            case hysmfalse12 => (intro w hSw; (try dsimp only at hSw); go_simp <;> with_reducible rfl)
            simp only [Act.put, ps1, ps2, ps3]
            refine ty (i := 13) (v := ?vsmfalse13) rfl ?hysmfalse13 ?_
            case hysmfalse13 => (intro w hSw; (try dsimp only at hSw); go_simp <;> with_reducible rfl)
            simp only [Act.put, ps1, ps2, ps3]
            refine ty (i := 14) (v := ?vsmfalse14) rfl ?hysmfalse14 ?_
            case hysmfalse14 => (intro w hSw; (try dsimp only at hSw); go_simp <;> with_reducible rfl)
            simp only [Act.put, ps1, ps2, ps3]
            refine ty (i := 15) (v := ?vsmfalse15) rfl ?hysmfalse15 ?_
            case hysmfalse15 => (intro w hSw; (try dsimp only at hSw); go_simp <;> with_reducible rfl)
            simp only [Act.put, ps1, ps2, ps3]
            refine take_call (i := 16) rfl (by kernel_rfl) (fun Kc hK => ?_)
            go_simp
            (go_at_call 17; refine (tConflict a1 a2 b1 b2 u v x y _ HC.out.symm).mono ?_; rintro e w2 ⟨rfl, bw2⟩)
            refine hK.out _ _ ?_ (fun hHeld => ?_)
            · exact ⟨cell_on bw2 hHeld.1, cell_on bw2 hHeld.2.1, cell_on bw2 hHeld.2.2.1, cell_on bw2 hHeld.2.2.2.1, cell_on bw2 hHeld.2.2.2.2.1, cell_on bw2 hHeld.2.2.2.2.2.1, cell_on bw2 hHeld.2.2.2.2.2.2.1, cell_on bw2 hHeld.2.2.2.2.2.2.2.1, also hHeld.2.2.2.2.2.2.2.2 bw2⟩
            clear hK Kc
            have zbw2 := bw2.size
            replace x_a := x_a.on bw2
            replace x_b := x_b.on bw2
            replace BB := also BB bw2
            replace x_e := x_e.on bw2
            replace x_l := x_l.on bw2
            replace x_p := x_p.on bw2
            refine ty (i := 17) (v := ?vsmfalse17) rfl ?hysmfalse17 ?_
            case hysmfalse17 => (intro w hSw; (try dsimp only at hSw); go_simp <;> with_reducible rfl)
            simp only [Act.put, ps1, ps2, ps3]
            refine ty (i := 18) (v := ?vsmfalse18) rfl ?hysmfalse18 ?_
            case hysmfalse18 => (intro w hSw; (try dsimp only at hSw); go_simp <;> with_reducible rfl)
            simp only [Act.put, ps1, ps2, ps3]
            refine wpAnyH_done (by kernel_rfl) ?_ _
            go_wp2
            go_roundw
            case rel => exact ⟨k + 1, _, by omega, by simp, rfl, (bst_more HXY.out hz.out HJ.out HL.out HC.out), x_a, x_b, BB⟩
            case measure => simp [intOf]; omega
          · skip
            obtain ⟨g, hg⟩ : ∃ g, g = (arP a1 a2 b1 b2 x y).sign := ⟨_, rfl⟩
            obtain rfl : g = 1 := by rw [hg]; exact of_decide_eq_true hl
            have G : Hid _ := hg
            clear hg
            have HL : Hid _ := hl
            clear hl
            have HC : Hid _ := hcf
            clear hcf
            have q1 := x_e.c0
            have q2 := x_e.c1
            obtain ⟨V, hV, bV, x_p, sV⟩ := bs_2 wr (.int .i64 x) (.int .i64 y) 31
            have zbV := bV.size
            replace x_a := x_a.on bV
            replace x_b := x_b.on bV
            replace BB := also BB bV
            replace x_e := x_e.on bV
            replace x_l := x_l.on bV
            go_wp2
            rw [← hV]
            clear hV
            clear q1 q2
            have dd1 : Below V.heap.size V V.drew := (Below.refl _ _).drew
            have zdd1 := dd1.size
            replace x_a := x_a.on dd1
            replace x_b := x_b.on dd1
            replace BB := also BB dd1
            replace x_e := x_e.on dd1
            replace x_l := x_l.on dd1
            replace x_p := x_p.on dd1
            refine wp_region_held_drew (S := (fun w' => w'.cell? ⟨w.heap.size, 0, none⟩ = some (.int .i64 a1) ∧ w'.cell? ⟨w.heap.size, 1, none⟩ = some (.int .i64 a2) ∧ w'.cell? ⟨w.heap.size + 1, 0, none⟩ = some (.int .i64 b1) ∧ w'.cell? ⟨w.heap.size + 1, 1, none⟩ = some (.int .i64 b2) ∧ w'.cell? ⟨wr.heap.size, 0, none⟩ = some (.int .i64 x) ∧ w'.cell? ⟨wr.heap.size, 1, none⟩ = some (.int .i64 y) ∧ w'.cell? ⟨bl, ofs + j * 2, none⟩ = some (.int .i64 u) ∧ w'.cell? ⟨bl, ofs + j * 2 + 1, none⟩ = some (.int .i64 v) ∧ Below w.heap.size w w')) (by kernel_rfl) ?_ (fun hHeld => ?_)
            · exact ⟨x_a.c0, x_a.c1, x_b.c0, x_b.c1, x_p.c0, x_p.c1, x_l.c0, x_l.c1, BB⟩
            refine ty (i := 0) (v := ?vsmtrue0) rfl ?hysmtrue0 ?_
            case hysmtrue0 => (intro w hSw; (try dsimp only at hSw); go_simp <;> with_reducible rfl)
            simp only [Act.put, ps1, ps2, ps3]
            refine ty (i := 1) (v := ?vsmtrue1) rfl ?hysmtrue1 ?_
            case hysmtrue1 => (intro w hSw; (try dsimp only at hSw); go_simp <;> with_reducible rfl)
            simp only [Act.put, ps1, ps2, ps3]
            refine ty (i := 2) (v := ?vsmtrue2) rfl ?hysmtrue2 ?_
            case hysmtrue2 => (intro w hSw; (try dsimp only at hSw); go_simp <;> with_reducible rfl)
            simp only [Act.put, ps1, ps2, ps3]
            refine take_call (i := 3) rfl (by kernel_rfl) (fun Kc hK => ?_)
            go_simp
            (go_at_call 16; refine (pOrient a1 a2 b1 b2 x y _ G.out).mono ?_; rintro e w1 ⟨rfl, bw1⟩)
            refine hK.out _ _ ?_ (fun hHeld => ?_)
            · exact ⟨cell_on bw1 hHeld.1, cell_on bw1 hHeld.2.1, cell_on bw1 hHeld.2.2.1, cell_on bw1 hHeld.2.2.2.1, cell_on bw1 hHeld.2.2.2.2.1, cell_on bw1 hHeld.2.2.2.2.2.1, cell_on bw1 hHeld.2.2.2.2.2.2.1, cell_on bw1 hHeld.2.2.2.2.2.2.2.1, also hHeld.2.2.2.2.2.2.2.2 bw1⟩
            clear hK Kc
            have zbw1 := bw1.size
            replace x_a := x_a.on bw1
            replace x_b := x_b.on bw1
            replace BB := also BB bw1
            replace x_e := x_e.on bw1
            replace x_l := x_l.on bw1
            replace x_p := x_p.on bw1
            refine ty (i := 4) (v := ?vsmtrue4) rfl ?hysmtrue4 ?_
            case hysmtrue4 => (intro w hSw; (try dsimp only at hSw); go_simp <;> with_reducible rfl)
            simp only [Act.put, ps1, ps2, ps3]
            refine ty (i := 5) (v := ?vsmtrue5) rfl ?hysmtrue5 ?_
            case hysmtrue5 => (intro w hSw; (try dsimp only at hSw); go_simp <;> with_reducible rfl)
            simp only [Act.put, ps1, ps2, ps3]
            refine ty (i := 6) (v := ?vsmtrue6) rfl ?hysmtrue6 ?_
            case hysmtrue6 => (intro w hSw; (try dsimp only at hSw); go_simp <;> with_reducible rfl)
            simp only [Act.put, ps1, ps2, ps3]
            refine ty (i := 7) (v := ?vsmtrue7) rfl ?hysmtrue7 ?_
            case hysmtrue7 => (intro w hSw; (try dsimp only at hSw); go_simp <;> with_reducible rfl)
            simp only [Act.put, ps1, ps2, ps3]
            refine ty (i := 8) (v := ?vsmtrue8) rfl ?hysmtrue8 ?_
            case hysmtrue8 => (intro w hSw; (try dsimp only at hSw); go_simp <;> with_reducible rfl)
            simp only [Act.put, ps1, ps2, ps3]
            refine ty (i := 9) (v := ?vsmtrue9) rfl ?hysmtrue9 ?_
            case hysmtrue9 => (intro w hSw; (try dsimp only at hSw); go_simp <;> with_reducible rfl)
            simp only [Act.put, ps1, ps2, ps3]
            refine ty (i := 10) (v := ?vsmtrue10) rfl ?hysmtrue10 ?_
            case hysmtrue10 => (intro w hSw; (try dsimp only at hSw); go_simp <;> with_reducible rfl)
            simp only [Act.put, ps1, ps2, ps3]
            refine ty (i := 11) (v := ?vsmtrue11) rfl ?hysmtrue11 ?_
            case hysmtrue11 => (intro w hSw; (try dsimp only at hSw); go_simp <;> with_reducible rfl)
            simp only [Act.put, ps1, ps2, ps3]
            refine ty (i := 12) (v := ?vsmtrue12) rfl ?hysmtrue12 ?_
            case hysmtrue12 => (intro w hSw; (try dsimp only at hSw); go_simp <;> with_reducible rfl)
            simp only [Act.put, ps1, ps2, ps3]
            refine ty (i := 13) (v := ?vsmtrue13) rfl ?hysmtrue13 ?_
            case hysmtrue13 => (intro w hSw; (try dsimp only at hSw); go_simp <;> with_reducible rfl)
            simp only [Act.put, ps1, ps2, ps3]
            refine ty (i := 14) (v := ?vsmtrue14) rfl ?hysmtrue14 ?_
            case hysmtrue14 => (intro w hSw; (try dsimp only at hSw); go_simp <;> with_reducible rfl)
            simp only [Act.put, ps1, ps2, ps3]
            refine ty (i := 15) (v := ?vsmtrue15) rfl ?hysmtrue15 ?_
            case hysmtrue15 => (intro w hSw; (try dsimp only at hSw); go_simp <;> with_reducible rfl)
            simp only [Act.put, ps1, ps2, ps3]
            refine take_call (i := 16) rfl (by kernel_rfl) (fun Kc hK => ?_)
            go_simp
            (go_at_call 17; refine (tConflict a1 a2 b1 b2 u v x y _ HC.out.symm).mono ?_; rintro e w2 ⟨rfl, bw2⟩)
            refine hK.out _ _ ?_ (fun hHeld => ?_)
            · exact ⟨cell_on bw2 hHeld.1, cell_on bw2 hHeld.2.1, cell_on bw2 hHeld.2.2.1, cell_on bw2 hHeld.2.2.2.1, cell_on bw2 hHeld.2.2.2.2.1, cell_on bw2 hHeld.2.2.2.2.2.1, cell_on bw2 hHeld.2.2.2.2.2.2.1, cell_on bw2 hHeld.2.2.2.2.2.2.2.1, also hHeld.2.2.2.2.2.2.2.2 bw2⟩
            clear hK Kc
            have zbw2 := bw2.size
            replace x_a := x_a.on bw2
            replace x_b := x_b.on bw2
            replace BB := also BB bw2
            replace x_e := x_e.on bw2
            replace x_l := x_l.on bw2
            replace x_p := x_p.on bw2
            refine ty (i := 17) (v := ?vsmtrue17) rfl ?hysmtrue17 ?_
            case hysmtrue17 => (intro w hSw; (try dsimp only at hSw); go_simp <;> with_reducible rfl)
            simp only [Act.put, ps1, ps2, ps3]
            refine ty (i := 18) (v := ?vsmtrue18) rfl ?hysmtrue18 ?_
            case hysmtrue18 => (intro w hSw; (try dsimp only at hSw); go_simp <;> with_reducible rfl)
            simp only [Act.put, ps1, ps2, ps3]
            refine wpAnyH_done (by kernel_rfl) ?_ _
            go_wp2
            go_roundw
            case rel => exact ⟨k + 1, _, by omega, by simp, rfl, (bst_more HXY.out hz.out HJ.out HL.out HC.out), x_a, x_b, BB⟩
            case measure => simp [intOf]; omega
    · obtain rfl : k = n := by omega
      go_wp2
      go_ret
      exact ⟨by rw [HR.out, ← hz.out]; rfl, BB⟩
end Go.Proofs.Ytkmgndaholglhaa

namespace Go.Proofs.Ytkmgndaholglhaa
open Go.RowKit
set_option linter.unusedVariables false

/-- Of w's blocks only those of F may have turned. -/
structure Keep (F : Nat → Prop) (w w' : World) : Prop where
  os : w'.os = w.os
  tape : w'.tape = w.tape
  output : w'.output = w.output
  size : w.heap.size ≤ w'.heap.size
  block : ∀ k, k < w.heap.size → ¬ F k → w'.heap[k]? = w.heap[k]?
theorem Keep.refl (F : Nat → Prop) (w : World) : Keep F w w := ⟨rfl, rfl, rfl, Nat.le_refl _, fun _ _ _ => rfl⟩
theorem Keep.trans {F G : Nat → Prop} {a b c : World} (h : Keep F a b) (k : Keep G b c) (hG : ∀ i, G i → F i ∨ a.heap.size ≤ i) : Keep F a c :=
  ⟨k.os.trans h.os, k.tape.trans h.tape, k.output.trans h.output, Nat.le_trans h.size k.size, fun i hi hF => (k.block i (Nat.lt_of_lt_of_le hi h.size) (fun g => (hG i g).elim hF (fun x => by omega))).trans (h.block i hi hF)⟩
theorem Keep.of {F : Nat → Prop} {w w' : World} (h : Below w.heap.size w w') : Keep F w w' := ⟨h.os, h.tape, h.output, h.size, fun k hk _ => h.block k hk⟩
theorem Keep.to {F : Nat → Prop} {a b c : World} (h : Keep F a b) (k : Below b.heap.size b c) : Keep F a c := h.trans (Keep.of (F := fun _ => False) k) (fun _ x => x.elim)
theorem Keep.drew {F : Nat → Prop} {a w : World} (h : Keep F a w) : Keep F a w.drew := ⟨h.os, h.tape, h.output, h.size, h.block⟩
theorem Keep.alloc {F : Nat → Prop} {a w : World} (h : Keep F a w) (o : Obj) : Keep F a (w.alloc o) := h.to ((Below.refl _ _).alloc (Nat.le_refl _) o)
theorem Keep.grown {F : Nat → Prop} {a w w' : World} {row : Option Nat} (h : Keep F a w) (hg : w.grownBy w' row) (hr : ∀ k, row = some k → F k ∨ a.heap.size ≤ k) : Keep F a w' :=
  h.trans (G := fun k => row = some k) ⟨hg.os, hg.tape, hg.output, hg.size, fun k hk hn => hg.block k hk (fun e => hn e.symm)⟩ hr
theorem Keep.below {F : Nat → Prop} {w w' : World} {B : Nat} (h : Keep F w w') (hB : B ≤ w.heap.size) (hF : ∀ k, F k → B ≤ k) : Below B w w' :=
  ⟨h.os, h.tape, h.output, h.size, fun k hk => h.block k (by omega) (fun f => by have := hF k f; omega)⟩
/-- The blocks in which a slice lies. -/
def Slot (a : Option Addr) (k : Nat) : Prop := ∃ o, a = some ⟨k, o, none⟩
theorem Own.lt {w : World} {base n cap : Nat} {T : TypeId} {a : Option Addr} {xs : List Value} (h : Own w base T a n cap xs) {k : Nat} (hk : Slot a k) : k < w.heap.size ∧ base ≤ k := by
  obtain ⟨o, rfl⟩ := hk
  obtain ⟨hl, ⟨h1, _⟩ | ⟨g, cap', cur, hv, hb', hg, r⟩⟩ := h
  · cases h1
  · cases hv
    exact ⟨(Array.getElem?_eq_some_iff.1 hg).1, hb'⟩
/-- append onto what one owns: its answer lies in the old block, or in a new one. -/
theorem app_at {P : Program} (w : World) {ops : Array Oper} {rest : List Oper} {o : Oper} {a : Act} {Q : Exit → Act → World → Prop} (hgd : o.guard = none) (s x : Operand) (t : TypeId)
    (ho : o.op = .call { callee := .builtin .append, args := #[s, x], argTypes := #[t, t] })
    (base : Nat) (e : TypeId) (i : TypeInfo) (z : Value) (bytes : Nat) (ht : P.underlying t = some (.slice e)) (hi : P.info? e = some i) (hz : i.zero = some z)
    (hsize : i.size = 1) (hby : i.bytes = bytes) (hzs : z.cells.size = 1)
    (a0 : Option Addr) (n0 c0 : Nat) (xs : List Value) (hs : a.eval s = .slice a0 n0 c0) (hown : Own w base e a0 n0 c0 xs)
    (ao : Option Addr) (m c : Nat) (news : List Value) (hx : a.eval x = .slice ao m c) (hsl : Sl w ao m c news) (h1 : ∀ u ∈ news, u.oneCell' = true)
    (h63 : n0 + m ≤ maxLen) (hbytes : (n0 + m) * bytes ≤ 140737488355328) (hbase : base ≤ w.heap.size)
    (h : ∀ a' cap' w', Own w' base e a' (n0 + m) cap' (xs ++ news) → w.grownBy w' (Value.slice a0 n0 c0).ownBlock → (∀ k, Slot a' k → Slot a0 k ∨ w.heap.size ≤ k) → wpList P ops Q rest (a.put o.dst (.slice a' (n0 + m) cap')) w') : wpList P ops Q (o :: rest) a w := by
  cases ao with
  | none =>
    obtain ⟨rfl, rfl⟩ := hsl.nil rfl
    obtain rfl : news = [] := List.eq_nil_of_length_eq_zero hsl.len
    refine wpList_append_own_none hgd s x t ho base e i 1 ht hi _ n0 xs hs hown hx ?_
    exact h a0 c0 w (by simpa using hown) (World.grownBy.refl _ _) (fun k hk => Or.inl hk)
  | some ad =>
    refine wpList_append_own_at w hgd s x t ho base e i z 1 bytes ht hi hz hsize hby hzs (by decide) _ n0 xs hs hown ad m c news hx (by rw [hsl.len]; omega) ?_ h1 h63 hbytes hbase ?_
    · intro j u hu
      have hj := (List.getElem?_eq_some_iff.1 hu).1
      obtain ⟨b, off, e1, hb, hseg⟩ := hsl.at (by have := hsl.len; omega)
      cases e1
      rw [Addr.add_lit]
      exact hseg.cell j u hu
    · intro v' w' h1 h2 _ h4
      obtain ⟨a', cap', rfl, h3⟩ := Own.form h1
      refine h a' cap' w' h3 h2 ?_
      rintro k ⟨q, rfl⟩
      rcases h4 with h4 | h4
      · cases a0 with
        | none => cases h4
        | some b0 =>
          have : k = b0.block := by simpa [Value.ownBlock] using h4
          subst this
          obtain ⟨hl, ⟨h5, _⟩ | ⟨g, cap', cur, hv, r⟩⟩ := hown
          · cases h5
          · cases hv; exact Or.inl ⟨0, rfl⟩
      · have : k = w.heap.size := by simpa [Value.ownBlock] using h4
        exact Or.inr (by omega)
theorem infoI : (Try.prog.info? 3).map (fun i => (i.zero, i.size, i.bytes)) = some (some (.int .i64 0), 1, 8) := by kernel_rfl
theorem info_of {P : Program} {t : TypeId} {z : Value} {s b : Nat} (h : (P.info? t).map (fun i => (i.zero, i.size, i.bytes)) = some (some z, s, b)) : ∃ i, P.info? t = some i ∧ i.zero = some z ∧ i.size = s ∧ i.bytes = b := by
  cases hi : P.info? t with
  | none => rw [hi] at h; cases h
  | some i =>
    rw [hi] at h
    simp only [Option.map_some, Option.some.injEq, Prod.mk.injEq] at h
    exact ⟨i, rfl, h.1, h.2.1, h.2.2⟩
end Go.Proofs.Ytkmgndaholglhaa

namespace Go.Proofs.Ytkmgndaholglhaa
open Go.RowKit
set_option linter.unusedVariables false

/-- A slice of n elements of s cells each, in memory of one's own, from base on. -/
abbrev OwnS (w : World) (base : Nat) (T : TypeId) (s : Nat) (a : Option Addr) (n cap : Nat) (xs : List Value) : Prop := w.ownsRow base T s (.slice a n cap) n xs
section
variable {w w' : World} {base n cap s : Nat} {T : TypeId} {a : Option Addr} {xs : List Value}
theorem OwnS.keep {F : Nat → Prop} (h : OwnS w base T s a n cap xs) (hk : Keep F w w') (hF : ∀ k, Slot a k → ¬ F k) : OwnS w' base T s a n cap xs := by
  obtain ⟨hl, h1 | ⟨g, cap', cur, hv, hb', hg, r⟩⟩ := h
  · exact ⟨hl, Or.inl h1⟩
  · refine ⟨hl, Or.inr ⟨g, cap', cur, hv, hb', ?_, r⟩⟩
    rw [hk.block g (Array.getElem?_eq_some_iff.1 hg).1 (hF g (by cases hv; exact ⟨0, rfl⟩))]
    exact hg
theorem OwnS.below (h : OwnS w base T s a n cap xs) (hb : Below w.heap.size w w') : OwnS w' base T s a n cap xs := h.keep (Keep.of (F := fun _ => False) hb) (fun _ _ x => x)
theorem OwnS.lt (h : OwnS w base T s a n cap xs) {k : Nat} (hk : Slot a k) : k < w.heap.size ∧ base ≤ k := by
  obtain ⟨o, rfl⟩ := hk
  obtain ⟨hl, ⟨h1, _⟩ | ⟨g, cap', cur, hv, hb', hg, r⟩⟩ := h
  · cases h1
  · cases hv
    exact ⟨(Array.getElem?_eq_some_iff.1 hg).1, hb'⟩
theorem OwnS.slot (h : OwnS w base T s a n cap xs) {k : Nat} (e : (Value.slice a n cap).ownBlock = some k) : Slot a k := by
  cases a with
  | none => cases e
  | some q => obtain ⟨_, ⟨h5, _⟩ | ⟨g, _, _, hv, _⟩⟩ := h; cases h5; cases hv; cases e; exact ⟨0, rfl⟩
theorem OwnS.mono {base' : Nat} (h : OwnS w base T s a n cap xs) (hb : base' ≤ base) : OwnS w base' T s a n cap xs := by
  obtain ⟨hl, h1 | ⟨g, cap', cur, hv, hb', r⟩⟩ := h
  · exact ⟨hl, Or.inl h1⟩
  · exact ⟨hl, Or.inr ⟨g, cap', cur, hv, by omega, r⟩⟩
theorem OwnS.len (h : OwnS w base T s a n cap xs) : xs.length = n * s := h.1
theorem OwnS.room (h : OwnS w base T s a n cap xs) : n ≤ cap ∧ cap ≤ maxLen := by
  obtain ⟨hl, ⟨h1, h2⟩ | ⟨g, cap', cur, hv, hb', hg, h1, h2, _⟩⟩ := h
  · cases h1; exact ⟨Nat.le_refl _, by unfold maxLen; omega⟩
  · cases hv; exact ⟨h1, h2⟩
theorem OwnS.at (h : OwnS w base T s a n cap xs) (hn : 0 < n) : ∃ b, a = some ⟨b, 0, none⟩ ∧ b < w.heap.size ∧ base ≤ b ∧ Seg w b 0 xs := by
  obtain ⟨hl, ⟨h1, h2⟩ | ⟨g, cap', cur, hv, hb', hg, h1, h2, h3, h4⟩⟩ := h
  · omega
  · cases hv
    refine ⟨g, rfl, (Array.getElem?_eq_some_iff.1 hg).1, hb', ?_⟩
    intro j u hu
    have hj : j < n * s := by
      have := (List.getElem?_eq_some_iff.1 hu).1
      omega
    rw [← h4, List.getElem?_take, if_pos hj] at hu
    refine ⟨by simp [World.cell?, hg]; simpa using hu, by simp [World.frozen?, hg]⟩
theorem OwnS.form {v : Value} (h : w.ownsRow base T s v n xs) : ∃ a cap, v = .slice a n cap ∧ OwnS w base T s a n cap xs := by
  obtain ⟨hl, ⟨h1, h2⟩ | ⟨g, cap', cur, hv, hb, hg, h1, h2, h3, h4⟩⟩ := h
  · subst h1 h2
    exact ⟨none, 0, rfl, hl, Or.inl ⟨rfl, rfl⟩⟩
  · subst hv
    exact ⟨_, _, rfl, hl, Or.inr ⟨g, cap', cur, rfl, hb, hg, h1, h2, h3, h4⟩⟩
end
/-- What lies in new memory behind an address: elements that are appended. -/
def News (w : World) (ad : Addr) (news : List Value) : Prop := (∀ j u, news[j]? = some u → w.cell? (ad.add j) = some u)
/-- append onto what one owns, of elements of several cells. -/
theorem app_atS {P : Program} (w : World) {ops : Array Oper} {rest : List Oper} {o : Oper} {a : Act} {Q : Exit → Act → World → Prop} (hgd : o.guard = none) (s x : Operand) (t : TypeId)
    (ho : o.op = .call { callee := .builtin .append, args := #[s, x], argTypes := #[t, t] })
    (base : Nat) (e : TypeId) (i : TypeInfo) (z : Value) (size bytes : Nat) (ht : P.underlying t = some (.slice e)) (hi : P.info? e = some i) (hz : i.zero = some z)
    (hsize : i.size = size) (hby : i.bytes = bytes) (hzs : z.cells.size = size) (hsz : 0 < size)
    (a0 : Option Addr) (n0 c0 : Nat) (xs : List Value) (hs : a.eval s = .slice a0 n0 c0) (hown : OwnS w base e size a0 n0 c0 xs)
    (ad : Addr) (m c : Nat) (news : List Value) (hx : a.eval x = .slice (some ad) m c) (hl : news.length = m * size) (hnews : News w ad news) (h1 : ∀ u ∈ news, u.oneCell' = true)
    (h63 : n0 + m ≤ maxLen) (hbytes : (n0 + m) * bytes ≤ 140737488355328) (hbase : base ≤ w.heap.size)
    (h : ∀ a' cap' w', OwnS w' base e size a' (n0 + m) cap' (xs ++ news) → w.grownBy w' (Value.slice a0 n0 c0).ownBlock → (∀ k, Slot a' k → Slot a0 k ∨ w.heap.size ≤ k) → wpList P ops Q rest (a.put o.dst (.slice a' (n0 + m) cap')) w') : wpList P ops Q (o :: rest) a w := by
  refine wpList_append_own_at w hgd s x t ho base e i z size bytes ht hi hz hsize hby hzs hsz _ n0 xs hs hown ad m c news hx hl hnews h1 h63 hbytes hbase ?_
  intro v' w' h1 h2 _ h4
  obtain ⟨a', cap', rfl, h3⟩ := OwnS.form h1
  refine h a' cap' w' h3 h2 ?_
  rintro k ⟨q, rfl⟩
  rcases h4 with h4 | h4
  · cases a0 with
    | none => cases h4
    | some b0 =>
      have : k = b0.block := by simpa [Value.ownBlock] using h4
      subst this
      obtain ⟨hl, ⟨h5, _⟩ | ⟨g, cap', cur, hv, r⟩⟩ := hown
      · cases h5
      · cases hv; exact Or.inl ⟨0, rfl⟩
  · have : k = w.heap.size := by simpa [Value.ownBlock] using h4
    exact Or.inr (by omega)
/-- New memory: what was just laid there. -/
theorem news_new (w : World) (xs : List Value) (T : TypeId) : News (w.alloc (.cells xs.toArray T)) ⟨w.heap.size, 0, none⟩ xs := by
  intro j u hu
  rw [Addr.add_lit, Nat.zero_add]
  exact (Row.new w xs T).cell j u hu
/-- Elements laid side by side. -/
def flat {α : Type} (f : α → List Value) (L : List α) : List Value := L.flatMap f
section
variable {α : Type} {f : α → List Value}
theorem flat_append (L M : List α) : flat f (L ++ M) = flat f L ++ flat f M := by simp [flat]
theorem flat_at {s : Nat} (hf : ∀ x, (f x).length = s) {L : List α} {k j : Nat} {x : α} {u : Value} (hk : L[k]? = some x) (hj : (f x)[j]? = some u) : (flat f L)[k * s + j]? = some u := by
  induction L generalizing k with
  | nil => simp at hk
  | cons a L ih =>
    rw [show flat f (a :: L) = f a ++ flat f L from by simp [flat]]
    cases k with
    | zero =>
      simp only [List.getElem?_cons_zero, Option.some.injEq] at hk
      subst hk
      rw [List.getElem?_append_left (by have := (List.getElem?_eq_some_iff.1 hj).1; omega)]
      simpa using hj
    | succ k =>
      rw [List.getElem?_append_right (by rw [hf, Nat.add_mul]; omega), hf, show (k + 1) * s + j - s = k * s + j by rw [Nat.add_mul]; omega]
      exact ih (by simpa using hk)
end
end Go.Proofs.Ytkmgndaholglhaa

namespace Go.Proofs.Ytkmgndaholglhaa
set_option linter.unusedVariables false

abbrev T3 := Nat × Nat × Nat
def cutA (P : List Nat) (c : Nat) : List Nat := (P.drop 1).take c
def cutB (P : List Nat) (c : Nat) : List Nat := P.drop c ++ P.take 1
def joinF (t : T3) : Option (List T3) → Option (List T3) → Option (List T3)
  | some A, some B => some (t :: (A ++ B))
  | _, _ => none
/-- The triangles that fill what is left at these places; none: an edge has no corner to its left. -/
def fillQ (B : List Nat → Int) : Nat → List Nat → Option (List T3)
  | 0, P => if P.length < 3 then some [] else none
  | f + 1, P => if P.length < 3 then some [] else if B P < 0 then none else
    joinF (P.getD 0 0, P.getD 1 0, P.getD ((B P).toNat + 2) 0) (fillQ B f (cutA P ((B P).toNat + 2))) (fillQ B f (cutB P ((B P).toNat + 2)))
/-- What is told is the place of one of the others, or less than nought. -/
def InB (B : List Nat → Int) : Prop := ∀ P, 3 ≤ P.length → B P < 0 ∨ (B P).toNat + 2 < P.length
theorem cutA_len {P : List Nat} {c : Nat} (h : c < P.length) : (cutA P c).length = c := by unfold cutA; rw [List.length_take, List.length_drop]; omega
theorem cutB_len {P : List Nat} {c : Nat} (h : c < P.length) : (cutB P c).length = P.length - c + 1 := by unfold cutB; rw [List.length_append, List.length_drop, List.length_take]; omega
theorem fill_fuel {B : List Nat → Int} (hB : InB B) : ∀ (f g : Nat) (P : List Nat), P.length ≤ f + 2 → P.length ≤ g + 2 → fillQ B f P = fillQ B g P
  | 0, 0, P, _, _ => rfl
  | 0, g + 1, P, h, _ => by unfold fillQ; rw [if_pos (by omega), if_pos (by omega)]
  | f + 1, 0, P, _, h => by unfold fillQ; rw [if_pos (by omega), if_pos (by omega)]
  | f + 1, g + 1, P, h, k => by
    unfold fillQ
    by_cases h3 : P.length < 3
    · rw [if_pos h3, if_pos h3]
    · rw [if_neg h3, if_neg h3]
      rcases hB P (by omega) with hb | hb
      · rw [if_pos hb, if_pos hb]
      · by_cases hn : B P < 0
        · rw [if_pos hn, if_pos hn]
        · rw [if_neg hn, if_neg hn]
          have a := cutA_len hb
          have b := cutB_len hb
          rw [fill_fuel hB f g (cutA P _) (by omega) (by omega), fill_fuel hB f g (cutB P _) (by omega) (by omega)]
def fillP (B : List Nat → Int) (P : List Nat) : Option (List T3) := fillQ B P.length P
theorem fill_few {B : List Nat → Int} {P : List Nat} (h : P.length < 3) : fillP B P = some [] := by
  unfold fillP
  cases e : P.length with
  | zero => unfold fillQ; rw [if_pos (by omega)]
  | succ n => unfold fillQ; rw [if_pos (by omega)]
theorem fill_no {B : List Nat → Int} {P : List Nat} (h : 3 ≤ P.length) (hb : B P < 0) : fillP B P = none := by
  unfold fillP
  cases e : P.length with
  | zero => omega
  | succ n => unfold fillQ; rw [if_neg (by omega), if_pos hb]
theorem fill_step {B : List Nat → Int} (hB : InB B) {P : List Nat} {c : Nat} (h : 3 ≤ P.length) (hb : B P = (c : Int)) : fillP B P = joinF (P.getD 0 0, P.getD 1 0, P.getD (c + 2) 0) (fillP B (cutA P (c + 2))) (fillP B (cutB P (c + 2))) := by
  have hc : c + 2 < P.length := by rcases hB P h with k | k <;> omega
  have a := cutA_len hc
  have b := cutB_len hc
  show fillQ B P.length P = joinF _ (fillQ B (cutA P (c + 2)).length _) (fillQ B (cutB P (c + 2)).length _)
  cases e : P.length with
  | zero => omega
  | succ n =>
    rw [fill_fuel hB (cutA P (c + 2)).length n (cutA P (c + 2)) (by omega) (by omega), fill_fuel hB (cutB P (c + 2)).length n (cutB P (c + 2)) (by omega) (by omega)]
    conv => lhs; unfold fillQ
    rw [if_neg (by omega), if_neg (by omega), hb, Int.toNat_natCast]
theorem fill_len {B : List Nat → Int} (hB : InB B) : ∀ (n : Nat) (P : List Nat) (T : List T3), P.length ≤ n → 2 ≤ P.length → fillP B P = some T → T.length = P.length - 2
  | 0, P, T, h, h2, _ => by omega
  | n + 1, P, T, h, h2, e => by
    by_cases h3 : P.length < 3
    · rw [fill_few h3] at e; cases e; show 0 = _; omega
    · by_cases hn : B P < 0
      · rw [fill_no (by omega) hn] at e; cases e
      · obtain ⟨c, hc⟩ : ∃ c : Nat, B P = (c : Int) := ⟨(B P).toNat, by omega⟩
        have hcl : c + 2 < P.length := by rcases hB P (by omega) with k | k <;> omega
        have a := cutA_len hcl
        have b := cutB_len hcl
        rw [fill_step hB (by omega) hc] at e
        cases eA : fillP B (cutA P (c + 2)) with
        | none => rw [eA] at e; cases e
        | some A =>
          cases eB : fillP B (cutB P (c + 2)) with
          | none => rw [eA, eB] at e; cases e
          | some A' =>
            rw [eA, eB] at e
            cases e
            have r1 := fill_len hB n _ _ (by omega) (by omega) eA
            have r2 := fill_len hB n _ _ (by omega) (by omega) eB
            rw [List.length_cons, List.length_append, r1, r2]
            omega
end Go.Proofs.Ytkmgndaholglhaa

namespace Go.Proofs.Ytkmgndaholglhaa
open Go.RowKit
set_option linter.unusedVariables false

theorem infoPtH : (Try.prog.info? 31).map (fun i => (i.zero, i.size, i.bytes)) = some (some (.agg #[.int .i64 0, .int .i64 0]), 2, 16) := by kernel_rfl

/-- The cells of a list of places; a point at a place. -/
def natC (P : List Nat) : List Value := P.map fun n : Nat => .int .i64 (n : Int)
def ptAt (L : List Pt) (n : Nat) : Pt := L.getD n (0, 0)
theorem natC_len (P : List Nat) : (natC P).length = P.length := by unfold natC; simp
theorem natC_at {P : List Nat} {k x : Nat} (h : P[k]? = some x) : (natC P)[k]? = some (.int .i64 (x : Int)) := by unfold natC; simp [h]
theorem natC_app (P Q : List Nat) : natC (P ++ Q) = natC P ++ natC Q := by unfold natC; simp
theorem natC_one (P : List Nat) : ∀ u ∈ natC P, u.oneCell' = true := by
  intro v hv
  simp only [natC, List.mem_map] at hv
  obtain ⟨x, _, rfl⟩ := hv
  rfl
theorem natC_take (P : List Nat) (k : Nat) : natC (P.take k) = (natC P).take k := by unfold natC; simp
theorem natC_drop (P : List Nat) (k : Nat) : natC (P.drop k) = (natC P).drop k := by unfold natC; simp
theorem pcells_app : ∀ L M : List Pt, pcells (L ++ M) = pcells L ++ pcells M
  | [], M => rfl
  | p :: L, M => by show _ :: _ :: pcells (L ++ M) = _ :: _ :: (pcells L ++ pcells M); rw [pcells_app L M]
theorem take_set2 {xs : List Value} {k n : Nat} {a b : Value} (hl : xs.length = n * 2) (hk : k < n) : ((xs.set (k * 2) a).set (k * 2 + 1) b).take ((k + 1) * 2) = xs.take (k * 2) ++ [a, b] := by
  apply List.ext_getElem?
  intro j
  rw [List.getElem?_take]
  by_cases h1 : j < k * 2
  · rw [if_pos (by omega), List.getElem?_append_left (by rw [List.length_take]; omega), List.getElem?_take, if_pos h1, List.getElem?_set_ne (by omega), List.getElem?_set_ne (by omega)]
  · rw [List.getElem?_append_right (by rw [List.length_take]; omega), List.length_take, Nat.min_eq_left (by omega)]
    by_cases h2 : j = k * 2
    · rw [if_pos (by omega), h2, List.getElem?_set_ne (by omega), List.getElem?_set_self (by omega)]; simp
    · by_cases h3 : j = k * 2 + 1
      · rw [if_pos (by omega), h3, List.getElem?_set_self (by rw [List.length_set]; omega), show k * 2 + 1 - k * 2 = 1 by omega]; rfl
      · rw [if_neg (by omega)]
        symm
        rw [List.getElem?_eq_none]
        simp
        omega
theorem grown_low {B : Nat} {w1 X w3 : World} {T : TypeId} {s n c : Nat} {a : Option Addr} {xs : List Value} (bel : Below B w1 X) (hB : B ≤ X.heap.size) (hown : OwnS X B T s a n c xs) (g : X.grownBy w3 (Value.slice a n c).ownBlock) : Below B w1 w3 :=
  bel.trans ((Keep.grown (F := fun k => Slot a k) (Keep.refl _ _) g (fun k e => Or.inl (hown.slot e))).below hB (fun k s => (hown.lt s).2))
theorem OwnS.set {w : World} {base g n cap s j : Nat} {T : TypeId} {xs : List Value} (h : OwnS w base T s (some ⟨g, 0, none⟩) n cap xs) (u : Value) : OwnS (w.setCell ⟨g, j, none⟩ u) base T s (some ⟨g, 0, none⟩) n cap (xs.set j u) := (World.ownsRow.stored h j u).1
theorem OwnS.cell {w : World} {base g n cap s : Nat} {T : TypeId} {xs : List Value} (h : OwnS w base T s (some ⟨g, 0, none⟩) n cap xs) (hn : 0 < n) {j : Nat} {v : Value} (hj : xs[j]? = some v) : w.cell? ⟨g, j, none⟩ = some v ∧ w.frozen? ⟨g, j, none⟩ = false := by
  obtain ⟨b, e, _, _, sg⟩ := h.at hn
  cases e
  have := sg j v hj
  rwa [Nat.zero_add] at this
theorem ptAt_of {L : List Pt} {n : Nat} {x y : Int} (h : L[n]? = some (x, y)) : ptAt L n = (x, y) := by unfold ptAt; rw [List.getD, h]; rfl
set_option maxRecDepth 100000 in
set_option maxHeartbeats 4000000 in
theorem hPointsAt (la : Option Addr) (nl lc : Nat) (L : List Pt) (pa : Option Addr) (n pc : Nat) (P : List Nat) (w : World) (hL : PSl w la nl lc L) (hP : Sl w pa n pc (natC P)) (hn : n ≤ 1000) (hb : ∀ j ∈ P, j < nl) (hnl : nl ≤ 1000) :
    Calls Try.prog 12 #[.slice la nl lc, .slice pa n pc] w fun e w' => ∃ a, e = .returned (.slice a n n) ∧ PSl w' a n n (P.map (ptAt L)) ∧ Below w.heap.size w w' := by
  obtain ⟨i0, hi0, hz0, hz1, hz2⟩ := info_of infoPtH
  have HL : Hid _ := hL
  have HP : Hid _ := hP
  have HB : Hid _ := hb
  have hlen : P.length = n := by rw [← natC_len]; exact hP.len
  clear hL hP hb
  go_enter Try.func12, Try.ntmps12
  go_wp2_with (at_make; go_loud (refine wpList_make_full _ rfl _ _ 22 rfl w.heap.size 31 i0 _ 2 Try.underlying22 hi0 hz0 hz1 _ _ _ _ n rfl rfl rfl rfl (by rw [hz2]; omega) (by unfold maxLen; omega) (Nat.le_refl _) ?_; intro w1 ow1 gr1))
  have b1 : Below w.heap.size w w1 := Below.to gr1
  clear gr1
  go_wp2
  go_loopw [13] (fun i wr => ∃ (k : Nat) (xs : List Value), k ≤ n ∧ i = .int .i64 (k : Int) ∧ OwnS wr w.heap.size 31 2 (some ⟨w.heap.size, 0, none⟩) n n xs ∧ Hid (xs.take (k * 2) = pcells ((P.take k).map (ptAt L))) ∧ Below w.heap.size w wr) (fun i _ => n - (Go.RowKit.intOf i).toNat)
  case atStart => exact ⟨0, _, by omega, rfl, ow1, rfl, b1⟩
  case round =>
    clear ow1 b1
    obtain ⟨k, xs, hk, rfl, ow, HX, be⟩ := hrel
    by_cases hlt : k < n
    · have hlt' : (k : Int) < (n : Int) := by omega
      obtain ⟨x, hx⟩ : ∃ x, P[k]? = some x := ⟨P[k]'(by omega), List.getElem?_eq_getElem _⟩
      obtain ⟨pb, po, rfl, hpb, sg⟩ := (HP.out.below be).at (by omega)
      have cx := sg.cell k _ (natC_at hx)
      have hxl := HB.out x (List.mem_of_getElem? hx)
      obtain ⟨lb, lo, u, v, rfl, hlb, hxy, hpc⟩ := (HL.out.below be).at hxl
      have pcx := hpc x u v hxy
      have q0 := pcx.c0
      have q1 := pcx.c1
      have hroom := HP.out.room
      have hroom2 := HL.out.room
      have hlx := ow.len
      have hxl' : (x : Int) < (nl : Int) := by omega
      have g0 := ow.cell (by omega) (List.getElem?_eq_getElem (show k * 2 < xs.length by omega))
      have g1 := ow.cell (by omega) (List.getElem?_eq_getElem (show k * 2 + 1 < xs.length by omega))
      have g00 := g0.1
      have g01 := g0.2
      have g10 := g1.1
      have g11 := g1.2
      have ow2 := (OwnS.set (j := k * 2) ow (.int .i64 u)).set (j := k * 2 + 1) (.int .i64 v)
      have be2 : Below w.heap.size w ((wr.setCell ⟨w.heap.size, k * 2, none⟩ (.int .i64 u)).setCell ⟨w.heap.size, k * 2 + 1, none⟩ (.int .i64 v)) := (be.setCell (by simp) _).setCell (by simp) _
      have HX2 : Hid ((((xs.set (k * 2) (.int .i64 u)).set (k * 2 + 1) (.int .i64 v)).take ((k + 1) * 2)) = pcells ((P.take (k + 1)).map (ptAt L))) := by
        unfold Hid
        rw [take_set2 hlx hlt, HX.out, List.take_add_one, hx, List.map_append, pcells_app]
        show _ = _ ++ pcells [ptAt L x]
        rw [ptAt_of hxy]
        rfl
      clear ow be sg hpc pcx g0 g1 HX hx hxy
      go_wp2
      go_roundw
      case rel => exact ⟨k + 1, _, by omega, by simp, ow2, HX2.out, be2⟩
      case measure => simp [Go.RowKit.intOf]; omega
    · obtain rfl : n = k := by omega
      go_wp2
      go_ret
      refine ⟨_, rfl, ?_, be⟩
      have hx := HX.out
      rw [List.take_of_length_le (by rw [ow.len]; omega), List.take_of_length_le (by omega)] at hx
      refine ⟨by rw [List.length_map]; exact hlen, Nat.le_refl _, (by intro e; cases e), ?_⟩
      rcases Nat.eq_zero_or_pos n with e | e
      · exact Or.inl e
      · obtain ⟨b, eb, h1, _, h2⟩ := ow.at e
        cases eb
        exact Or.inr ⟨_, 0, rfl, h1, by rw [← hx]; exact h2⟩
set_option maxRecDepth 100000 in
set_option maxHeartbeats 4000000 in
theorem hGrow (n : Nat) (w : World) (h0 : 0 < n) (hn : n ≤ 100000) :
    Calls Try.prog 18 #[.slice none 0 0, .int .i64 (n : Int)] w fun e w' => ∃ c : Nat, e = .returned (.slice (some ⟨w.heap.size, 0, none⟩) 0 c) ∧ Own w' w.heap.size 3 (some ⟨w.heap.size, 0, none⟩) 0 c [] ∧ Below w.heap.size w w' := by
  obtain ⟨i0, hi0, hz0, hz1, hz2⟩ := info_of infoI
  have hr := fun ty => Go.Lib.run_append_nil_zeros (P := Try.prog) w 33 3 ty 3 i0 (.int .i64 0) .i64 .i64 Try.underlying33 Try.underlying3 hi0 hz0 n h0 (by omega) (by omega) (by rw [hz2]; omega)
  have hg : n ≤ grownCap w n 0 3 := grownCap_ge w n 0 3
  have hg2 : grownCap w n 0 3 ≤ maxLen := grownCap_le_maxLen w n 0 3 (by unfold maxLen; omega)
  obtain ⟨G, hG⟩ : ∃ G, G = grownCap w n 0 3 := ⟨_, rfl⟩
  rw [← hG] at hr hg hg2
  have h1 : ¬ ((n : Int) < 0) := by omega
  have h4 : (n : Int) > 0 := by omega
  obtain ⟨V, hV⟩ : ∃ V, V = w.drew.alloc (.cells (Builtin.zeroCells (Value.int .i64 0).cells n ++ Builtin.zeroCells (Value.int .i64 0).cells (G - n)) 3) := ⟨_, rfl⟩
  have ow : Own V w.heap.size 3 (some ⟨w.heap.size, 0, none⟩) 0 G [] := by
    rw [hV]
    refine ⟨by simp, Or.inr ⟨w.heap.size, G, Builtin.zeroCells (Value.int .i64 0).cells n ++ Builtin.zeroCells (Value.int .i64 0).cells (G - n), rfl, Nat.le_refl _, ?_, by omega, hg2, ?_, by simp⟩⟩
    · show (w.drew.heap.push _)[w.drew.heap.size]? = _
      exact Array.getElem?_push_size
    rw [Array.size_append, size_zeroCells, size_zeroCells]
    show n * 1 + (G - n) * 1 = G * 1
    omega
  have be : Below w.heap.size w V := by rw [hV]; exact ((Below.refl _ _).drew).alloc (by simp) _
  simp only [← hV] at hr
  clear hV hG
  go_enter Try.func18, Try.ntmps18
  go_wp2_with (at_builtin; go_loud (refine Go.Lib.wpList_append_run _ rfl _ _ 33 3 rfl _ _ rfl rfl _ _ (hr _) ?_))
  go_wp2
  go_ret
  exact ⟨G, rfl, ow, be⟩
theorem Sl.keep {F : Nat → Prop} {w w' : World} {a : Option Addr} {n cap : Nat} {xs : List Value} (h : Sl w a n cap xs) (hk : Keep F w w') (hF : ∀ k, Slot a k → ¬ F k) : Sl w' a n cap xs := by
  refine ⟨h.len, h.room, h.big, h.nil, h.seg.imp id ?_⟩
  rintro ⟨b, o, e, hlt, hs⟩
  exact ⟨b, o, e, Nat.lt_of_lt_of_le hlt hk.size, hs.block (hk.block b hlt (hF b ⟨o, e⟩))⟩
theorem PSl.keep {F : Nat → Prop} {w w' : World} {a : Option Addr} {n cap : Nat} {L : List Pt} (h : PSl w a n cap L) (hk : Keep F w w') (hF : ∀ k, Slot a k → ¬ F k) : PSl w' a n cap L := by
  refine ⟨h.len, h.room, h.nil, h.seg.imp id ?_⟩
  rintro ⟨b, o, e, hlt, hs⟩
  exact ⟨b, o, e, Nat.lt_of_lt_of_le hlt hk.size, hs.block (hk.block b hlt (hF b ⟨o, e⟩))⟩
set_option maxRecDepth 100000 in
set_option maxHeartbeats 4000000 in
theorem hConcat (b : Nat) (a1 a2 : Option Addr) (n1 c1 n2 c2 : Nat) (P Q : List Nat) (w : World) (hr : Row w b [.slice a1 n1 c1, .slice a2 n2 c2]) (hb : b < w.heap.size) (h1 : Sl w a1 n1 c1 (natC P)) (h2 : Sl w a2 n2 c2 (natC Q)) (hn : n1 + n2 ≤ 10000) (h0 : 0 < n1 + n2) :
    Calls Try.prog 13 #[.slice (some ⟨b, 0, none⟩) 2 2] w fun e w' => ∃ (a : Option Addr) (c : Nat), e = .returned (.slice a (n1 + n2) c) ∧ Own w' w.heap.size 3 a (n1 + n2) c (natC (P ++ Q)) ∧ Below w.heap.size w w' := by
  obtain ⟨i0, hi0, hz0, hz1, hz2⟩ := info_of infoI
  have H1 : Hid _ := h1
  have H2 : Hid _ := h2
  have HR : Hid (Row w b [.slice a1 n1 c1, .slice a2 n2 c2]) := hr
  have q1 : wrap64 ((n1 : Int) + (n2 : Int)) = (n1 : Int) + (n2 : Int) := wrap_in (by omega) (by omega)
  have q2 : ¬ ((n1 : Int) + (n2 : Int) < 0) := by omega
  have q3 : ¬ ((n1 : Int) < 0) := by omega
  have q4 : wrap64 ((n1 : Int)) = (n1 : Int) := wrap_in (by omega) (by omega)
  clear h1 h2 hr
  go_enter Try.func13, Try.ntmps13
  go_wp2
  go_loopw [3, 11] (fun s i wr => ((i = .int .i64 0 ∧ s = .int .i64 0) ∨ (i = .int .i64 1 ∧ s = .int .i64 (n1 : Int)) ∨ (i = .int .i64 2 ∧ s = .int .i64 ((n1 : Int) + (n2 : Int)))) ∧ Below w.heap.size w wr) (fun _ i _ => 2 - (Go.RowKit.intOf i).toNat)
  case atStart => exact ⟨Or.inl ⟨rfl, rfl⟩, Below.refl _ _⟩
  case round =>
    obtain ⟨hk, be⟩ := hrel
    have RR := HR.out.below be hb
    have r0 := RR.cell 0 _ rfl
    have r1 := RR.cell 1 _ rfl
    clear RR
    rcases hk with ⟨rfl, rfl⟩ | ⟨rfl, rfl⟩ | ⟨rfl, rfl⟩
    · go_wp2
      go_roundw
      case rel => exact ⟨Or.inr (Or.inl ⟨rfl, rfl⟩), be⟩
      case measure => simp [Go.RowKit.intOf]
    · go_wp2
      go_roundw
      case rel => exact ⟨Or.inr (Or.inr ⟨rfl, rfl⟩), be⟩
      case measure => simp [Go.RowKit.intOf]
    · have CG : Hid (∀ m : Int, m = (n1 : Int) + (n2 : Int) → Calls Try.prog 18 #[.slice none 0 0, .int .i64 m] wr fun e w' => ∃ c : Nat, e = .returned (.slice (some ⟨wr.heap.size, 0, none⟩) 0 c) ∧ Own w' wr.heap.size 3 (some ⟨wr.heap.size, 0, none⟩) 0 c [] ∧ Below wr.heap.size wr w') := by
        rintro m rfl
        have := hGrow (n1 + n2) wr h0 (by omega)
        rwa [Int.natCast_add] at this
      clear r0 r1
      go_wp2_with (go_at_call 18; fail)
      refine Calls.mono (CG.out _ rfl) ?_
      rintro e w2 ⟨c, rfl, ow2, b2⟩
      have be2 : Below w.heap.size w w2 := also be b2
      have z2 := be.size
      have ow3 := OwnS.mono ow2 z2
      clear CG ow2 b2
      go_wp2
      go_loopw [6, 27] (fun s i wr => ∃ (a : Option Addr) (m c : Nat) (X : List Nat), s = .slice a m c ∧ Own wr w.heap.size 3 a m c (natC X) ∧ ((i = .int .i64 0 ∧ m = 0 ∧ X = []) ∨ (i = .int .i64 1 ∧ m = n1 ∧ X = P) ∨ (i = .int .i64 2 ∧ m = n1 + n2 ∧ X = P ++ Q)) ∧ Below w.heap.size w wr) (fun _ i _ => 2 - (Go.RowKit.intOf i).toNat)
      case atStart => exact ⟨_, 0, c, [], rfl, ow3, Or.inl ⟨rfl, rfl, rfl⟩, be2⟩
      case round =>
        clear ow3 be2 be z2
        obtain ⟨a, m, c, X, rfl, ow, hk, be⟩ := hrel
        have RR := HR.out.below be hb
        have r0 := RR.cell 0 _ rfl
        have r1 := RR.cell 1 _ rfl
        have S1 := H1.out.below be
        have S2 := H2.out.below be
        have z := be.size
        clear RR
        rcases hk with ⟨rfl, rfl, rfl⟩ | ⟨rfl, rfl, rfl⟩ | ⟨rfl, rfl, rfl⟩
        · go_wp2_with (at_builtin; go_loud (refine app_at _ rfl _ _ 33 rfl w.heap.size 3 i0 _ 8 Try.underlying33 hi0 hz0 hz1 hz2 rfl a 0 c _ rfl ow a1 n1 c1 (natC P) rfl S1 (natC_one _) (by unfold maxLen; omega) (by omega) z ?_; intro a6 c6 w6 h6 g6 s6))
          have be6 : Below w.heap.size w w6 := grown_low be (by omega) ow g6
          clear g6 s6
          go_wp2
          go_roundw
          case rel => exact ⟨a6, n1, c6, P, by first | rfl | simp, by simpa [natC] using h6, Or.inr (Or.inl ⟨rfl, rfl, rfl⟩), be6⟩
          case measure => simp [Go.RowKit.intOf]
        · go_wp2_with (at_builtin; go_loud (refine app_at _ rfl _ _ 33 rfl w.heap.size 3 i0 _ 8 Try.underlying33 hi0 hz0 hz1 hz2 rfl a m c _ rfl ow a2 n2 c2 (natC Q) rfl S2 (natC_one _) (by unfold maxLen; omega) (by omega) z ?_; intro a6 c6 w6 h6 g6 s6))
          have be6 : Below w.heap.size w w6 := grown_low be (by omega) ow g6
          rw [← natC_app] at h6
          clear g6 s6
          go_wp2
          go_roundw
          case rel => exact ⟨a6, _, c6, _, rfl, h6, Or.inr (Or.inr ⟨rfl, rfl, rfl⟩), be6⟩
          case measure => simp [Go.RowKit.intOf]
        · go_wp2
          go_ret
          exact ⟨a, c, rfl, ow, be⟩
end Go.Proofs.Ytkmgndaholglhaa
