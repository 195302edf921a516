/-
  Joined texts, part 9:
  What package tie's Conflict answers.
  Slices of points, and what package tie's Best answers.
  What zelligeref03's DivMod answers: bit by bit.
  What zelligeref04's Long and Floor answer.
  What zelligeref04's Small answers.
  What zelligeref06's Torus, In, Can and Cmp answer.
-/
import Derived.Test.YtnemailhijkemaaP8
import Derived.Test.YtnemailhijkemaaP4
import Derived.Test.YtnemailhijkemaaP2
import Derived.Test.YtnemailhijkemaaP3
namespace Go.Proofs.Ytnemailhijkemaa
open Go.RowKit
set_option linter.unusedVariables false

theorem eqP_no {x y z t : Int} (h : (x, y) ≠ (z, t)) (w : World) : (Op.equalIn 10000 23 (.agg #[.int .i64 x, .int .i64 y]) (.agg #[.int .i64 z, .int .i64 t])).run Try.prog w = .ok false w := by
  have k : ¬(x = z ∧ y = t) := fun k => h (by rw [k.1, k.2])
  by_cases e0 : x = z <;> by_cases e1 : y = t <;> simp [go_sem, Try.underlying23, Try.underlying2, e0, e1] <;> exact k ⟨e0, e1⟩
theorem ci_can {a b c d : Pt} (hl : leftQ a b c = true) (hd : canC d.1 d.2 = true) : ciP a.1 a.2 b.1 b.2 c.1 c.2 d.1 d.2 = (deQ a b c d).sign := by
  obtain ⟨qa, qb, qc, _⟩ := left_iff.1 hl
  unfold ciP
  rw [can4.2 ⟨qa, qb, qc, hd⟩]
  rfl
set_option maxRecDepth 100000 in
set_option maxHeartbeats 8000000 in
theorem tConflict (a1 a2 b1 b2 c1 c2 d1 d2 : Int) (w : World) {r : Bool} (hr : r = cfQ (a1, a2) (b1, b2) (c1, c2) (d1, d2)) :
    Calls Try.prog 8 #[.agg #[.int .i64 a1, .int .i64 a2], .agg #[.int .i64 b1, .int .i64 b2], .agg #[.int .i64 c1, .int .i64 c2], .agg #[.int .i64 d1, .int .i64 d2]] w fun e w' => e = .returned (.bool r) ∧ Below w.heap.size w w' := by
  cases hd : canC d1 d2
  · skip
    obtain rfl : r = false := by rw [hr, cf_no]; rintro ⟨h1, _⟩; rw [hd] at h1; cases h1
    try clear hr
    try clear hl
    obtain ⟨W, hW, bW, x_a, x_b, x_c, x_d, sW⟩ := bs_2222 w (.int .i64 a1) (.int .i64 a2) (.int .i64 b1) (.int .i64 b2) (.int .i64 c1) (.int .i64 c2) (.int .i64 d1) (.int .i64 d2) 23 23 23 23
    have zbW := bW.size
    have BB := bW
    go_enter Try.func8, Try.ntmps8
    go_wp2_with (go_at_call 17; fail)
    rw [← hW]
    clear hW
    refine (lCan d1 d2 W hd.symm).mono ?_
    rintro e w1 ⟨rfl, bw1⟩
    have zbw1 := bw1.size
    replace BB := also BB bw1
    replace x_a := x_a.on bw1
    replace x_b := x_b.on bw1
    replace x_c := x_c.on bw1
    replace x_d := x_d.on bw1
    have ⟨x_a_0, x_a_1, x_a_2, x_a_3⟩ := x_a
    have ⟨x_b_0, x_b_1, x_b_2, x_b_3⟩ := x_b
    have ⟨x_c_0, x_c_1, x_c_2, x_c_3⟩ := x_c
    have ⟨x_d_0, x_d_1, x_d_2, x_d_3⟩ := x_d
    go_wp2
    go_ret
    exact ⟨rfl, BB⟩
  · skip
    cases hl : leftQ (a1, a2) (b1, b2) (c1, c2)
    · skip
      obtain rfl : r = false := by rw [hr, cf_no]; rintro ⟨_, h1, _⟩; rw [hl] at h1; cases h1
      obtain ⟨g, hg⟩ : ∃ g, g = (arP a1 a2 b1 b2 c1 c2).sign := ⟨_, rfl⟩
      have hg1 : ¬ g = 1 := by rw [hg]; exact of_decide_eq_false hl
      have G : Hid _ := hg
      clear hg
      try clear hr
      try clear hl
      obtain ⟨W, hW, bW, x_a, x_b, x_c, x_d, sW⟩ := bs_2222 w (.int .i64 a1) (.int .i64 a2) (.int .i64 b1) (.int .i64 b2) (.int .i64 c1) (.int .i64 c2) (.int .i64 d1) (.int .i64 d2) 23 23 23 23
      have zbW := bW.size
      have BB := bW
      go_enter Try.func8, Try.ntmps8
      go_wp2_with (go_at_call 17; fail)
      rw [← hW]
      clear hW
      refine (lCan d1 d2 W hd.symm).mono ?_
      rintro e w1 ⟨rfl, bw1⟩
      have zbw1 := bw1.size
      replace BB := also BB bw1
      replace x_a := x_a.on bw1
      replace x_b := x_b.on bw1
      replace x_c := x_c.on bw1
      replace x_d := x_d.on bw1
      have ⟨x_a_0, x_a_1, x_a_2, x_a_3⟩ := x_a
      have ⟨x_b_0, x_b_1, x_b_2, x_b_3⟩ := x_b
      have ⟨x_c_0, x_c_1, x_c_2, x_c_3⟩ := x_c
      have ⟨x_d_0, x_d_1, x_d_2, x_d_3⟩ := x_d
      go_wp2_with (go_at_call 18; fail)
      refine (pOrient a1 a2 b1 b2 c1 c2 w1 G.out).mono ?_
      rintro e w2 ⟨rfl, bw2⟩
      clear x_a_0 x_a_1 x_a_2 x_a_3 x_b_0 x_b_1 x_b_2 x_b_3 x_c_0 x_c_1 x_c_2 x_c_3 x_d_0 x_d_1 x_d_2 x_d_3
      have zbw2 := bw2.size
      replace BB := also BB bw2
      replace x_a := x_a.on bw2
      replace x_b := x_b.on bw2
      replace x_c := x_c.on bw2
      replace x_d := x_d.on bw2
      have ⟨x_a_0, x_a_1, x_a_2, x_a_3⟩ := x_a
      have ⟨x_b_0, x_b_1, x_b_2, x_b_3⟩ := x_b
      have ⟨x_c_0, x_c_1, x_c_2, x_c_3⟩ := x_c
      have ⟨x_d_0, x_d_1, x_d_2, x_d_3⟩ := x_d
      go_wp2
      go_ret
      exact ⟨rfl, BB⟩
    · skip
      by_cases na : (d1, d2) = (a1, a2)
      · obtain ⟨rfl, rfl⟩ := Prod.mk.inj na
        obtain rfl : r = false := by rw [hr, cf_no]; rintro ⟨_, _, h3, h4, h5⟩; exact h3 rfl
        obtain ⟨g, hg⟩ : ∃ g, g = (arP d1 d2 b1 b2 c1 c2).sign := ⟨_, rfl⟩
        obtain rfl : g = 1 := by rw [hg]; exact of_decide_eq_true hl
        have G : Hid _ := hg
        clear hg
        try clear hr
        try clear hl
        obtain ⟨W, hW, bW, x_a, x_b, x_c, x_d, sW⟩ := bs_2222 w (.int .i64 d1) (.int .i64 d2) (.int .i64 b1) (.int .i64 b2) (.int .i64 c1) (.int .i64 c2) (.int .i64 d1) (.int .i64 d2) 23 23 23 23
        have zbW := bW.size
        have BB := bW
        go_enter Try.func8, Try.ntmps8
        go_wp2_with (go_at_call 17; fail)
        rw [← hW]
        clear hW
        refine (lCan d1 d2 W hd.symm).mono ?_
        rintro e w1 ⟨rfl, bw1⟩
        have zbw1 := bw1.size
        replace BB := also BB bw1
        replace x_a := x_a.on bw1
        replace x_b := x_b.on bw1
        replace x_c := x_c.on bw1
        replace x_d := x_d.on bw1
        have ⟨x_a_0, x_a_1, x_a_2, x_a_3⟩ := x_a
        have ⟨x_b_0, x_b_1, x_b_2, x_b_3⟩ := x_b
        have ⟨x_c_0, x_c_1, x_c_2, x_c_3⟩ := x_c
        have ⟨x_d_0, x_d_1, x_d_2, x_d_3⟩ := x_d
        go_wp2_with (go_at_call 18; fail)
        refine (pOrient d1 d2 b1 b2 c1 c2 w1 G.out).mono ?_
        rintro e w2 ⟨rfl, bw2⟩
        clear x_a_0 x_a_1 x_a_2 x_a_3 x_b_0 x_b_1 x_b_2 x_b_3 x_c_0 x_c_1 x_c_2 x_c_3 x_d_0 x_d_1 x_d_2 x_d_3
        have zbw2 := bw2.size
        replace BB := also BB bw2
        replace x_a := x_a.on bw2
        replace x_b := x_b.on bw2
        replace x_c := x_c.on bw2
        replace x_d := x_d.on bw2
        have ⟨x_a_0, x_a_1, x_a_2, x_a_3⟩ := x_a
        have ⟨x_b_0, x_b_1, x_b_2, x_b_3⟩ := x_b
        have ⟨x_c_0, x_c_1, x_c_2, x_c_3⟩ := x_c
        have ⟨x_d_0, x_d_1, x_d_2, x_d_3⟩ := x_d
        go_wp2
        go_ret
        exact ⟨rfl, BB⟩
      · skip
        by_cases nb : (d1, d2) = (b1, b2)
        · obtain ⟨rfl, rfl⟩ := Prod.mk.inj nb
          obtain rfl : r = false := by rw [hr, cf_no]; rintro ⟨_, _, h3, h4, h5⟩; exact h4 rfl
          obtain ⟨g, hg⟩ : ∃ g, g = (arP a1 a2 d1 d2 c1 c2).sign := ⟨_, rfl⟩
          obtain rfl : g = 1 := by rw [hg]; exact of_decide_eq_true hl
          have G : Hid _ := hg
          clear hg
          have ka := eqP_no na
          clear na
          try clear hr
          try clear hl
          obtain ⟨W, hW, bW, x_a, x_b, x_c, x_d, sW⟩ := bs_2222 w (.int .i64 a1) (.int .i64 a2) (.int .i64 d1) (.int .i64 d2) (.int .i64 c1) (.int .i64 c2) (.int .i64 d1) (.int .i64 d2) 23 23 23 23
          have zbW := bW.size
          have BB := bW
          go_enter Try.func8, Try.ntmps8
          go_wp2_with (go_at_call 17; fail)
          rw [← hW]
          clear hW
          refine (lCan d1 d2 W hd.symm).mono ?_
          rintro e w1 ⟨rfl, bw1⟩
          have zbw1 := bw1.size
          replace BB := also BB bw1
          replace x_a := x_a.on bw1
          replace x_b := x_b.on bw1
          replace x_c := x_c.on bw1
          replace x_d := x_d.on bw1
          have ⟨x_a_0, x_a_1, x_a_2, x_a_3⟩ := x_a
          have ⟨x_b_0, x_b_1, x_b_2, x_b_3⟩ := x_b
          have ⟨x_c_0, x_c_1, x_c_2, x_c_3⟩ := x_c
          have ⟨x_d_0, x_d_1, x_d_2, x_d_3⟩ := x_d
          go_wp2_with (go_at_call 18; fail)
          refine (pOrient a1 a2 d1 d2 c1 c2 w1 G.out).mono ?_
          rintro e w2 ⟨rfl, bw2⟩
          clear x_a_0 x_a_1 x_a_2 x_a_3 x_b_0 x_b_1 x_b_2 x_b_3 x_c_0 x_c_1 x_c_2 x_c_3 x_d_0 x_d_1 x_d_2 x_d_3
          have zbw2 := bw2.size
          replace BB := also BB bw2
          replace x_a := x_a.on bw2
          replace x_b := x_b.on bw2
          replace x_c := x_c.on bw2
          replace x_d := x_d.on bw2
          have ⟨x_a_0, x_a_1, x_a_2, x_a_3⟩ := x_a
          have ⟨x_b_0, x_b_1, x_b_2, x_b_3⟩ := x_b
          have ⟨x_c_0, x_c_1, x_c_2, x_c_3⟩ := x_c
          have ⟨x_d_0, x_d_1, x_d_2, x_d_3⟩ := x_d
          go_wp2
          go_ret
          exact ⟨rfl, BB⟩
        · skip
          by_cases nc : (d1, d2) = (c1, c2)
          · obtain ⟨rfl, rfl⟩ := Prod.mk.inj nc
            obtain rfl : r = false := by rw [hr, cf_no]; rintro ⟨_, _, h3, h4, h5⟩; exact h5 rfl
            obtain ⟨g, hg⟩ : ∃ g, g = (arP a1 a2 b1 b2 d1 d2).sign := ⟨_, rfl⟩
            obtain rfl : g = 1 := by rw [hg]; exact of_decide_eq_true hl
            have G : Hid _ := hg
            clear hg
            have ka := eqP_no na
            clear na
            have kb := eqP_no nb
            clear nb
            try clear hr
            try clear hl
            obtain ⟨W, hW, bW, x_a, x_b, x_c, x_d, sW⟩ := bs_2222 w (.int .i64 a1) (.int .i64 a2) (.int .i64 b1) (.int .i64 b2) (.int .i64 d1) (.int .i64 d2) (.int .i64 d1) (.int .i64 d2) 23 23 23 23
            have zbW := bW.size
            have BB := bW
            go_enter Try.func8, Try.ntmps8
            go_wp2_with (go_at_call 17; fail)
            rw [← hW]
            clear hW
            refine (lCan d1 d2 W hd.symm).mono ?_
            rintro e w1 ⟨rfl, bw1⟩
            have zbw1 := bw1.size
            replace BB := also BB bw1
            replace x_a := x_a.on bw1
            replace x_b := x_b.on bw1
            replace x_c := x_c.on bw1
            replace x_d := x_d.on bw1
            have ⟨x_a_0, x_a_1, x_a_2, x_a_3⟩ := x_a
            have ⟨x_b_0, x_b_1, x_b_2, x_b_3⟩ := x_b
            have ⟨x_c_0, x_c_1, x_c_2, x_c_3⟩ := x_c
            have ⟨x_d_0, x_d_1, x_d_2, x_d_3⟩ := x_d
            go_wp2_with (go_at_call 18; fail)
            refine (pOrient a1 a2 b1 b2 d1 d2 w1 G.out).mono ?_
            rintro e w2 ⟨rfl, bw2⟩
            clear x_a_0 x_a_1 x_a_2 x_a_3 x_b_0 x_b_1 x_b_2 x_b_3 x_c_0 x_c_1 x_c_2 x_c_3 x_d_0 x_d_1 x_d_2 x_d_3
            have zbw2 := bw2.size
            replace BB := also BB bw2
            replace x_a := x_a.on bw2
            replace x_b := x_b.on bw2
            replace x_c := x_c.on bw2
            replace x_d := x_d.on bw2
            have ⟨x_a_0, x_a_1, x_a_2, x_a_3⟩ := x_a
            have ⟨x_b_0, x_b_1, x_b_2, x_b_3⟩ := x_b
            have ⟨x_c_0, x_c_1, x_c_2, x_c_3⟩ := x_c
            have ⟨x_d_0, x_d_1, x_d_2, x_d_3⟩ := x_d
            go_wp2
            go_ret
            exact ⟨rfl, BB⟩
          · skip
            rcases Int.lt_trichotomy (deQ (a1, a2) (b1, b2) (c1, c2) (d1, d2)) 0 with hde | hde | hde
            · skip
              obtain ⟨g, hg⟩ : ∃ g, g = (arP a1 a2 b1 b2 c1 c2).sign := ⟨_, rfl⟩
              obtain rfl : g = 1 := by rw [hg]; exact of_decide_eq_true hl
              have G : Hid _ := hg
              clear hg
              obtain ⟨m, hm⟩ : ∃ m, m = ciP a1 a2 b1 b2 c1 c2 d1 d2 := ⟨_, rfl⟩
              have hms := hm.trans (ci_can (a := (a1, a2)) (b := (b1, b2)) (c := (c1, c2)) (d := (d1, d2)) hl hd)
              rw [cf_yes (a := (a1, a2)) (b := (b1, b2)) (c := (c1, c2)) (d := (d1, d2)) hd hl na nb nc] at hr
              unfold cirQ at hr
              rw [if_neg (by omega)] at hr
              obtain rfl : m = -1 := by rw [hms]; exact Int.sign_eq_neg_one_of_neg hde
              obtain rfl : r = false := by rw [hr]; exact decide_eq_false (by omega)
              have M : Hid _ := hm
              clear hm hms
              have ka := eqP_no na
              clear na
              have kb := eqP_no nb
              clear nb
              have kc := eqP_no nc
              clear nc
              try clear hr
              try clear hl
              clear hde
              obtain ⟨W, hW, bW, x_a, x_b, x_c, x_d, sW⟩ := bs_2222 w (.int .i64 a1) (.int .i64 a2) (.int .i64 b1) (.int .i64 b2) (.int .i64 c1) (.int .i64 c2) (.int .i64 d1) (.int .i64 d2) 23 23 23 23
              have zbW := bW.size
              have BB := bW
              go_enter Try.func8, Try.ntmps8
              go_wp2_with (go_at_call 17; fail)
              rw [← hW]
              clear hW
              refine (lCan d1 d2 W hd.symm).mono ?_
              rintro e w1 ⟨rfl, bw1⟩
              have zbw1 := bw1.size
              replace BB := also BB bw1
              replace x_a := x_a.on bw1
              replace x_b := x_b.on bw1
              replace x_c := x_c.on bw1
              replace x_d := x_d.on bw1
              have ⟨x_a_0, x_a_1, x_a_2, x_a_3⟩ := x_a
              have ⟨x_b_0, x_b_1, x_b_2, x_b_3⟩ := x_b
              have ⟨x_c_0, x_c_1, x_c_2, x_c_3⟩ := x_c
              have ⟨x_d_0, x_d_1, x_d_2, x_d_3⟩ := x_d
              go_wp2_with (go_at_call 18; fail)
              refine (pOrient a1 a2 b1 b2 c1 c2 w1 G.out).mono ?_
              rintro e w2 ⟨rfl, bw2⟩
              clear x_a_0 x_a_1 x_a_2 x_a_3 x_b_0 x_b_1 x_b_2 x_b_3 x_c_0 x_c_1 x_c_2 x_c_3 x_d_0 x_d_1 x_d_2 x_d_3
              have zbw2 := bw2.size
              replace BB := also BB bw2
              replace x_a := x_a.on bw2
              replace x_b := x_b.on bw2
              replace x_c := x_c.on bw2
              replace x_d := x_d.on bw2
              have ⟨x_a_0, x_a_1, x_a_2, x_a_3⟩ := x_a
              have ⟨x_b_0, x_b_1, x_b_2, x_b_3⟩ := x_b
              have ⟨x_c_0, x_c_1, x_c_2, x_c_3⟩ := x_c
              have ⟨x_d_0, x_d_1, x_d_2, x_d_3⟩ := x_d
              go_wp2_with (go_at_call 19; fail)
              refine (pCircle a1 a2 b1 b2 c1 c2 d1 d2 w2 M.out).mono ?_
              rintro e w3 ⟨rfl, bw3⟩
              clear x_a_0 x_a_1 x_a_2 x_a_3 x_b_0 x_b_1 x_b_2 x_b_3 x_c_0 x_c_1 x_c_2 x_c_3 x_d_0 x_d_1 x_d_2 x_d_3
              have zbw3 := bw3.size
              replace BB := also BB bw3
              replace x_a := x_a.on bw3
              replace x_b := x_b.on bw3
              replace x_c := x_c.on bw3
              replace x_d := x_d.on bw3
              have ⟨x_a_0, x_a_1, x_a_2, x_a_3⟩ := x_a
              have ⟨x_b_0, x_b_1, x_b_2, x_b_3⟩ := x_b
              have ⟨x_c_0, x_c_1, x_c_2, x_c_3⟩ := x_c
              have ⟨x_d_0, x_d_1, x_d_2, x_d_3⟩ := x_d
              go_wp2
              go_ret
              exact ⟨rfl, BB⟩
            · skip
              obtain ⟨g, hg⟩ : ∃ g, g = (arP a1 a2 b1 b2 c1 c2).sign := ⟨_, rfl⟩
              obtain rfl : g = 1 := by rw [hg]; exact of_decide_eq_true hl
              have G : Hid _ := hg
              clear hg
              obtain ⟨m, hm⟩ : ∃ m, m = ciP a1 a2 b1 b2 c1 c2 d1 d2 := ⟨_, rfl⟩
              have hms := hm.trans (ci_can (a := (a1, a2)) (b := (b1, b2)) (c := (c1, c2)) (d := (d1, d2)) hl hd)
              rw [cf_yes (a := (a1, a2)) (b := (b1, b2)) (c := (c1, c2)) (d := (d1, d2)) hd hl na nb nc] at hr
              unfold cirQ at hr
              rw [if_pos hde] at hr
              obtain rfl : m = 0 := by rw [hms, hde]; rfl
              obtain ⟨qa, qb, qc, p⟩ := left_iff.1 hl
              rw [← oc_tie qa qb qc hd p na nb nc] at hr
              have HR : Hid _ := hr
              have M : Hid _ := hm
              clear hm hms
              have ka := eqP_no na
              clear na
              have kb := eqP_no nb
              clear nb
              have kc := eqP_no nc
              clear nc
              try clear hr
              try clear hl
              clear hde qa qb qc p
              obtain ⟨W, hW, bW, x_a, x_b, x_c, x_d, sW⟩ := bs_2222 w (.int .i64 a1) (.int .i64 a2) (.int .i64 b1) (.int .i64 b2) (.int .i64 c1) (.int .i64 c2) (.int .i64 d1) (.int .i64 d2) 23 23 23 23
              have zbW := bW.size
              have BB := bW
              go_enter Try.func8, Try.ntmps8
              go_wp2_with (go_at_call 17; fail)
              rw [← hW]
              clear hW
              refine (lCan d1 d2 W hd.symm).mono ?_
              rintro e w1 ⟨rfl, bw1⟩
              have zbw1 := bw1.size
              replace BB := also BB bw1
              replace x_a := x_a.on bw1
              replace x_b := x_b.on bw1
              replace x_c := x_c.on bw1
              replace x_d := x_d.on bw1
              have ⟨x_a_0, x_a_1, x_a_2, x_a_3⟩ := x_a
              have ⟨x_b_0, x_b_1, x_b_2, x_b_3⟩ := x_b
              have ⟨x_c_0, x_c_1, x_c_2, x_c_3⟩ := x_c
              have ⟨x_d_0, x_d_1, x_d_2, x_d_3⟩ := x_d
              go_wp2_with (go_at_call 18; fail)
              refine (pOrient a1 a2 b1 b2 c1 c2 w1 G.out).mono ?_
              rintro e w2 ⟨rfl, bw2⟩
              clear x_a_0 x_a_1 x_a_2 x_a_3 x_b_0 x_b_1 x_b_2 x_b_3 x_c_0 x_c_1 x_c_2 x_c_3 x_d_0 x_d_1 x_d_2 x_d_3
              have zbw2 := bw2.size
              replace BB := also BB bw2
              replace x_a := x_a.on bw2
              replace x_b := x_b.on bw2
              replace x_c := x_c.on bw2
              replace x_d := x_d.on bw2
              have ⟨x_a_0, x_a_1, x_a_2, x_a_3⟩ := x_a
              have ⟨x_b_0, x_b_1, x_b_2, x_b_3⟩ := x_b
              have ⟨x_c_0, x_c_1, x_c_2, x_c_3⟩ := x_c
              have ⟨x_d_0, x_d_1, x_d_2, x_d_3⟩ := x_d
              go_wp2_with (go_at_call 19; fail)
              refine (pCircle a1 a2 b1 b2 c1 c2 d1 d2 w2 M.out).mono ?_
              rintro e w3 ⟨rfl, bw3⟩
              clear x_a_0 x_a_1 x_a_2 x_a_3 x_b_0 x_b_1 x_b_2 x_b_3 x_c_0 x_c_1 x_c_2 x_c_3 x_d_0 x_d_1 x_d_2 x_d_3
              have zbw3 := bw3.size
              replace BB := also BB bw3
              replace x_a := x_a.on bw3
              replace x_b := x_b.on bw3
              replace x_c := x_c.on bw3
              replace x_d := x_d.on bw3
              have ⟨x_a_0, x_a_1, x_a_2, x_a_3⟩ := x_a
              have ⟨x_b_0, x_b_1, x_b_2, x_b_3⟩ := x_b
              have ⟨x_c_0, x_c_1, x_c_2, x_c_3⟩ := x_c
              have ⟨x_d_0, x_d_1, x_d_2, x_d_3⟩ := x_d
              go_wp2_with (go_at_call 20; fail)
              refine (tOn a1 a2 b1 b2 c1 c2 d1 d2 w3 HR.out).mono ?_
              rintro e w4 ⟨rfl, bw4⟩
              clear x_a_0 x_a_1 x_a_2 x_a_3 x_b_0 x_b_1 x_b_2 x_b_3 x_c_0 x_c_1 x_c_2 x_c_3 x_d_0 x_d_1 x_d_2 x_d_3
              have zbw4 := bw4.size
              replace BB := also BB bw4
              replace x_a := x_a.on bw4
              replace x_b := x_b.on bw4
              replace x_c := x_c.on bw4
              replace x_d := x_d.on bw4
              go_wp2
              go_ret
              exact ⟨rfl, BB⟩
            · skip
              obtain ⟨g, hg⟩ : ∃ g, g = (arP a1 a2 b1 b2 c1 c2).sign := ⟨_, rfl⟩
              obtain rfl : g = 1 := by rw [hg]; exact of_decide_eq_true hl
              have G : Hid _ := hg
              clear hg
              obtain ⟨m, hm⟩ : ∃ m, m = ciP a1 a2 b1 b2 c1 c2 d1 d2 := ⟨_, rfl⟩
              have hms := hm.trans (ci_can (a := (a1, a2)) (b := (b1, b2)) (c := (c1, c2)) (d := (d1, d2)) hl hd)
              rw [cf_yes (a := (a1, a2)) (b := (b1, b2)) (c := (c1, c2)) (d := (d1, d2)) hd hl na nb nc] at hr
              unfold cirQ at hr
              rw [if_neg (by omega)] at hr
              obtain rfl : m = 1 := by rw [hms]; exact Int.sign_eq_one_of_pos hde
              obtain rfl : r = true := by rw [hr]; exact decide_eq_true (by omega)
              have M : Hid _ := hm
              clear hm hms
              have ka := eqP_no na
              clear na
              have kb := eqP_no nb
              clear nb
              have kc := eqP_no nc
              clear nc
              try clear hr
              try clear hl
              clear hde
              obtain ⟨W, hW, bW, x_a, x_b, x_c, x_d, sW⟩ := bs_2222 w (.int .i64 a1) (.int .i64 a2) (.int .i64 b1) (.int .i64 b2) (.int .i64 c1) (.int .i64 c2) (.int .i64 d1) (.int .i64 d2) 23 23 23 23
              have zbW := bW.size
              have BB := bW
              go_enter Try.func8, Try.ntmps8
              go_wp2_with (go_at_call 17; fail)
              rw [← hW]
              clear hW
              refine (lCan d1 d2 W hd.symm).mono ?_
              rintro e w1 ⟨rfl, bw1⟩
              have zbw1 := bw1.size
              replace BB := also BB bw1
              replace x_a := x_a.on bw1
              replace x_b := x_b.on bw1
              replace x_c := x_c.on bw1
              replace x_d := x_d.on bw1
              have ⟨x_a_0, x_a_1, x_a_2, x_a_3⟩ := x_a
              have ⟨x_b_0, x_b_1, x_b_2, x_b_3⟩ := x_b
              have ⟨x_c_0, x_c_1, x_c_2, x_c_3⟩ := x_c
              have ⟨x_d_0, x_d_1, x_d_2, x_d_3⟩ := x_d
              go_wp2_with (go_at_call 18; fail)
              refine (pOrient a1 a2 b1 b2 c1 c2 w1 G.out).mono ?_
              rintro e w2 ⟨rfl, bw2⟩
              clear x_a_0 x_a_1 x_a_2 x_a_3 x_b_0 x_b_1 x_b_2 x_b_3 x_c_0 x_c_1 x_c_2 x_c_3 x_d_0 x_d_1 x_d_2 x_d_3
              have zbw2 := bw2.size
              replace BB := also BB bw2
              replace x_a := x_a.on bw2
              replace x_b := x_b.on bw2
              replace x_c := x_c.on bw2
              replace x_d := x_d.on bw2
              have ⟨x_a_0, x_a_1, x_a_2, x_a_3⟩ := x_a
              have ⟨x_b_0, x_b_1, x_b_2, x_b_3⟩ := x_b
              have ⟨x_c_0, x_c_1, x_c_2, x_c_3⟩ := x_c
              have ⟨x_d_0, x_d_1, x_d_2, x_d_3⟩ := x_d
              go_wp2_with (go_at_call 19; fail)
              refine (pCircle a1 a2 b1 b2 c1 c2 d1 d2 w2 M.out).mono ?_
              rintro e w3 ⟨rfl, bw3⟩
              clear x_a_0 x_a_1 x_a_2 x_a_3 x_b_0 x_b_1 x_b_2 x_b_3 x_c_0 x_c_1 x_c_2 x_c_3 x_d_0 x_d_1 x_d_2 x_d_3
              have zbw3 := bw3.size
              replace BB := also BB bw3
              replace x_a := x_a.on bw3
              replace x_b := x_b.on bw3
              replace x_c := x_c.on bw3
              replace x_d := x_d.on bw3
              have ⟨x_a_0, x_a_1, x_a_2, x_a_3⟩ := x_a
              have ⟨x_b_0, x_b_1, x_b_2, x_b_3⟩ := x_b
              have ⟨x_c_0, x_c_1, x_c_2, x_c_3⟩ := x_c
              have ⟨x_d_0, x_d_1, x_d_2, x_d_3⟩ := x_d
              go_wp2
              go_ret
              exact ⟨rfl, BB⟩
end Go.Proofs.Ytnemailhijkemaa

namespace Go.Proofs.Ytnemailhijkemaa
open Go.RowKit
set_option linter.unusedVariables false

/-- The two cells of a point in a slice. -/
structure Pc (w : World) (b q : Nat) (x y : Value) : Prop where
  c0 : w.cell? ⟨b, q, none⟩ = some x
  c1 : w.cell? ⟨b, q + 1, none⟩ = some y
  f0 : w.frozen? ⟨b, q, none⟩ = false
  f1 : w.frozen? ⟨b, q + 1, none⟩ = false
theorem Pc.on {w w' : World} {b q : Nat} {x y : Value} (h : Pc w b q x y) (hb : Below w.heap.size w w') : Pc w' b q x y := ⟨cell_on hb h.c0, cell_on hb h.c1, free_on hb h.c0 h.f0, free_on hb h.c1 h.f1⟩
/-- A slice of points. -/
structure PSl (w : World) (a : Option Addr) (n cap : Nat) (L : List Pt) : Prop where
  len : L.length = n
  room : n ≤ cap
  nil : a = none → n = 0 ∧ cap = 0
  seg : n = 0 ∨ ∃ b o, a = some ⟨b, o, none⟩ ∧ b < w.heap.size ∧ Seg w b o (pcells L)
theorem PSl.below {w w' : World} {a : Option Addr} {n cap : Nat} {L : List Pt} (h : PSl w a n cap L) (hb : Below w.heap.size w w') : PSl w' a n cap L := by
  refine ⟨h.len, h.room, h.nil, ?_⟩
  rcases h.seg with e | ⟨b, o, e, hlt, hs⟩
  · exact Or.inl e
  · exact Or.inr ⟨b, o, e, Nat.lt_of_lt_of_le hlt hb.size, hs.below hb hlt⟩
theorem pcells_length : ∀ L : List Pt, (pcells L).length = L.length * 2
  | [] => rfl
  | p :: l => by have := pcells_length l; simp only [pcells, List.length_cons, this]; omega
theorem PSl.at {w : World} {a : Option Addr} {n cap k : Nat} {L : List Pt} (h : PSl w a n cap L) (hk : k < n) : ∃ b o x y, a = some ⟨b, o, none⟩ ∧ b < w.heap.size ∧ L[k]? = some (x, y) ∧ ∀ j x y, L[j]? = some (x, y) → Pc w b (o + j * 2) (.int .i64 x) (.int .i64 y) := by
  rcases h.seg with e | ⟨b, o, e, hlt, hs⟩
  · omega
  · have hkl : k < L.length := by rw [h.len]; exact hk
    refine ⟨b, o, L[k].1, L[k].2, e, hlt, List.getElem?_eq_getElem hkl, fun j x y hj => ?_⟩
    obtain ⟨e1, e2⟩ := pcells_at L j x y hj
    have hjl := (List.getElem?_eq_some_iff.1 hj).1
    have hl := pcells_length L
    exact ⟨hs.cell _ _ e1, hs.cell _ _ e2, hs.free (j * 2) (by omega), hs.free (j * 2 + 1) (by omega)⟩
theorem bst_step {a b c : Pt} {L : List Pt} {k : Nat} (h : L[k]? = some c) : bstQ a b L (k + 1) = if leftQ a b c && (decide (bstQ a b L k < 0) || cfQ a b (L.getD (bstQ a b L k).toNat (0, 0)) c) then (k : Int) else bstQ a b L k := by
  conv => lhs; unfold bstQ
  rw [List.getD, h]
  rfl
theorem bst_no {a b c : Pt} {L : List Pt} {k : Nat} {z : Int} (h : L[k]? = some c) (hz : z = bstQ a b L k) (hl : leftQ a b c = false) : z = bstQ a b L (k + 1) := by
  rw [bst_step h, hl, hz]; rfl
theorem bst_first {a b c : Pt} {L : List Pt} {k : Nat} (h : L[k]? = some c) (hz : -1 = bstQ a b L k) (hl : leftQ a b c = true) : (k : Int) = bstQ a b L (k + 1) := by
  rw [bst_step h, hl, ← hz]; rfl
theorem bst_more {a b c d : Pt} {L : List Pt} {k j : Nat} {q : Bool} (h : L[k]? = some c) (hz : (j : Int) = bstQ a b L k) (hj : L[j]? = some d) (hl : leftQ a b c = true) (hq : cfQ a b d c = q) : (if q = true then (k : Int) else (j : Int)) = bstQ a b L (k + 1) := by
  rw [bst_step h, hl, ← hz, Int.toNat_natCast, List.getD, hj, decide_eq_false (by omega : ¬ (j : Int) < 0)]
  show _ = if (true && (false || cfQ a b d c)) = true then _ else _
  rw [hq]
  cases q <;> rfl
set_option maxRecDepth 100000 in
set_option maxHeartbeats 8000000 in
theorem tBest (a1 a2 b1 b2 : Int) (s : Option Addr) (n cap : Nat) (L : List Pt) (w : World) (hL : PSl w s n cap L) (hn : n ≤ 1000000) {r : Int} (hr : r = bstQ (a1, a2) (b1, b2) L n) :
    Calls Try.prog 14 #[.agg #[.int .i64 a1, .int .i64 a2], .agg #[.int .i64 b1, .int .i64 b2], .slice s n cap] w fun e w' => e = .returned (.int .i64 r) ∧ Below w.heap.size w w' := by
  have HR : Hid _ := hr
  clear hr
  obtain ⟨W, hW, bW, x_a, x_b, sW⟩ := bs_22 w (.int .i64 a1) (.int .i64 a2) (.int .i64 b1) (.int .i64 b2) 23 23
  have zbW := bW.size
  have BB := bW
  go_enter Try.func14, Try.ntmps14
  go_wp2
  rw [← hW]
  clear hW
  go_loopw [7, 12] (fun m i wr => ∃ (k : Nat) (z : Int), k ≤ n ∧ i = .int .i64 (k : Int) ∧ m = .int .i64 z ∧ Hid (z = bstQ (a1, a2) (b1, b2) L k) ∧ Bx wr w.heap.size (.int .i64 a1) (.int .i64 a2) ∧ Bx wr (w.heap.size + 1) (.int .i64 b1) (.int .i64 b2) ∧ Below w.heap.size w wr) (fun _ i _ => n - (intOf i).toNat)
  case atStart => exact ⟨0, -1, by omega, rfl, rfl, rfl, x_a, x_b, BB⟩
  case round =>
    clear x_a x_b BB
    obtain ⟨k, z, hk, rfl, rfl, hz, x_a, x_b, BB⟩ := hrel
    by_cases hlt : k < n
    · obtain ⟨bl, ofs, x, y, rfl, hbl, hxy, hpc⟩ := (hL.below BB).at hlt
      have x_e := hpc k x y hxy
      have hw : wrap64 ((k : Int) + 1) = (k : Int) + 1 := wrap_in (by omega) (by omega)
      have hlt' : (k : Int) < (n : Int) := by omega
      have zb := bx_lt x_b
      have hrng := bst_range (a1, a2) (b1, b2) L k
      rw [← hz.out] at hrng
      have HXY : Hid _ := hxy
      have hLl := hL.len
      clear hxy hL
      cases hl : leftQ (a1, a2) (b1, b2) (x, y)
      · skip
        obtain ⟨g, hg⟩ : ∃ g, g = (arP a1 a2 b1 b2 x y).sign := ⟨_, rfl⟩
        have hg1 : (g == 1) = false := by rw [hg]; simpa using of_decide_eq_false hl
        have G : Hid _ := hg
        clear hg
        have HL : Hid _ := hl
        clear hl
        have q1 := x_e.c0
        have q2 := x_e.c1
        obtain ⟨V, hV, bV, x_p, sV⟩ := bs_2 wr (.int .i64 x) (.int .i64 y) 23
        have zbV := bV.size
        replace x_a := x_a.on bV
        replace x_b := x_b.on bV
        replace BB := also BB bV
        replace x_e := x_e.on bV
        go_wp2
        rw [← hV]
        clear hV
        clear q1 q2
        have dd1 : Below V.heap.size V V.drew := (Below.refl _ _).drew
        have zdd1 := dd1.size
        replace x_a := x_a.on dd1
        replace x_b := x_b.on dd1
        replace BB := also BB dd1
        replace x_e := x_e.on dd1
        replace x_p := x_p.on dd1
        refine wp_region_held_drew (S := (fun w' => w'.cell? ⟨w.heap.size, 0, none⟩ = some (.int .i64 a1) ∧ w'.cell? ⟨w.heap.size, 1, none⟩ = some (.int .i64 a2) ∧ w'.cell? ⟨w.heap.size + 1, 0, none⟩ = some (.int .i64 b1) ∧ w'.cell? ⟨w.heap.size + 1, 1, none⟩ = some (.int .i64 b2) ∧ w'.cell? ⟨wr.heap.size, 0, none⟩ = some (.int .i64 x) ∧ w'.cell? ⟨wr.heap.size, 1, none⟩ = some (.int .i64 y) ∧ Below w.heap.size w w')) (by kernel_rfl) ?_ (fun hHeld => ?_)
        · exact ⟨x_a.c0, x_a.c1, x_b.c0, x_b.c1, x_p.c0, x_p.c1, BB⟩
        refine take_yes (i := 0) (v := ?vsno0) rfl (by kernel_rfl) (by kernel_rfl) (by kernel_rfl) (fun _ _ _ h => h) (by rfl) (by assumption) ?hysno0 ?restsno0
        case hysno0 => (intro w hSw; (try dsimp only at hSw); first | (go_simp; done) | (go_simp; with_reducible rfl))
        simp only [Act.put, List.setIfInBounds_toArray, List.set_cons_zero, List.set_cons_succ]
        refine take_yes (i := 1) (v := ?vsno1) rfl (by kernel_rfl) (by kernel_rfl) (by kernel_rfl) (fun _ _ _ h => h) (by rfl) (by assumption) ?hysno1 ?restsno1
        case hysno1 => (intro w hSw; (try dsimp only at hSw); first | (go_simp; done) | (go_simp; with_reducible rfl))
        simp only [Act.put, List.setIfInBounds_toArray, List.set_cons_zero, List.set_cons_succ]
        refine take_yes (i := 2) (v := ?vsno2) rfl (by kernel_rfl) (by kernel_rfl) (by kernel_rfl) (fun _ _ _ h => h) (by rfl) (by assumption) ?hysno2 ?restsno2
        case hysno2 => (intro w hSw; (try dsimp only at hSw); first | (go_simp; done) | (go_simp; with_reducible rfl))
        simp only [Act.put, List.setIfInBounds_toArray, List.set_cons_zero, List.set_cons_succ]
        refine take_call (i := 3) rfl (by kernel_rfl) (fun Kc hK => ?_)
        go_simp
        (go_at_call 18; refine (pOrient a1 a2 b1 b2 x y _ G.out).mono ?_; rintro e w1 ⟨rfl, bw1⟩)
        refine hK.out _ _ ?_ (fun hHeld => ?_)
        · exact ⟨cell_on bw1 hHeld.1, cell_on bw1 hHeld.2.1, cell_on bw1 hHeld.2.2.1, cell_on bw1 hHeld.2.2.2.1, cell_on bw1 hHeld.2.2.2.2.1, cell_on bw1 hHeld.2.2.2.2.2.1, also hHeld.2.2.2.2.2.2 bw1⟩
        clear hK Kc
        have zbw1 := bw1.size
        replace x_a := x_a.on bw1
        replace x_b := x_b.on bw1
        replace BB := also BB bw1
        replace x_e := x_e.on bw1
        replace x_p := x_p.on bw1
        refine take_yes (i := 4) (v := ?vsno4) rfl (by kernel_rfl) (by kernel_rfl) (by kernel_rfl) (fun _ _ _ h => h) (by rfl) (by assumption) ?hysno4 ?restsno4
        case hysno4 => (intro w hSw; (try dsimp only at hSw); first | (go_simp; done) | (go_simp; with_reducible rfl))
        simp only [Act.put, List.setIfInBounds_toArray, List.set_cons_zero, List.set_cons_succ]
        refine take_yes (i := 5) (v := ?vsno5) rfl (by kernel_rfl) (by kernel_rfl) (by kernel_rfl) (fun _ _ _ h => h) (by rfl) (by assumption) ?hysno5 ?restsno5
        case hysno5 => (intro w hSw; (try dsimp only at hSw); first | (go_simp; done) | (go_simp; with_reducible rfl))
        simp only [Act.put, List.setIfInBounds_toArray, List.set_cons_zero, List.set_cons_succ]
        refine take_no (i := 6) rfl (by kernel_rfl) (by kernel_rfl) (by kernel_rfl) (fun _ _ _ h => h) (by rfl) (by assumption) ?_
        simp only [Act.put, List.setIfInBounds_toArray, List.set_cons_zero, List.set_cons_succ]
        refine take_no (i := 7) rfl (by kernel_rfl) (by kernel_rfl) (by kernel_rfl) (fun _ _ _ h => h) (by rfl) (by assumption) ?_
        simp only [Act.put, List.setIfInBounds_toArray, List.set_cons_zero, List.set_cons_succ]
        refine take_no (i := 8) rfl (by kernel_rfl) (by kernel_rfl) (by kernel_rfl) (fun _ _ _ h => h) (by rfl) (by assumption) ?_
        simp only [Act.put, List.setIfInBounds_toArray, List.set_cons_zero, List.set_cons_succ]
        refine take_no (i := 9) rfl (by kernel_rfl) (by kernel_rfl) (by kernel_rfl) (fun _ _ _ h => h) (by rfl) (by assumption) ?_
        simp only [Act.put, List.setIfInBounds_toArray, List.set_cons_zero, List.set_cons_succ]
        refine take_no (i := 10) rfl (by kernel_rfl) (by kernel_rfl) (by kernel_rfl) (fun _ _ _ h => h) (by rfl) (by assumption) ?_
        simp only [Act.put, List.setIfInBounds_toArray, List.set_cons_zero, List.set_cons_succ]
        refine take_no (i := 11) rfl (by kernel_rfl) (by kernel_rfl) (by kernel_rfl) (fun _ _ _ h => h) (by rfl) (by assumption) ?_
        simp only [Act.put, List.setIfInBounds_toArray, List.set_cons_zero, List.set_cons_succ]
        refine take_no (i := 12) rfl (by kernel_rfl) (by kernel_rfl) (by kernel_rfl) (fun _ _ _ h => h) (by rfl) (by assumption) ?_
        simp only [Act.put, List.setIfInBounds_toArray, List.set_cons_zero, List.set_cons_succ]
        refine take_no (i := 13) rfl (by kernel_rfl) (by kernel_rfl) (by kernel_rfl) (fun _ _ _ h => h) (by rfl) (by assumption) ?_
        simp only [Act.put, List.setIfInBounds_toArray, List.set_cons_zero, List.set_cons_succ]
        refine take_no (i := 14) rfl (by kernel_rfl) (by kernel_rfl) (by kernel_rfl) (fun _ _ _ h => h) (by rfl) (by assumption) ?_
        simp only [Act.put, List.setIfInBounds_toArray, List.set_cons_zero, List.set_cons_succ]
        refine take_no (i := 15) rfl (by kernel_rfl) (by kernel_rfl) (by kernel_rfl) (fun _ _ _ h => h) (by rfl) (by assumption) ?_
        simp only [Act.put, List.setIfInBounds_toArray, List.set_cons_zero, List.set_cons_succ]
        refine take_no (i := 16) rfl (by kernel_rfl) (by kernel_rfl) (by kernel_rfl) (fun _ _ _ h => h) (by rfl) (by assumption) ?_
        simp only [Act.put, List.setIfInBounds_toArray, List.set_cons_zero, List.set_cons_succ]
        refine take_no (i := 17) rfl (by kernel_rfl) (by kernel_rfl) (by kernel_rfl) (fun _ _ _ h => h) (by rfl) (by assumption) ?_
        simp only [Act.put, List.setIfInBounds_toArray, List.set_cons_zero, List.set_cons_succ]
        refine take_yes (i := 18) (v := ?vsno18) rfl (by kernel_rfl) (by kernel_rfl) (by kernel_rfl) (fun _ _ _ h => h) (by rfl) (by assumption) ?hysno18 ?restsno18
        case hysno18 => (intro w hSw; (try dsimp only at hSw); first | (go_simp; done) | (go_simp; with_reducible rfl))
        simp only [Act.put, List.setIfInBounds_toArray, List.set_cons_zero, List.set_cons_succ]
        refine wpAnyH_done (by kernel_rfl) ?_ _
        go_wp2
        go_roundw
        case rel => exact ⟨k + 1, _, by omega, by simp, rfl, bst_no HXY.out hz.out HL.out, x_a, x_b, BB⟩
        case measure => simp [intOf]; omega
      · by_cases hz0 : z < 0
        · obtain rfl : z = -1 := by omega
          obtain ⟨g, hg⟩ : ∃ g, g = (arP a1 a2 b1 b2 x y).sign := ⟨_, rfl⟩
          obtain rfl : g = 1 := by rw [hg]; exact of_decide_eq_true hl
          have G : Hid _ := hg
          clear hg
          have HL : Hid _ := hl
          clear hl
          have q1 := x_e.c0
          have q2 := x_e.c1
          obtain ⟨V, hV, bV, x_p, sV⟩ := bs_2 wr (.int .i64 x) (.int .i64 y) 23
          have zbV := bV.size
          replace x_a := x_a.on bV
          replace x_b := x_b.on bV
          replace BB := also BB bV
          replace x_e := x_e.on bV
          go_wp2
          rw [← hV]
          clear hV
          clear q1 q2
          have dd1 : Below V.heap.size V V.drew := (Below.refl _ _).drew
          have zdd1 := dd1.size
          replace x_a := x_a.on dd1
          replace x_b := x_b.on dd1
          replace BB := also BB dd1
          replace x_e := x_e.on dd1
          replace x_p := x_p.on dd1
          refine wp_region_held_drew (S := (fun w' => w'.cell? ⟨w.heap.size, 0, none⟩ = some (.int .i64 a1) ∧ w'.cell? ⟨w.heap.size, 1, none⟩ = some (.int .i64 a2) ∧ w'.cell? ⟨w.heap.size + 1, 0, none⟩ = some (.int .i64 b1) ∧ w'.cell? ⟨w.heap.size + 1, 1, none⟩ = some (.int .i64 b2) ∧ w'.cell? ⟨wr.heap.size, 0, none⟩ = some (.int .i64 x) ∧ w'.cell? ⟨wr.heap.size, 1, none⟩ = some (.int .i64 y) ∧ Below w.heap.size w w')) (by kernel_rfl) ?_ (fun hHeld => ?_)
          · exact ⟨x_a.c0, x_a.c1, x_b.c0, x_b.c1, x_p.c0, x_p.c1, BB⟩
          refine take_yes (i := 0) (v := ?vsfirst0) rfl (by kernel_rfl) (by kernel_rfl) (by kernel_rfl) (fun _ _ _ h => h) (by rfl) (by assumption) ?hysfirst0 ?restsfirst0
          case hysfirst0 => (intro w hSw; (try dsimp only at hSw); first | (go_simp; done) | (go_simp; with_reducible rfl))
          simp only [Act.put, List.setIfInBounds_toArray, List.set_cons_zero, List.set_cons_succ]
          refine take_yes (i := 1) (v := ?vsfirst1) rfl (by kernel_rfl) (by kernel_rfl) (by kernel_rfl) (fun _ _ _ h => h) (by rfl) (by assumption) ?hysfirst1 ?restsfirst1
          case hysfirst1 => (intro w hSw; (try dsimp only at hSw); first | (go_simp; done) | (go_simp; with_reducible rfl))
          simp only [Act.put, List.setIfInBounds_toArray, List.set_cons_zero, List.set_cons_succ]
          refine take_yes (i := 2) (v := ?vsfirst2) rfl (by kernel_rfl) (by kernel_rfl) (by kernel_rfl) (fun _ _ _ h => h) (by rfl) (by assumption) ?hysfirst2 ?restsfirst2
          case hysfirst2 => (intro w hSw; (try dsimp only at hSw); first | (go_simp; done) | (go_simp; with_reducible rfl))
          simp only [Act.put, List.setIfInBounds_toArray, List.set_cons_zero, List.set_cons_succ]
          refine take_call (i := 3) rfl (by kernel_rfl) (fun Kc hK => ?_)
          go_simp
          (go_at_call 18; refine (pOrient a1 a2 b1 b2 x y _ G.out).mono ?_; rintro e w1 ⟨rfl, bw1⟩)
          refine hK.out _ _ ?_ (fun hHeld => ?_)
          · exact ⟨cell_on bw1 hHeld.1, cell_on bw1 hHeld.2.1, cell_on bw1 hHeld.2.2.1, cell_on bw1 hHeld.2.2.2.1, cell_on bw1 hHeld.2.2.2.2.1, cell_on bw1 hHeld.2.2.2.2.2.1, also hHeld.2.2.2.2.2.2 bw1⟩
          clear hK Kc
          have zbw1 := bw1.size
          replace x_a := x_a.on bw1
          replace x_b := x_b.on bw1
          replace BB := also BB bw1
          replace x_e := x_e.on bw1
          replace x_p := x_p.on bw1
          refine take_yes (i := 4) (v := ?vsfirst4) rfl (by kernel_rfl) (by kernel_rfl) (by kernel_rfl) (fun _ _ _ h => h) (by rfl) (by assumption) ?hysfirst4 ?restsfirst4
          case hysfirst4 => (intro w hSw; (try dsimp only at hSw); first | (go_simp; done) | (go_simp; with_reducible rfl))
          simp only [Act.put, List.setIfInBounds_toArray, List.set_cons_zero, List.set_cons_succ]
          refine take_yes (i := 5) (v := ?vsfirst5) rfl (by kernel_rfl) (by kernel_rfl) (by kernel_rfl) (fun _ _ _ h => h) (by rfl) (by assumption) ?hysfirst5 ?restsfirst5
          case hysfirst5 => (intro w hSw; (try dsimp only at hSw); first | (go_simp; done) | (go_simp; with_reducible rfl))
          simp only [Act.put, List.setIfInBounds_toArray, List.set_cons_zero, List.set_cons_succ]
          refine take_yes (i := 6) (v := ?vsfirst6) rfl (by kernel_rfl) (by kernel_rfl) (by kernel_rfl) (fun _ _ _ h => h) (by rfl) (by assumption) ?hysfirst6 ?restsfirst6
          case hysfirst6 => (intro w hSw; (try dsimp only at hSw); first | (go_simp; done) | (go_simp; with_reducible rfl))
          simp only [Act.put, List.setIfInBounds_toArray, List.set_cons_zero, List.set_cons_succ]
          refine take_yes (i := 7) (v := ?vsfirst7) rfl (by kernel_rfl) (by kernel_rfl) (by kernel_rfl) (fun _ _ _ h => h) (by rfl) (by assumption) ?hysfirst7 ?restsfirst7
          case hysfirst7 => (intro w hSw; (try dsimp only at hSw); first | (go_simp; done) | (go_simp; with_reducible rfl))
          simp only [Act.put, List.setIfInBounds_toArray, List.set_cons_zero, List.set_cons_succ]
          refine take_yes (i := 8) (v := ?vsfirst8) rfl (by kernel_rfl) (by kernel_rfl) (by kernel_rfl) (fun _ _ _ h => h) (by rfl) (by assumption) ?hysfirst8 ?restsfirst8
          case hysfirst8 => (intro w hSw; (try dsimp only at hSw); first | (go_simp; done) | (go_simp; with_reducible rfl))
          simp only [Act.put, List.setIfInBounds_toArray, List.set_cons_zero, List.set_cons_succ]
          refine take_no (i := 9) rfl (by kernel_rfl) (by kernel_rfl) (by kernel_rfl) (fun _ _ _ h => h) (by rfl) (by assumption) ?_
          simp only [Act.put, List.setIfInBounds_toArray, List.set_cons_zero, List.set_cons_succ]
          refine take_no (i := 10) rfl (by kernel_rfl) (by kernel_rfl) (by kernel_rfl) (fun _ _ _ h => h) (by rfl) (by assumption) ?_
          simp only [Act.put, List.setIfInBounds_toArray, List.set_cons_zero, List.set_cons_succ]
          refine take_no (i := 11) rfl (by kernel_rfl) (by kernel_rfl) (by kernel_rfl) (fun _ _ _ h => h) (by rfl) (by assumption) ?_
          simp only [Act.put, List.setIfInBounds_toArray, List.set_cons_zero, List.set_cons_succ]
          refine take_no (i := 12) rfl (by kernel_rfl) (by kernel_rfl) (by kernel_rfl) (fun _ _ _ h => h) (by rfl) (by assumption) ?_
          simp only [Act.put, List.setIfInBounds_toArray, List.set_cons_zero, List.set_cons_succ]
          refine take_no (i := 13) rfl (by kernel_rfl) (by kernel_rfl) (by kernel_rfl) (fun _ _ _ h => h) (by rfl) (by assumption) ?_
          simp only [Act.put, List.setIfInBounds_toArray, List.set_cons_zero, List.set_cons_succ]
          refine take_no (i := 14) rfl (by kernel_rfl) (by kernel_rfl) (by kernel_rfl) (fun _ _ _ h => h) (by rfl) (by assumption) ?_
          simp only [Act.put, List.setIfInBounds_toArray, List.set_cons_zero, List.set_cons_succ]
          refine take_no (i := 15) rfl (by kernel_rfl) (by kernel_rfl) (by kernel_rfl) (fun _ _ _ h => h) (by rfl) (by assumption) ?_
          simp only [Act.put, List.setIfInBounds_toArray, List.set_cons_zero, List.set_cons_succ]
          refine take_no (i := 16) rfl (by kernel_rfl) (by kernel_rfl) (by kernel_rfl) (fun _ _ _ h => h) (by rfl) (by assumption) ?_
          simp only [Act.put, List.setIfInBounds_toArray, List.set_cons_zero, List.set_cons_succ]
          refine take_yes (i := 17) (v := ?vsfirst17) rfl (by kernel_rfl) (by kernel_rfl) (by kernel_rfl) (fun _ _ _ h => h) (by rfl) (by assumption) ?hysfirst17 ?restsfirst17
          case hysfirst17 => (intro w hSw; (try dsimp only at hSw); first | (go_simp; done) | (go_simp; with_reducible rfl))
          simp only [Act.put, List.setIfInBounds_toArray, List.set_cons_zero, List.set_cons_succ]
          refine take_yes (i := 18) (v := ?vsfirst18) rfl (by kernel_rfl) (by kernel_rfl) (by kernel_rfl) (fun _ _ _ h => h) (by rfl) (by assumption) ?hysfirst18 ?restsfirst18
          case hysfirst18 => (intro w hSw; (try dsimp only at hSw); first | (go_simp; done) | (go_simp; with_reducible rfl))
          simp only [Act.put, List.setIfInBounds_toArray, List.set_cons_zero, List.set_cons_succ]
          refine wpAnyH_done (by kernel_rfl) ?_ _
          go_wp2
          go_roundw
          case rel => exact ⟨k + 1, _, by omega, by simp, rfl, bst_first HXY.out hz.out HL.out, x_a, x_b, BB⟩
          case measure => simp [intOf]; omega
        · obtain ⟨j, rfl⟩ : ∃ j : Nat, z = (j : Int) := ⟨z.toNat, by omega⟩
          have hjk : j < n := by omega
          have hjk' : (j : Int) < (n : Int) := by omega
          obtain ⟨u, v, huv⟩ : ∃ u v, L[j]? = some (u, v) := ⟨_, _, List.getElem?_eq_getElem (by rw [hLl]; exact hjk)⟩
          have x_l := hpc j u v huv
          have HJ : Hid _ := huv
          clear huv hrng
          cases hcf : cfQ (a1, a2) (b1, b2) (u, v) (x, y)
          · skip
            obtain ⟨g, hg⟩ : ∃ g, g = (arP a1 a2 b1 b2 x y).sign := ⟨_, rfl⟩
            obtain rfl : g = 1 := by rw [hg]; exact of_decide_eq_true hl
            have G : Hid _ := hg
            clear hg
            have HL : Hid _ := hl
            clear hl
            have HC : Hid _ := hcf
            clear hcf
            have q1 := x_e.c0
            have q2 := x_e.c1
            obtain ⟨V, hV, bV, x_p, sV⟩ := bs_2 wr (.int .i64 x) (.int .i64 y) 23
            have zbV := bV.size
            replace x_a := x_a.on bV
            replace x_b := x_b.on bV
            replace BB := also BB bV
            replace x_e := x_e.on bV
            replace x_l := x_l.on bV
            go_wp2
            rw [← hV]
            clear hV
            clear q1 q2
            have dd1 : Below V.heap.size V V.drew := (Below.refl _ _).drew
            have zdd1 := dd1.size
            replace x_a := x_a.on dd1
            replace x_b := x_b.on dd1
            replace BB := also BB dd1
            replace x_e := x_e.on dd1
            replace x_l := x_l.on dd1
            replace x_p := x_p.on dd1
            refine wp_region_held_drew (S := (fun w' => w'.cell? ⟨w.heap.size, 0, none⟩ = some (.int .i64 a1) ∧ w'.cell? ⟨w.heap.size, 1, none⟩ = some (.int .i64 a2) ∧ w'.cell? ⟨w.heap.size + 1, 0, none⟩ = some (.int .i64 b1) ∧ w'.cell? ⟨w.heap.size + 1, 1, none⟩ = some (.int .i64 b2) ∧ w'.cell? ⟨wr.heap.size, 0, none⟩ = some (.int .i64 x) ∧ w'.cell? ⟨wr.heap.size, 1, none⟩ = some (.int .i64 y) ∧ w'.cell? ⟨bl, ofs + j * 2, none⟩ = some (.int .i64 u) ∧ w'.cell? ⟨bl, ofs + j * 2 + 1, none⟩ = some (.int .i64 v) ∧ Below w.heap.size w w')) (by kernel_rfl) ?_ (fun hHeld => ?_)
            · exact ⟨x_a.c0, x_a.c1, x_b.c0, x_b.c1, x_p.c0, x_p.c1, x_l.c0, x_l.c1, BB⟩
            refine take_yes (i := 0) (v := ?vsmfalse0) rfl (by kernel_rfl) (by kernel_rfl) (by kernel_rfl) (fun _ _ _ h => h) (by rfl) (by assumption) ?hysmfalse0 ?restsmfalse0
            case hysmfalse0 => (intro w hSw; (try dsimp only at hSw); first | (go_simp; done) | (go_simp; with_reducible rfl))
            simp only [Act.put, List.setIfInBounds_toArray, List.set_cons_zero, List.set_cons_succ]
            refine take_yes (i := 1) (v := ?vsmfalse1) rfl (by kernel_rfl) (by kernel_rfl) (by kernel_rfl) (fun _ _ _ h => h) (by rfl) (by assumption) ?hysmfalse1 ?restsmfalse1
            case hysmfalse1 => (intro w hSw; (try dsimp only at hSw); first | (go_simp; done) | (go_simp; with_reducible rfl))
            simp only [Act.put, List.setIfInBounds_toArray, List.set_cons_zero, List.set_cons_succ]
            refine take_yes (i := 2) (v := ?vsmfalse2) rfl (by kernel_rfl) (by kernel_rfl) (by kernel_rfl) (fun _ _ _ h => h) (by rfl) (by assumption) ?hysmfalse2 ?restsmfalse2
            case hysmfalse2 => (intro w hSw; (try dsimp only at hSw); first | (go_simp; done) | (go_simp; with_reducible rfl))
            simp only [Act.put, List.setIfInBounds_toArray, List.set_cons_zero, List.set_cons_succ]
            refine take_call (i := 3) rfl (by kernel_rfl) (fun Kc hK => ?_)
            go_simp
            (go_at_call 18; refine (pOrient a1 a2 b1 b2 x y _ G.out).mono ?_; rintro e w1 ⟨rfl, bw1⟩)
            refine hK.out _ _ ?_ (fun hHeld => ?_)
            · exact ⟨cell_on bw1 hHeld.1, cell_on bw1 hHeld.2.1, cell_on bw1 hHeld.2.2.1, cell_on bw1 hHeld.2.2.2.1, cell_on bw1 hHeld.2.2.2.2.1, cell_on bw1 hHeld.2.2.2.2.2.1, cell_on bw1 hHeld.2.2.2.2.2.2.1, cell_on bw1 hHeld.2.2.2.2.2.2.2.1, also hHeld.2.2.2.2.2.2.2.2 bw1⟩
            clear hK Kc
            have zbw1 := bw1.size
            replace x_a := x_a.on bw1
            replace x_b := x_b.on bw1
            replace BB := also BB bw1
            replace x_e := x_e.on bw1
            replace x_l := x_l.on bw1
            replace x_p := x_p.on bw1
            refine take_yes (i := 4) (v := ?vsmfalse4) rfl (by kernel_rfl) (by kernel_rfl) (by kernel_rfl) (fun _ _ _ h => h) (by rfl) (by assumption) ?hysmfalse4 ?restsmfalse4
            case hysmfalse4 => (intro w hSw; (try dsimp only at hSw); first | (go_simp; done) | (go_simp; with_reducible rfl))
            simp only [Act.put, List.setIfInBounds_toArray, List.set_cons_zero, List.set_cons_succ]
            refine take_yes (i := 5) (v := ?vsmfalse5) rfl (by kernel_rfl) (by kernel_rfl) (by kernel_rfl) (fun _ _ _ h => h) (by rfl) (by assumption) ?hysmfalse5 ?restsmfalse5
            case hysmfalse5 => (intro w hSw; (try dsimp only at hSw); first | (go_simp; done) | (go_simp; with_reducible rfl))
            simp only [Act.put, List.setIfInBounds_toArray, List.set_cons_zero, List.set_cons_succ]
            refine take_yes (i := 6) (v := ?vsmfalse6) rfl (by kernel_rfl) (by kernel_rfl) (by kernel_rfl) (fun _ _ _ h => h) (by rfl) (by assumption) ?hysmfalse6 ?restsmfalse6
            case hysmfalse6 => (intro w hSw; (try dsimp only at hSw); first | (go_simp; done) | (go_simp; with_reducible rfl))
            simp only [Act.put, List.setIfInBounds_toArray, List.set_cons_zero, List.set_cons_succ]
            refine take_yes (i := 7) (v := ?vsmfalse7) rfl (by kernel_rfl) (by kernel_rfl) (by kernel_rfl) (fun _ _ _ h => h) (by rfl) (by assumption) ?hysmfalse7 ?restsmfalse7
            case hysmfalse7 => (intro w hSw; (try dsimp only at hSw); first | (go_simp; done) | (go_simp; with_reducible rfl))
            simp only [Act.put, List.setIfInBounds_toArray, List.set_cons_zero, List.set_cons_succ]
            refine take_yes (i := 8) (v := ?vsmfalse8) rfl (by kernel_rfl) (by kernel_rfl) (by kernel_rfl) (fun _ _ _ h => h) (by rfl) (by assumption) ?hysmfalse8 ?restsmfalse8
            case hysmfalse8 => (intro w hSw; (try dsimp only at hSw); first | (go_simp; done) | (go_simp; with_reducible rfl))
            simp only [Act.put, List.setIfInBounds_toArray, List.set_cons_zero, List.set_cons_succ]
            refine take_yes (i := 9) (v := ?vsmfalse9) rfl (by kernel_rfl) (by kernel_rfl) (by kernel_rfl) (fun _ _ _ h => h) (by rfl) (by assumption) ?hysmfalse9 ?restsmfalse9
            case hysmfalse9 => (intro w hSw; (try dsimp only at hSw); first | (go_simp; done) | (go_simp; with_reducible rfl))
            simp only [Act.put, List.setIfInBounds_toArray, List.set_cons_zero, List.set_cons_succ]
            refine take_yes (i := 10) (v := ?vsmfalse10) rfl (by kernel_rfl) (by kernel_rfl) (by kernel_rfl) (fun _ _ _ h => h) (by rfl) (by assumption) ?hysmfalse10 ?restsmfalse10
            case hysmfalse10 => (intro w hSw; (try dsimp only at hSw); first | (go_simp; done) | (go_simp; with_reducible rfl))
            simp only [Act.put, List.setIfInBounds_toArray, List.set_cons_zero, List.set_cons_succ]
            refine take_yes (i := 11) (v := ?vsmfalse11) rfl (by kernel_rfl) (by kernel_rfl) (by kernel_rfl) (fun _ _ _ h => h) (by rfl) (by assumption) ?hysmfalse11 ?restsmfalse11
            case hysmfalse11 => (intro w hSw; (try dsimp only at hSw); first | (go_simp; done) | (go_simp; with_reducible rfl))
            simp only [Act.put, List.setIfInBounds_toArray, List.set_cons_zero, List.set_cons_succ]
            refine take_yes (i := 12) (v := ?vsmfalse12) rfl (by kernel_rfl) (by kernel_rfl) (by kernel_rfl) (fun _ _ _ h => h) (by rfl) (by assumption) ?hysmfalse12 ?restsmfalse12
            case hysmfalse12 => (intro w hSw; (try dsimp only at hSw); first | (go_simp; done) | (go_simp; with_reducible rfl))
            simp only [Act.put, List.setIfInBounds_toArray, List.set_cons_zero, List.set_cons_succ]
            refine take_yes (i := 13) (v := ?vsmfalse13) rfl (by kernel_rfl) (by kernel_rfl) (by kernel_rfl) (fun _ _ _ h => h) (by rfl) (by assumption) ?hysmfalse13 ?restsmfalse13
            case hysmfalse13 => (intro w hSw; (try dsimp only at hSw); first | (go_simp; done) | (go_simp; with_reducible rfl))
            simp only [Act.put, List.setIfInBounds_toArray, List.set_cons_zero, List.set_cons_succ]
            refine take_yes (i := 14) (v := ?vsmfalse14) rfl (by kernel_rfl) (by kernel_rfl) (by kernel_rfl) (fun _ _ _ h => h) (by rfl) (by assumption) ?hysmfalse14 ?restsmfalse14
            case hysmfalse14 => (intro w hSw; (try dsimp only at hSw); first | (go_simp; done) | (go_simp; with_reducible rfl))
            simp only [Act.put, List.setIfInBounds_toArray, List.set_cons_zero, List.set_cons_succ]
            refine take_yes (i := 15) (v := ?vsmfalse15) rfl (by kernel_rfl) (by kernel_rfl) (by kernel_rfl) (fun _ _ _ h => h) (by rfl) (by assumption) ?hysmfalse15 ?restsmfalse15
            case hysmfalse15 => (intro w hSw; (try dsimp only at hSw); first | (go_simp; done) | (go_simp; with_reducible rfl))
            simp only [Act.put, List.setIfInBounds_toArray, List.set_cons_zero, List.set_cons_succ]
            refine take_call (i := 16) rfl (by kernel_rfl) (fun Kc hK => ?_)
            go_simp
            (go_at_call 8; refine (tConflict a1 a2 b1 b2 u v x y _ HC.out.symm).mono ?_; rintro e w2 ⟨rfl, bw2⟩)
            refine hK.out _ _ ?_ (fun hHeld => ?_)
            · exact ⟨cell_on bw2 hHeld.1, cell_on bw2 hHeld.2.1, cell_on bw2 hHeld.2.2.1, cell_on bw2 hHeld.2.2.2.1, cell_on bw2 hHeld.2.2.2.2.1, cell_on bw2 hHeld.2.2.2.2.2.1, cell_on bw2 hHeld.2.2.2.2.2.2.1, cell_on bw2 hHeld.2.2.2.2.2.2.2.1, also hHeld.2.2.2.2.2.2.2.2 bw2⟩
            clear hK Kc
            have zbw2 := bw2.size
            replace x_a := x_a.on bw2
            replace x_b := x_b.on bw2
            replace BB := also BB bw2
            replace x_e := x_e.on bw2
            replace x_l := x_l.on bw2
            replace x_p := x_p.on bw2
            refine take_yes (i := 17) (v := ?vsmfalse17) rfl (by kernel_rfl) (by kernel_rfl) (by kernel_rfl) (fun _ _ _ h => h) (by rfl) (by assumption) ?hysmfalse17 ?restsmfalse17
            case hysmfalse17 => (intro w hSw; (try dsimp only at hSw); first | (go_simp; done) | (go_simp; with_reducible rfl))
            simp only [Act.put, List.setIfInBounds_toArray, List.set_cons_zero, List.set_cons_succ]
            refine take_yes (i := 18) (v := ?vsmfalse18) rfl (by kernel_rfl) (by kernel_rfl) (by kernel_rfl) (fun _ _ _ h => h) (by rfl) (by assumption) ?hysmfalse18 ?restsmfalse18
            case hysmfalse18 => (intro w hSw; (try dsimp only at hSw); first | (go_simp; done) | (go_simp; with_reducible rfl))
            simp only [Act.put, List.setIfInBounds_toArray, List.set_cons_zero, List.set_cons_succ]
            refine wpAnyH_done (by kernel_rfl) ?_ _
            go_wp2
            go_roundw
            case rel => exact ⟨k + 1, _, by omega, by simp, rfl, (bst_more HXY.out hz.out HJ.out HL.out HC.out), x_a, x_b, BB⟩
            case measure => simp [intOf]; omega
          · skip
            obtain ⟨g, hg⟩ : ∃ g, g = (arP a1 a2 b1 b2 x y).sign := ⟨_, rfl⟩
            obtain rfl : g = 1 := by rw [hg]; exact of_decide_eq_true hl
            have G : Hid _ := hg
            clear hg
            have HL : Hid _ := hl
            clear hl
            have HC : Hid _ := hcf
            clear hcf
            have q1 := x_e.c0
            have q2 := x_e.c1
            obtain ⟨V, hV, bV, x_p, sV⟩ := bs_2 wr (.int .i64 x) (.int .i64 y) 23
            have zbV := bV.size
            replace x_a := x_a.on bV
            replace x_b := x_b.on bV
            replace BB := also BB bV
            replace x_e := x_e.on bV
            replace x_l := x_l.on bV
            go_wp2
            rw [← hV]
            clear hV
            clear q1 q2
            have dd1 : Below V.heap.size V V.drew := (Below.refl _ _).drew
            have zdd1 := dd1.size
            replace x_a := x_a.on dd1
            replace x_b := x_b.on dd1
            replace BB := also BB dd1
            replace x_e := x_e.on dd1
            replace x_l := x_l.on dd1
            replace x_p := x_p.on dd1
            refine wp_region_held_drew (S := (fun w' => w'.cell? ⟨w.heap.size, 0, none⟩ = some (.int .i64 a1) ∧ w'.cell? ⟨w.heap.size, 1, none⟩ = some (.int .i64 a2) ∧ w'.cell? ⟨w.heap.size + 1, 0, none⟩ = some (.int .i64 b1) ∧ w'.cell? ⟨w.heap.size + 1, 1, none⟩ = some (.int .i64 b2) ∧ w'.cell? ⟨wr.heap.size, 0, none⟩ = some (.int .i64 x) ∧ w'.cell? ⟨wr.heap.size, 1, none⟩ = some (.int .i64 y) ∧ w'.cell? ⟨bl, ofs + j * 2, none⟩ = some (.int .i64 u) ∧ w'.cell? ⟨bl, ofs + j * 2 + 1, none⟩ = some (.int .i64 v) ∧ Below w.heap.size w w')) (by kernel_rfl) ?_ (fun hHeld => ?_)
            · exact ⟨x_a.c0, x_a.c1, x_b.c0, x_b.c1, x_p.c0, x_p.c1, x_l.c0, x_l.c1, BB⟩
            refine take_yes (i := 0) (v := ?vsmtrue0) rfl (by kernel_rfl) (by kernel_rfl) (by kernel_rfl) (fun _ _ _ h => h) (by rfl) (by assumption) ?hysmtrue0 ?restsmtrue0
            case hysmtrue0 => (intro w hSw; (try dsimp only at hSw); first | (go_simp; done) | (go_simp; with_reducible rfl))
            simp only [Act.put, List.setIfInBounds_toArray, List.set_cons_zero, List.set_cons_succ]
            refine take_yes (i := 1) (v := ?vsmtrue1) rfl (by kernel_rfl) (by kernel_rfl) (by kernel_rfl) (fun _ _ _ h => h) (by rfl) (by assumption) ?hysmtrue1 ?restsmtrue1
            case hysmtrue1 => (intro w hSw; (try dsimp only at hSw); first | (go_simp; done) | (go_simp; with_reducible rfl))
            simp only [Act.put, List.setIfInBounds_toArray, List.set_cons_zero, List.set_cons_succ]
            refine take_yes (i := 2) (v := ?vsmtrue2) rfl (by kernel_rfl) (by kernel_rfl) (by kernel_rfl) (fun _ _ _ h => h) (by rfl) (by assumption) ?hysmtrue2 ?restsmtrue2
            case hysmtrue2 => (intro w hSw; (try dsimp only at hSw); first | (go_simp; done) | (go_simp; with_reducible rfl))
            simp only [Act.put, List.setIfInBounds_toArray, List.set_cons_zero, List.set_cons_succ]
            refine take_call (i := 3) rfl (by kernel_rfl) (fun Kc hK => ?_)
            go_simp
            (go_at_call 18; refine (pOrient a1 a2 b1 b2 x y _ G.out).mono ?_; rintro e w1 ⟨rfl, bw1⟩)
            refine hK.out _ _ ?_ (fun hHeld => ?_)
            · exact ⟨cell_on bw1 hHeld.1, cell_on bw1 hHeld.2.1, cell_on bw1 hHeld.2.2.1, cell_on bw1 hHeld.2.2.2.1, cell_on bw1 hHeld.2.2.2.2.1, cell_on bw1 hHeld.2.2.2.2.2.1, cell_on bw1 hHeld.2.2.2.2.2.2.1, cell_on bw1 hHeld.2.2.2.2.2.2.2.1, also hHeld.2.2.2.2.2.2.2.2 bw1⟩
            clear hK Kc
            have zbw1 := bw1.size
            replace x_a := x_a.on bw1
            replace x_b := x_b.on bw1
            replace BB := also BB bw1
            replace x_e := x_e.on bw1
            replace x_l := x_l.on bw1
            replace x_p := x_p.on bw1
            refine take_yes (i := 4) (v := ?vsmtrue4) rfl (by kernel_rfl) (by kernel_rfl) (by kernel_rfl) (fun _ _ _ h => h) (by rfl) (by assumption) ?hysmtrue4 ?restsmtrue4
            case hysmtrue4 => (intro w hSw; (try dsimp only at hSw); first | (go_simp; done) | (go_simp; with_reducible rfl))
            simp only [Act.put, List.setIfInBounds_toArray, List.set_cons_zero, List.set_cons_succ]
            refine take_yes (i := 5) (v := ?vsmtrue5) rfl (by kernel_rfl) (by kernel_rfl) (by kernel_rfl) (fun _ _ _ h => h) (by rfl) (by assumption) ?hysmtrue5 ?restsmtrue5
            case hysmtrue5 => (intro w hSw; (try dsimp only at hSw); first | (go_simp; done) | (go_simp; with_reducible rfl))
            simp only [Act.put, List.setIfInBounds_toArray, List.set_cons_zero, List.set_cons_succ]
            refine take_yes (i := 6) (v := ?vsmtrue6) rfl (by kernel_rfl) (by kernel_rfl) (by kernel_rfl) (fun _ _ _ h => h) (by rfl) (by assumption) ?hysmtrue6 ?restsmtrue6
            case hysmtrue6 => (intro w hSw; (try dsimp only at hSw); first | (go_simp; done) | (go_simp; with_reducible rfl))
            simp only [Act.put, List.setIfInBounds_toArray, List.set_cons_zero, List.set_cons_succ]
            refine take_yes (i := 7) (v := ?vsmtrue7) rfl (by kernel_rfl) (by kernel_rfl) (by kernel_rfl) (fun _ _ _ h => h) (by rfl) (by assumption) ?hysmtrue7 ?restsmtrue7
            case hysmtrue7 => (intro w hSw; (try dsimp only at hSw); first | (go_simp; done) | (go_simp; with_reducible rfl))
            simp only [Act.put, List.setIfInBounds_toArray, List.set_cons_zero, List.set_cons_succ]
            refine take_yes (i := 8) (v := ?vsmtrue8) rfl (by kernel_rfl) (by kernel_rfl) (by kernel_rfl) (fun _ _ _ h => h) (by rfl) (by assumption) ?hysmtrue8 ?restsmtrue8
            case hysmtrue8 => (intro w hSw; (try dsimp only at hSw); first | (go_simp; done) | (go_simp; with_reducible rfl))
            simp only [Act.put, List.setIfInBounds_toArray, List.set_cons_zero, List.set_cons_succ]
            refine take_yes (i := 9) (v := ?vsmtrue9) rfl (by kernel_rfl) (by kernel_rfl) (by kernel_rfl) (fun _ _ _ h => h) (by rfl) (by assumption) ?hysmtrue9 ?restsmtrue9
            case hysmtrue9 => (intro w hSw; (try dsimp only at hSw); first | (go_simp; done) | (go_simp; with_reducible rfl))
            simp only [Act.put, List.setIfInBounds_toArray, List.set_cons_zero, List.set_cons_succ]
            refine take_yes (i := 10) (v := ?vsmtrue10) rfl (by kernel_rfl) (by kernel_rfl) (by kernel_rfl) (fun _ _ _ h => h) (by rfl) (by assumption) ?hysmtrue10 ?restsmtrue10
            case hysmtrue10 => (intro w hSw; (try dsimp only at hSw); first | (go_simp; done) | (go_simp; with_reducible rfl))
            simp only [Act.put, List.setIfInBounds_toArray, List.set_cons_zero, List.set_cons_succ]
            refine take_yes (i := 11) (v := ?vsmtrue11) rfl (by kernel_rfl) (by kernel_rfl) (by kernel_rfl) (fun _ _ _ h => h) (by rfl) (by assumption) ?hysmtrue11 ?restsmtrue11
            case hysmtrue11 => (intro w hSw; (try dsimp only at hSw); first | (go_simp; done) | (go_simp; with_reducible rfl))
            simp only [Act.put, List.setIfInBounds_toArray, List.set_cons_zero, List.set_cons_succ]
            refine take_yes (i := 12) (v := ?vsmtrue12) rfl (by kernel_rfl) (by kernel_rfl) (by kernel_rfl) (fun _ _ _ h => h) (by rfl) (by assumption) ?hysmtrue12 ?restsmtrue12
            case hysmtrue12 => (intro w hSw; (try dsimp only at hSw); first | (go_simp; done) | (go_simp; with_reducible rfl))
            simp only [Act.put, List.setIfInBounds_toArray, List.set_cons_zero, List.set_cons_succ]
            refine take_yes (i := 13) (v := ?vsmtrue13) rfl (by kernel_rfl) (by kernel_rfl) (by kernel_rfl) (fun _ _ _ h => h) (by rfl) (by assumption) ?hysmtrue13 ?restsmtrue13
            case hysmtrue13 => (intro w hSw; (try dsimp only at hSw); first | (go_simp; done) | (go_simp; with_reducible rfl))
            simp only [Act.put, List.setIfInBounds_toArray, List.set_cons_zero, List.set_cons_succ]
            refine take_yes (i := 14) (v := ?vsmtrue14) rfl (by kernel_rfl) (by kernel_rfl) (by kernel_rfl) (fun _ _ _ h => h) (by rfl) (by assumption) ?hysmtrue14 ?restsmtrue14
            case hysmtrue14 => (intro w hSw; (try dsimp only at hSw); first | (go_simp; done) | (go_simp; with_reducible rfl))
            simp only [Act.put, List.setIfInBounds_toArray, List.set_cons_zero, List.set_cons_succ]
            refine take_yes (i := 15) (v := ?vsmtrue15) rfl (by kernel_rfl) (by kernel_rfl) (by kernel_rfl) (fun _ _ _ h => h) (by rfl) (by assumption) ?hysmtrue15 ?restsmtrue15
            case hysmtrue15 => (intro w hSw; (try dsimp only at hSw); first | (go_simp; done) | (go_simp; with_reducible rfl))
            simp only [Act.put, List.setIfInBounds_toArray, List.set_cons_zero, List.set_cons_succ]
            refine take_call (i := 16) rfl (by kernel_rfl) (fun Kc hK => ?_)
            go_simp
            (go_at_call 8; refine (tConflict a1 a2 b1 b2 u v x y _ HC.out.symm).mono ?_; rintro e w2 ⟨rfl, bw2⟩)
            refine hK.out _ _ ?_ (fun hHeld => ?_)
            · exact ⟨cell_on bw2 hHeld.1, cell_on bw2 hHeld.2.1, cell_on bw2 hHeld.2.2.1, cell_on bw2 hHeld.2.2.2.1, cell_on bw2 hHeld.2.2.2.2.1, cell_on bw2 hHeld.2.2.2.2.2.1, cell_on bw2 hHeld.2.2.2.2.2.2.1, cell_on bw2 hHeld.2.2.2.2.2.2.2.1, also hHeld.2.2.2.2.2.2.2.2 bw2⟩
            clear hK Kc
            have zbw2 := bw2.size
            replace x_a := x_a.on bw2
            replace x_b := x_b.on bw2
            replace BB := also BB bw2
            replace x_e := x_e.on bw2
            replace x_l := x_l.on bw2
            replace x_p := x_p.on bw2
            refine take_yes (i := 17) (v := ?vsmtrue17) rfl (by kernel_rfl) (by kernel_rfl) (by kernel_rfl) (fun _ _ _ h => h) (by rfl) (by assumption) ?hysmtrue17 ?restsmtrue17
            case hysmtrue17 => (intro w hSw; (try dsimp only at hSw); first | (go_simp; done) | (go_simp; with_reducible rfl))
            simp only [Act.put, List.setIfInBounds_toArray, List.set_cons_zero, List.set_cons_succ]
            refine take_yes (i := 18) (v := ?vsmtrue18) rfl (by kernel_rfl) (by kernel_rfl) (by kernel_rfl) (fun _ _ _ h => h) (by rfl) (by assumption) ?hysmtrue18 ?restsmtrue18
            case hysmtrue18 => (intro w hSw; (try dsimp only at hSw); first | (go_simp; done) | (go_simp; with_reducible rfl))
            simp only [Act.put, List.setIfInBounds_toArray, List.set_cons_zero, List.set_cons_succ]
            refine wpAnyH_done (by kernel_rfl) ?_ _
            go_wp2
            go_roundw
            case rel => exact ⟨k + 1, _, by omega, by simp, rfl, (bst_more HXY.out hz.out HJ.out HL.out HC.out), x_a, x_b, BB⟩
            case measure => simp [intOf]; omega
    · obtain rfl : k = n := by omega
      go_wp2
      go_ret
      exact ⟨by rw [HR.out, ← hz.out]; rfl, BB⟩
end Go.Proofs.Ytnemailhijkemaa

namespace Go.Proofs.Ytnemailhijkemaa
open Go.RowKit
set_option linter.unusedVariables false

end Go.Proofs.Ytnemailhijkemaa

namespace Go.Proofs.Ytnemailhijkemaa
open Go.RowKit
set_option linter.unusedVariables false

set_option maxRecDepth 100000 in
set_option maxHeartbeats 1000000 in
theorem rwLong (x : Int) (w : World) (h1 : -9223372036854775808 ≤ x) (h2 : x ≤ 9223372036854775807) : Calls Try.prog 27 #[.int .i64 x] w (GotR w (fun _ => True) x) := by
  by_cases hx : x = 0
  · subst hx
    go_enter Try.func27, Try.ntmps27
    go_wp2
    exact bodyPost_ret (v := .agg #[.int .i64 0, .slice none 0 0]) (by simp [results, Try.results27, go_sem, *]) rfl ⟨0, none, 0, 0, rfl, rn_zero _ 0, fun _ _ _ => Or.inl rfl, (Below.refl _ _).alloc (Nat.le_refl _) _⟩
  have B0 : Below w.heap.size w (w.alloc (.cells #[.int .i64 0, .slice none 0 0] 42)) := (Below.refl _ _).alloc (Nat.le_refl _) _
  have x0 := bx_new w (.int .i64 0) (.slice none 0 0) 42
  obtain ⟨u, hu⟩ : ∃ u, u = x.natAbs := ⟨_, rfl⟩
  have hul : u < 18446744073709551616 := by omega
  have ho := own_two (w.alloc (.cells #[.int .i64 0, .slice none 0 0] 42)) u hul
  have hb1 : Below (w.alloc (.cells #[.int .i64 0, .slice none 0 0] 42)).heap.size (w.alloc (.cells #[.int .i64 0, .slice none 0 0] 42)) ((w.alloc (.cells #[.int .i64 0, .slice none 0 0] 42)).alloc (.cells #[.int .u32 ((u : Int) % 4294967296), .int .u32 ((u : Int) / 4294967296)] 65)) := (Below.refl _ _).alloc (Nat.le_refl _) _
  have hni : NI _ _ 2 2 u := ⟨Own.sl ho, by omega, by decide⟩
  rw [World.size_alloc] at hni
  have x1 := x0.on hb1
  have E2 : (u : Int) / 4294967296 % 4294967296 = (u : Int) / 4294967296 := by omega
  by_cases hn : x < 0
  · have E : IntKind.u64.wrap (-IntKind.u64.wrap x) = (u : Int) := by rw [IntKind.wrap_u64, IntKind.wrap_u64]; omega
    have HR : Hid ((-1 : Int) = x.sign) := (sign_neg hn).symm
    have HU : Hid _ := hu
    clear hu ho
    go_enter Try.func27, Try.ntmps27
    go_wp2_with (go_at_call 46; fail)
    refine (hfOf _ 2 2 u _ hni).mono ?_
    rintro e w2 ⟨d, l, c, rfl, hd, fd, b2⟩
    obtain ⟨k0, k1, k2, k3⟩ := x1.on b2
    go_wp2
    exact bodyPost_ret (v := .agg #[.int .i64 (-1), .slice d l c]) (by simp [results, Try.results27, go_sem, *]) rfl (endR _ (by omega) (also (also B0 hb1) b2) ⟨HU.out ▸ hd, HR.out⟩ (fd _ (by simp; omega)) (fun j hj _ => fd j (by simp; omega)) _ _)
  · obtain ⟨y, rfl⟩ := Int.eq_ofNat_of_zero_le (show 0 ≤ x by omega)
    obtain rfl : u = y := by omega
    have HR : Hid ((1 : Int) = ((u : Nat) : Int).sign) := (sign_pos (by omega)).symm
    have HU : Hid (u = ((u : Nat) : Int).natAbs) := hu
    clear hu ho
    go_enter Try.func27, Try.ntmps27
    go_wp2_with (go_at_call 46; fail)
    refine (hfOf _ 2 2 u _ hni).mono ?_
    rintro e w2 ⟨d, l, c, rfl, hd, fd, b2⟩
    obtain ⟨k0, k1, k2, k3⟩ := x1.on b2
    go_wp2
    exact bodyPost_ret (v := .agg #[.int .i64 (1), .slice d l c]) (by simp [results, Try.results27, go_sem, *]) rfl (endR _ (by omega) (also (also B0 hb1) b2) ⟨HU.out ▸ hd, HR.out⟩ (fd _ (by simp; omega)) (fun j hj _ => fd j (by simp; omega)) _ _)

end Go.Proofs.Ytnemailhijkemaa

namespace Go.Proofs.Ytnemailhijkemaa
open Go.RowKit
set_option linter.unusedVariables false

end Go.Proofs.Ytnemailhijkemaa

namespace Go.Proofs.Ytnemailhijkemaa
open Go.RowKit
set_option linter.unusedVariables false

theorem few40 : hf.nlen (1099511627776 : Int).natAbs ≤ 1000000 := hfew (K := 2) (by decide) (by decide)
theorem few40n : hf.nlen (-1099511627776 : Int).natAbs ≤ 1000000 := hfew (K := 2) (by decide) (by decide)
theorem few_i64 {x : Int} (h : -9223372036854775808 ≤ x ∧ x ≤ 9223372036854775807) : hf.nlen x.natAbs ≤ 1000000 := hfew (K := 2) (by omega) (by decide)
theorem in_no_high {z : Int} (h : 1099511627776 < z) : inC z = false := inC_false.2 (by omega)
theorem rlCmp (x y z t : Int) (w : World) {g : Int} (hg : g = cmpP x y z t) : Calls Try.prog 44 #[.agg #[.int .i64 x, .int .i64 y], .agg #[.int .i64 z, .int .i64 t]] w fun e w' => e = .returned (.int .i64 g) ∧ Below w.heap.size w w' := by
  have B : ∀ x y z t : Int, Below w.heap.size w ((w.alloc (.cells #[.int .i64 x, .int .i64 y] 23)).alloc (.cells #[.int .i64 z, .int .i64 t] 23)) := fun _ _ _ _ => ((Below.refl _ _).alloc (Nat.le_refl _) _).alloc (by simp) _
  rcases Int.lt_trichotomy x z with h | rfl | h
  · obtain rfl : g = -1 := by rw [hg]; unfold cmpP cmpI; rw [if_neg (by omega), if_pos h]
    go_enter Try.func44, Try.ntmps44
    go_wp2
    go_ret
    exact ⟨rfl, B _ _ _ _⟩
  · rcases Int.lt_trichotomy y t with h | rfl | h
    · obtain rfl : g = -1 := by rw [hg]; unfold cmpP cmpI; rw [if_pos rfl, if_pos h]
      go_enter Try.func44, Try.ntmps44
      go_wp2
      go_ret
      exact ⟨rfl, B _ _ _ _⟩
    · obtain rfl : g = 0 := by rw [hg]; unfold cmpP cmpI; rw [if_pos rfl, if_neg (by omega), if_neg (by omega)]
      go_enter Try.func44, Try.ntmps44
      go_wp2
      go_ret
      exact ⟨rfl, B _ _ _ _⟩
    · obtain rfl : g = 1 := by rw [hg]; unfold cmpP cmpI; rw [if_pos rfl, if_neg (by omega), if_pos h]
      have h1 : ¬ y < t := by omega
      have h2 : ¬ y = t := by omega
      go_enter Try.func44, Try.ntmps44
      go_wp2
      go_ret
      exact ⟨rfl, B _ _ _ _⟩
  · obtain rfl : g = 1 := by rw [hg]; unfold cmpP cmpI; rw [if_neg (by omega), if_neg (by omega), if_pos h]
    have h1 : ¬ x < z := by omega
    have h2 : ¬ x = z := by omega
    go_enter Try.func44, Try.ntmps44
    go_wp2
    go_ret
    exact ⟨rfl, B _ _ _ _⟩
set_option maxRecDepth 100000 in
set_option maxHeartbeats 4000000 in
theorem rlIn (s : Int) (d : Option Addr) (l c : Nat) (z : Int) (w : World) (hz : RN w s d l c z) (fz : hf.nlen z.natAbs ≤ 1000000) {b : Bool} (hb : b = inC z) : Calls Try.prog 26 #[.agg #[.int .i64 s, .slice d l c]] w fun e w' => e = .returned (.bool b) ∧ Below w.heap.size w w' := by
  obtain ⟨g1, hg1⟩ : ∃ g1, g1 = (z - 1099511627776).sign := ⟨_, rfl⟩
  obtain ⟨g2, hg2⟩ : ∃ g2, g2 = (z - -1099511627776).sign := ⟨_, rfl⟩
  have G1 : Hid _ := hg1
  have G2 : Hid _ := hg2
  have FZ : Hid _ := fz
  clear fz
  obtain ⟨W, hW, bW, x_n, sW⟩ := bs_2 w (.int .i64 s) (.slice d l c) 42
  have zbW := bW.size
  replace hz := hz.below bW
  have BB := bW
  by_cases hbig : 1099511627776 < z
  · skip
    obtain rfl : b = false := by rw [hb, in_no_high hbig]
    have e1 : (g1 ≤ 0) = False := by rw [hg1, Int.sign_eq_one_of_pos (by omega)]; decide
    clear hb hg1 hg2 hbig
    go_enter Try.func26, Try.ntmps26
    go_wp2
    rw [← hW]
    clear hW
    have dd1 : Below W.heap.size W W.drew := (Below.refl _ _).drew
    have zdd1 := dd1.size
    replace hz := hz.below dd1
    replace BB := also BB dd1
    replace x_n := x_n.on dd1
    refine wp_region_held_drew (S := (fun w' => w'.cell? ⟨w.heap.size, 0, none⟩ = some (.int .i64 s) ∧ w'.cell? ⟨w.heap.size, 1, none⟩ = some (.slice d l c) ∧ Below w.heap.size w w')) (by kernel_rfl) ?_ (fun hHeld => ?_)
    · first | exact ⟨x_n.c0, x_n.c1, BB⟩ | exact ⟨cell_on bw2 hHeld.1, cell_on bw2 hHeld.2.1, also hHeld.2.2 bw2⟩ | exact ⟨cell_on bw1 hHeld.1, cell_on bw1 hHeld.2.1, also hHeld.2.2 bw1⟩
    refine take_yes (i := 0) (v := ?va0) rfl (by kernel_rfl) (by kernel_rfl) (by kernel_rfl) (fun _ _ _ h => h) (by rfl) (by assumption) ?hya0 ?resta0
    case hya0 => (intro w hSw; (try dsimp only at hSw); first | (go_simp; done) | (go_simp; with_reducible rfl))
    simp only [Act.put, List.setIfInBounds_toArray, List.set_cons_zero, List.set_cons_succ]
    refine take_call (i := 1) rfl (by kernel_rfl) (fun Kc hK => ?_)
    go_simp
    (go_at_call 27; refine (rwLong 1099511627776 _ (by decide) (by decide)).mono ?_; rintro e w1 ⟨s1, d1, l1, c1, rfl, r1, f1, bw1⟩)
    refine hK.out _ _ ?_ (fun hHeld => ?_)
    · first | exact ⟨x_n.c0, x_n.c1, BB⟩ | exact ⟨cell_on bw2 hHeld.1, cell_on bw2 hHeld.2.1, also hHeld.2.2 bw2⟩ | exact ⟨cell_on bw1 hHeld.1, cell_on bw1 hHeld.2.1, also hHeld.2.2 bw1⟩
    clear hK Kc
    have zbw1 := bw1.size
    replace hz := hz.below bw1
    replace BB := also BB bw1
    replace x_n := x_n.on bw1
    refine take_call (i := 2) rfl (by kernel_rfl) (fun Kc hK => ?_)
    go_simp
    (go_at_call 45; refine (rwCmp s s1 d d1 l c l1 c1 z 1099511627776 _ hz r1 FZ.out few40 G1.out).mono ?_; rintro e w2 ⟨rfl, bw2⟩)
    refine hK.out _ _ ?_ (fun hHeld => ?_)
    · first | exact ⟨x_n.c0, x_n.c1, BB⟩ | exact ⟨cell_on bw2 hHeld.1, cell_on bw2 hHeld.2.1, also hHeld.2.2 bw2⟩ | exact ⟨cell_on bw1 hHeld.1, cell_on bw1 hHeld.2.1, also hHeld.2.2 bw1⟩
    clear hK Kc
    have zbw2 := bw2.size
    replace hz := hz.below bw2
    replace BB := also BB bw2
    replace x_n := x_n.on bw2
    replace r1 := r1.below bw2
    refine take_yes (i := 3) (v := ?va3) rfl (by kernel_rfl) (by kernel_rfl) (by kernel_rfl) (fun _ _ _ h => h) (by rfl) (by assumption) ?hya3 ?resta3
    case hya3 => (intro w hSw; (try dsimp only at hSw); first | (go_simp; done) | (go_simp; with_reducible rfl))
    simp only [Act.put, List.setIfInBounds_toArray, List.set_cons_zero, List.set_cons_succ]
    refine take_yes (i := 4) (v := ?va4) rfl (by kernel_rfl) (by kernel_rfl) (by kernel_rfl) (fun _ _ _ h => h) (by rfl) (by assumption) ?hya4 ?resta4
    case hya4 => (intro w hSw; (try dsimp only at hSw); first | (go_simp; done) | (go_simp; with_reducible rfl))
    simp only [Act.put, List.setIfInBounds_toArray, List.set_cons_zero, List.set_cons_succ]
    refine take_no (i := 5) rfl (by kernel_rfl) (by kernel_rfl) (by kernel_rfl) (fun _ _ _ h => h) (by rfl) (by assumption) ?_
    simp only [Act.put, List.setIfInBounds_toArray, List.set_cons_zero, List.set_cons_succ]
    refine take_no (i := 6) rfl (by kernel_rfl) (by kernel_rfl) (by kernel_rfl) (fun _ _ _ h => h) (by rfl) (by assumption) ?_
    simp only [Act.put, List.setIfInBounds_toArray, List.set_cons_zero, List.set_cons_succ]
    refine take_no (i := 7) rfl (by kernel_rfl) (by kernel_rfl) (by kernel_rfl) (fun _ _ _ h => h) (by rfl) (by assumption) ?_
    simp only [Act.put, List.setIfInBounds_toArray, List.set_cons_zero, List.set_cons_succ]
    refine take_no (i := 8) rfl (by kernel_rfl) (by kernel_rfl) (by kernel_rfl) (fun _ _ _ h => h) (by rfl) (by assumption) ?_
    simp only [Act.put, List.setIfInBounds_toArray, List.set_cons_zero, List.set_cons_succ]
    refine take_yes (i := 9) (v := ?va9) rfl (by kernel_rfl) (by kernel_rfl) (by kernel_rfl) (fun _ _ _ h => h) (by rfl) (by assumption) ?hya9 ?resta9
    case hya9 => (intro w hSw; (try dsimp only at hSw); first | (go_simp; done) | (go_simp; with_reducible rfl))
    simp only [Act.put, List.setIfInBounds_toArray, List.set_cons_zero, List.set_cons_succ]
    refine take_yes (i := 10) (v := ?va10) rfl (by kernel_rfl) (by kernel_rfl) (by kernel_rfl) (fun _ _ _ h => h) (by rfl) (by assumption) ?hya10 ?resta10
    case hya10 => (intro w hSw; (try dsimp only at hSw); first | (go_simp; done) | (go_simp; with_reducible rfl))
    simp only [Act.put, List.setIfInBounds_toArray, List.set_cons_zero, List.set_cons_succ]
    refine wpAnyH_done (by kernel_rfl) ?_ _
    go_wp2
    go_ret
    exact ⟨rfl, BB⟩
  · skip
    have e1 : (g1 ≤ 0) = True := by rw [hg1]; rcases sign_cases (z - 1099511627776) with ⟨q, s⟩ | ⟨q, s⟩ | ⟨q, s⟩ <;> rw [s] <;> first | decide | omega
    have e2 : decide (0 ≤ g2) = b := by rw [hb, hg2]; unfold inC; rcases sign_cases (z - -1099511627776) with ⟨q, s⟩ | ⟨q, s⟩ | ⟨q, s⟩ <;> rw [s] <;> simp <;> omega
    clear hb hg1 hg2 hbig
    go_enter Try.func26, Try.ntmps26
    go_wp2
    rw [← hW]
    clear hW
    have dd1 : Below W.heap.size W W.drew := (Below.refl _ _).drew
    have zdd1 := dd1.size
    replace hz := hz.below dd1
    replace BB := also BB dd1
    replace x_n := x_n.on dd1
    refine wp_region_held_drew (S := (fun w' => w'.cell? ⟨w.heap.size, 0, none⟩ = some (.int .i64 s) ∧ w'.cell? ⟨w.heap.size, 1, none⟩ = some (.slice d l c) ∧ Below w.heap.size w w')) (by kernel_rfl) ?_ (fun hHeld => ?_)
    · first | exact ⟨x_n.c0, x_n.c1, BB⟩ | exact ⟨cell_on bw4 hHeld.1, cell_on bw4 hHeld.2.1, also hHeld.2.2 bw4⟩ | exact ⟨cell_on bw3 hHeld.1, cell_on bw3 hHeld.2.1, also hHeld.2.2 bw3⟩ | exact ⟨cell_on bw2 hHeld.1, cell_on bw2 hHeld.2.1, also hHeld.2.2 bw2⟩ | exact ⟨cell_on bw1 hHeld.1, cell_on bw1 hHeld.2.1, also hHeld.2.2 bw1⟩
    refine take_yes (i := 0) (v := ?vb0) rfl (by kernel_rfl) (by kernel_rfl) (by kernel_rfl) (fun _ _ _ h => h) (by rfl) (by assumption) ?hyb0 ?restb0
    case hyb0 => (intro w hSw; (try dsimp only at hSw); first | (go_simp; done) | (go_simp; with_reducible rfl))
    simp only [Act.put, List.setIfInBounds_toArray, List.set_cons_zero, List.set_cons_succ]
    refine take_call (i := 1) rfl (by kernel_rfl) (fun Kc hK => ?_)
    go_simp
    (go_at_call 27; refine (rwLong 1099511627776 _ (by decide) (by decide)).mono ?_; rintro e w1 ⟨s1, d1, l1, c1, rfl, r1, f1, bw1⟩)
    refine hK.out _ _ ?_ (fun hHeld => ?_)
    · first | exact ⟨x_n.c0, x_n.c1, BB⟩ | exact ⟨cell_on bw4 hHeld.1, cell_on bw4 hHeld.2.1, also hHeld.2.2 bw4⟩ | exact ⟨cell_on bw3 hHeld.1, cell_on bw3 hHeld.2.1, also hHeld.2.2 bw3⟩ | exact ⟨cell_on bw2 hHeld.1, cell_on bw2 hHeld.2.1, also hHeld.2.2 bw2⟩ | exact ⟨cell_on bw1 hHeld.1, cell_on bw1 hHeld.2.1, also hHeld.2.2 bw1⟩
    clear hK Kc
    have zbw1 := bw1.size
    replace hz := hz.below bw1
    replace BB := also BB bw1
    replace x_n := x_n.on bw1
    refine take_call (i := 2) rfl (by kernel_rfl) (fun Kc hK => ?_)
    go_simp
    (go_at_call 45; refine (rwCmp s s1 d d1 l c l1 c1 z 1099511627776 _ hz r1 FZ.out few40 G1.out).mono ?_; rintro e w2 ⟨rfl, bw2⟩)
    refine hK.out _ _ ?_ (fun hHeld => ?_)
    · first | exact ⟨x_n.c0, x_n.c1, BB⟩ | exact ⟨cell_on bw4 hHeld.1, cell_on bw4 hHeld.2.1, also hHeld.2.2 bw4⟩ | exact ⟨cell_on bw3 hHeld.1, cell_on bw3 hHeld.2.1, also hHeld.2.2 bw3⟩ | exact ⟨cell_on bw2 hHeld.1, cell_on bw2 hHeld.2.1, also hHeld.2.2 bw2⟩ | exact ⟨cell_on bw1 hHeld.1, cell_on bw1 hHeld.2.1, also hHeld.2.2 bw1⟩
    clear hK Kc
    have zbw2 := bw2.size
    replace hz := hz.below bw2
    replace BB := also BB bw2
    replace x_n := x_n.on bw2
    replace r1 := r1.below bw2
    refine take_yes (i := 3) (v := ?vb3) rfl (by kernel_rfl) (by kernel_rfl) (by kernel_rfl) (fun _ _ _ h => h) (by rfl) (by assumption) ?hyb3 ?restb3
    case hyb3 => (intro w hSw; (try dsimp only at hSw); first | (go_simp; done) | (go_simp; with_reducible rfl))
    simp only [Act.put, List.setIfInBounds_toArray, List.set_cons_zero, List.set_cons_succ]
    refine take_yes (i := 4) (v := ?vb4) rfl (by kernel_rfl) (by kernel_rfl) (by kernel_rfl) (fun _ _ _ h => h) (by rfl) (by assumption) ?hyb4 ?restb4
    case hyb4 => (intro w hSw; (try dsimp only at hSw); first | (go_simp; done) | (go_simp; with_reducible rfl))
    simp only [Act.put, List.setIfInBounds_toArray, List.set_cons_zero, List.set_cons_succ]
    refine take_yes (i := 5) (v := ?vb5) rfl (by kernel_rfl) (by kernel_rfl) (by kernel_rfl) (fun _ _ _ h => h) (by rfl) (by assumption) ?hyb5 ?restb5
    case hyb5 => (intro w hSw; (try dsimp only at hSw); first | (go_simp; done) | (go_simp; with_reducible rfl))
    simp only [Act.put, List.setIfInBounds_toArray, List.set_cons_zero, List.set_cons_succ]
    refine take_call (i := 6) rfl (by kernel_rfl) (fun Kc hK => ?_)
    go_simp
    (go_at_call 27; refine (rwLong (-1099511627776) _ (by decide) (by decide)).mono ?_; rintro e w3 ⟨s3, d3, l3, c3, rfl, r3, f3, bw3⟩)
    refine hK.out _ _ ?_ (fun hHeld => ?_)
    · first | exact ⟨x_n.c0, x_n.c1, BB⟩ | exact ⟨cell_on bw4 hHeld.1, cell_on bw4 hHeld.2.1, also hHeld.2.2 bw4⟩ | exact ⟨cell_on bw3 hHeld.1, cell_on bw3 hHeld.2.1, also hHeld.2.2 bw3⟩ | exact ⟨cell_on bw2 hHeld.1, cell_on bw2 hHeld.2.1, also hHeld.2.2 bw2⟩ | exact ⟨cell_on bw1 hHeld.1, cell_on bw1 hHeld.2.1, also hHeld.2.2 bw1⟩
    clear hK Kc
    have zbw3 := bw3.size
    replace hz := hz.below bw3
    replace BB := also BB bw3
    replace x_n := x_n.on bw3
    replace r1 := r1.below bw3
    refine take_call (i := 7) rfl (by kernel_rfl) (fun Kc hK => ?_)
    go_simp
    (go_at_call 45; refine (rwCmp s s3 d d3 l c l3 c3 z (-1099511627776) _ hz r3 FZ.out few40n G2.out).mono ?_; rintro e w4 ⟨rfl, bw4⟩)
    refine hK.out _ _ ?_ (fun hHeld => ?_)
    · first | exact ⟨x_n.c0, x_n.c1, BB⟩ | exact ⟨cell_on bw4 hHeld.1, cell_on bw4 hHeld.2.1, also hHeld.2.2 bw4⟩ | exact ⟨cell_on bw3 hHeld.1, cell_on bw3 hHeld.2.1, also hHeld.2.2 bw3⟩ | exact ⟨cell_on bw2 hHeld.1, cell_on bw2 hHeld.2.1, also hHeld.2.2 bw2⟩ | exact ⟨cell_on bw1 hHeld.1, cell_on bw1 hHeld.2.1, also hHeld.2.2 bw1⟩
    clear hK Kc
    have zbw4 := bw4.size
    replace hz := hz.below bw4
    replace BB := also BB bw4
    replace x_n := x_n.on bw4
    replace r1 := r1.below bw4
    replace r3 := r3.below bw4
    refine take_yes (i := 8) (v := ?vb8) rfl (by kernel_rfl) (by kernel_rfl) (by kernel_rfl) (fun _ _ _ h => h) (by rfl) (by assumption) ?hyb8 ?restb8
    case hyb8 => (intro w hSw; (try dsimp only at hSw); first | (go_simp; done) | (go_simp; with_reducible rfl))
    simp only [Act.put, List.setIfInBounds_toArray, List.set_cons_zero, List.set_cons_succ]
    refine take_yes (i := 9) (v := ?vb9) rfl (by kernel_rfl) (by kernel_rfl) (by kernel_rfl) (fun _ _ _ h => h) (by rfl) (by assumption) ?hyb9 ?restb9
    case hyb9 => (intro w hSw; (try dsimp only at hSw); first | (go_simp; done) | (go_simp; with_reducible rfl))
    simp only [Act.put, List.setIfInBounds_toArray, List.set_cons_zero, List.set_cons_succ]
    refine take_yes (i := 10) (v := ?vb10) rfl (by kernel_rfl) (by kernel_rfl) (by kernel_rfl) (fun _ _ _ h => h) (by rfl) (by assumption) ?hyb10 ?restb10
    case hyb10 => (intro w hSw; (try dsimp only at hSw); first | (go_simp; done) | (go_simp; with_reducible rfl))
    simp only [Act.put, List.setIfInBounds_toArray, List.set_cons_zero, List.set_cons_succ]
    refine wpAnyH_done (by kernel_rfl) ?_ _
    go_wp2
    go_ret
    exact ⟨rfl, BB⟩
set_option maxRecDepth 100000 in
theorem rlCan (x y : Int) (w : World) (hx : -9223372036854775808 ≤ x ∧ x ≤ 9223372036854775807) (hy : -9223372036854775808 ≤ y ∧ y ≤ 9223372036854775807) {b : Bool} (hb : b = canC x y) : Calls Try.prog 13 #[.agg #[.int .i64 x, .int .i64 y]] w fun e w' => e = .returned (.bool b) ∧ Below w.heap.size w w' := by
  subst hb
  unfold canC
  have HX : Hid _ := hx
  have HY : Hid _ := hy
  clear hx hy
  cases hx : inC x
  · skip
    obtain ⟨W, hW, bW, x_p, sW⟩ := bs_2 w (.int .i64 x) (.int .i64 y) 23
    have zbW := bW.size
    have BB := bW
    go_enter Try.func13, Try.ntmps13
    go_wp2_with (go_at_call 27; fail)
    rw [← hW]
    clear hW
    refine (rwLong x W HX.out.1 HX.out.2).mono ?_
    rintro e w1 ⟨s1, d1, l1, c1, rfl, r1, f1, bw1⟩
    have zbw1 := bw1.size
    replace BB := also BB bw1
    replace x_p := x_p.on bw1
    go_wp2_with (go_at_call 26; fail)
    refine (rlIn s1 d1 l1 c1 x w1 r1 (few_i64 HX.out) hx.symm).mono ?_
    rintro e w2 ⟨rfl, bw2⟩
    have zbw2 := bw2.size
    replace BB := also BB bw2
    replace x_p := x_p.on bw2
    replace r1 := r1.below bw2
    have ⟨x_p_0, x_p_1, x_p_2, x_p_3⟩ := x_p
    go_wp2
    go_ret
    exact ⟨by simp, BB⟩
  · skip
    obtain ⟨W, hW, bW, x_p, sW⟩ := bs_2 w (.int .i64 x) (.int .i64 y) 23
    have zbW := bW.size
    have BB := bW
    go_enter Try.func13, Try.ntmps13
    go_wp2_with (go_at_call 27; fail)
    rw [← hW]
    clear hW
    refine (rwLong x W HX.out.1 HX.out.2).mono ?_
    rintro e w1 ⟨s1, d1, l1, c1, rfl, r1, f1, bw1⟩
    have zbw1 := bw1.size
    replace BB := also BB bw1
    replace x_p := x_p.on bw1
    go_wp2_with (go_at_call 26; fail)
    refine (rlIn s1 d1 l1 c1 x w1 r1 (few_i64 HX.out) hx.symm).mono ?_
    rintro e w2 ⟨rfl, bw2⟩
    have zbw2 := bw2.size
    replace BB := also BB bw2
    replace x_p := x_p.on bw2
    replace r1 := r1.below bw2
    have ⟨x_p_0, x_p_1, x_p_2, x_p_3⟩ := x_p
    go_wp2_with (go_at_call 27; fail)
    refine (rwLong y w2 HY.out.1 HY.out.2).mono ?_
    rintro e w3 ⟨s3, d3, l3, c3, rfl, r3, f3, bw3⟩
    clear x_p_0 x_p_1 x_p_2 x_p_3
    have zbw3 := bw3.size
    replace BB := also BB bw3
    replace x_p := x_p.on bw3
    replace r1 := r1.below bw3
    go_wp2_with (go_at_call 26; fail)
    refine (rlIn s3 d3 l3 c3 y w3 r3 (few_i64 HY.out) rfl).mono ?_
    rintro e w4 ⟨rfl, bw4⟩
    have zbw4 := bw4.size
    replace BB := also BB bw4
    replace x_p := x_p.on bw4
    replace r1 := r1.below bw4
    replace r3 := r3.below bw4
    go_wp2
    go_ret
    exact ⟨by simp, BB⟩
end Go.Proofs.Ytnemailhijkemaa
