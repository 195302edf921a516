/-
  WholeParses: which whole number any text is of, and which is of none.
-/
import Derived.Test.YtpkcjgkgabemoaaDoorP6
namespace Go.Proofs.YtpkcjgkgabemoaaDoor
open Go.RowKit
set_option linter.unusedVariables false

theorem neg_is (b : Bool) (N : Nat) (h : ¬ (b = true ∧ N = 0)) : decide (sgz b N < 0) = b := by
  unfold sgz
  cases b
  · simp
  · have : N ≠ 0 := fun e => h ⟨rfl, e⟩
    simp
    omega
namespace wparses
open Go.ChangeShapes Go.WideShapes Go.ChangeAt
open Go.ChangeMaps (open_string shut_string)
set_option maxRecDepth 100000 in
set_option maxHeartbeats 10000000 in
theorem walk (s : ByteArray) (w : World) (hs : s.size ≤ maxLen) :
    Calls Tryd.prog 8 #[.string s] w fun e w' => e = .returned (.bool true) ∧ Below w.heap.size w w' := by
  unfold maxLen at hs
  obtain ⟨u, hu, hu'⟩ : ∃ u : ByteArray, u.size ≤ 300 ∧ u = (if 300 < s.size then s.extract 0 300 else s) := by
    refine ⟨_, ?_, rfl⟩
    split
    · rw [ByteArray.size_extract]; omega
    · omega
  obtain ⟨N, E, fN, hP, hR⟩ := parse_two (behind u) (Nat.le_trans (behind_size u) (by omega))
  have hW : ∀ w, Calls Tryd.prog 35 #[.string u] w (GotZ w (zOf (minus? u) N E).1 (zOf (minus? u) N E).2) := fun w => wParse u N E w (by omega) hP
  have fN' : hf.nlen N ≤ 1000000 := by omega
  have f0 : hf.nlen (0 : Int).natAbs ≤ 1000000 := by rw [show (0 : Int).natAbs = 0 from rfl, hf.nlen_zero]; omega
  have hc1 : ∀ h0 : 0 < u.size, minus? u = ((u[0].toNat : Int) == 45) := fun h0 => by unfold minus?; rw [dif_pos h0]
  have hc0 : u.size = 0 → minus? u = false := fun h0 => by unfold minus?; rw [dif_neg (by omega)]
  have hbt : minus? u = true → behind u = u.extract 1 u.size := fun h => by unfold behind; rw [h]; rfl
  have hbf : minus? u = false → behind u = u := fun h => by unfold behind; rw [h]; rfl
  rcases Nat.lt_or_ge 300 s.size with hl | hl
  · rw [if_pos hl] at hu'
    have hl' : (300 : Int) < (s.size : Int) := by omega
    have HU : Hid _ := hu'
    clear hu'
    rcases Nat.eq_zero_or_pos u.size with h0 | h0
    · have hb := hc0 h0
      have h0' : ¬ (0 : Int) < (u.size : Int) := by omega
      rw [hb] at hW
      rw [hbf hb] at hR
      have HR : Hid _ := hR
      clear hR hP hc1 hc0 hbt hbf hb
      by_cases hE : E = 0
      · subst hE
        have HN : Hid (decide (sgz false N < 0) = false) := neg_is false N (fun h => Bool.noConfusion h.1)
        have hz : zOf false N 0 = (sgz false N, 0) := by unfold zOf; rw [if_neg (by simp), if_neg (fun h => Bool.noConfusion h.1)]
        rw [hz] at hW
        have HW : Hid (∀ w, Calls Tryd.prog 35 #[.string u] w (GotZ w (sgz false N) 0)) := hW
        clear hW hz
        go_enter Tryd.func8, Tryd.ntmps8
        go_wp2_with (go_at_call 35; fail)
        rw [← HU.out]
        refine (show Calls _ _ _ _ (GotZ _ (sgz false N) 0) from HW.out _).mono ?_
        rintro e w1 ⟨n1, a1, l1, c1, rfl, h1, f1, b1⟩
        have x1 := bx_new w1 (.bool n1) (.slice a1 l1 c1) 25
        have d1 : Below w1.heap.size w1 (w1.alloc (.cells #[.bool n1, .slice a1 l1 c1] 25)) := (Below.refl _ _).alloc (Nat.le_refl _) _
        go_wp2_with (go_at_call 37; fail)
        refine (show Calls _ _ _ _ (GotHP _ N 0) from HR.out _).mono ?_
        rintro e w2 ⟨d, l, c, rfl, hd, b2⟩
        obtain ⟨k0, k1, k2, k3⟩ := x1.on b2
        obtain rfl : n1 = false := by rw [h1.sg]; exact HN.out
        have hnd := (h1.nd.below d1).below b2
        rw [sgz_abs] at hnd
        go_wp2_with (go_at_call 38; fail)
        refine (hSame a1 d l1 l c1 c N _ hnd.sl hnd.len hd fN').mono ?_
        rintro e w3 ⟨rfl, b3⟩
        obtain ⟨k0, k1, k2, k3⟩ := (x1.on b2).on b3
        go_wp2_with (go_at_call 21; refine (lives4_any _).mono ?_; rintro e w9 ⟨rfl, b9⟩)
        go_ret
        exact ⟨rfl, also (also (also (also b1 d1) b2) b3) b9⟩
      · have hz : zOf false N E = (0, E) := by unfold zOf; rw [if_pos hE]
        rw [hz] at hW
        have HW : Hid (∀ w, Calls Tryd.prog 35 #[.string u] w (GotZ w 0 E)) := hW
        clear hW hz
        go_enter Tryd.func8, Tryd.ntmps8
        go_wp2_with (go_at_call 35; fail)
        rw [← HU.out]
        refine (show Calls _ _ _ _ (GotZ _ 0 E) from HW.out _).mono ?_
        rintro e w1 ⟨n1, a1, l1, c1, rfl, h1, f1, b1⟩
        have x1 := bx_new w1 (.bool n1) (.slice a1 l1 c1) 25
        have d1 : Below w1.heap.size w1 (w1.alloc (.cells #[.bool n1, .slice a1 l1 c1] 25)) := (Below.refl _ _).alloc (Nat.le_refl _) _
        go_wp2_with (go_at_call 37; fail)
        refine (show Calls _ _ _ _ (GotHP _ N E) from HR.out _).mono ?_
        rintro e w2 ⟨d, l, c, rfl, hd, b2⟩
        obtain ⟨k0, k1, k2, k3⟩ := x1.on b2
        go_wp2_with (go_at_call 11; fail)
        refine (rwSame n1 0 a1 none l1 c1 0 0 0 _ ((h1.below d1).below b2) (rn_zero _ 0) f0).mono ?_
        rintro e w3 ⟨rfl, b3⟩
        go_wp2_with (go_at_call 21; refine (lives4_any _).mono ?_; rintro e w9 ⟨rfl, b9⟩)
        go_ret
        exact ⟨rfl, also (also (also (also b1 d1) b2) b3) b9⟩
    · have h0' : (0 : Int) < (u.size : Int) := by omega
      have hq := hc1 h0
      rcases hb : minus? u with _ | _
      · rw [hb] at hq
        replace hq := hq.symm
        rw [hb] at hW
        rw [hbf hb] at hR
        have HR : Hid _ := hR
        clear hR hP hc1 hc0 hbt hbf hb
        by_cases hE : E = 0
        · subst hE
          have HN : Hid (decide (sgz false N < 0) = false) := neg_is false N (fun h => Bool.noConfusion h.1)
          have hz : zOf false N 0 = (sgz false N, 0) := by unfold zOf; rw [if_neg (by simp), if_neg (fun h => Bool.noConfusion h.1)]
          rw [hz] at hW
          have HW : Hid (∀ w, Calls Tryd.prog 35 #[.string u] w (GotZ w (sgz false N) 0)) := hW
          clear hW hz
          go_enter Tryd.func8, Tryd.ntmps8
          go_wp2_with (go_at_call 35; fail)
          rw [← HU.out]
          refine (show Calls _ _ _ _ (GotZ _ (sgz false N) 0) from HW.out _).mono ?_
          rintro e w1 ⟨n1, a1, l1, c1, rfl, h1, f1, b1⟩
          have x1 := bx_new w1 (.bool n1) (.slice a1 l1 c1) 25
          have d1 : Below w1.heap.size w1 (w1.alloc (.cells #[.bool n1, .slice a1 l1 c1] 25)) := (Below.refl _ _).alloc (Nat.le_refl _) _
          go_wp2_with (go_at_call 37; fail)
          refine (show Calls _ _ _ _ (GotHP _ N 0) from HR.out _).mono ?_
          rintro e w2 ⟨d, l, c, rfl, hd, b2⟩
          obtain ⟨k0, k1, k2, k3⟩ := x1.on b2
          obtain rfl : n1 = false := by rw [h1.sg]; exact HN.out
          have hnd := (h1.nd.below d1).below b2
          rw [sgz_abs] at hnd
          go_wp2_with (go_at_call 38; fail)
          refine (hSame a1 d l1 l c1 c N _ hnd.sl hnd.len hd fN').mono ?_
          rintro e w3 ⟨rfl, b3⟩
          obtain ⟨k0, k1, k2, k3⟩ := (x1.on b2).on b3
          go_wp2_with (go_at_call 21; refine (lives4_any _).mono ?_; rintro e w9 ⟨rfl, b9⟩)
          go_ret
          exact ⟨rfl, also (also (also (also b1 d1) b2) b3) b9⟩
        · have hz : zOf false N E = (0, E) := by unfold zOf; rw [if_pos hE]
          rw [hz] at hW
          have HW : Hid (∀ w, Calls Tryd.prog 35 #[.string u] w (GotZ w 0 E)) := hW
          clear hW hz
          go_enter Tryd.func8, Tryd.ntmps8
          go_wp2_with (go_at_call 35; fail)
          rw [← HU.out]
          refine (show Calls _ _ _ _ (GotZ _ 0 E) from HW.out _).mono ?_
          rintro e w1 ⟨n1, a1, l1, c1, rfl, h1, f1, b1⟩
          have x1 := bx_new w1 (.bool n1) (.slice a1 l1 c1) 25
          have d1 : Below w1.heap.size w1 (w1.alloc (.cells #[.bool n1, .slice a1 l1 c1] 25)) := (Below.refl _ _).alloc (Nat.le_refl _) _
          go_wp2_with (go_at_call 37; fail)
          refine (show Calls _ _ _ _ (GotHP _ N E) from HR.out _).mono ?_
          rintro e w2 ⟨d, l, c, rfl, hd, b2⟩
          obtain ⟨k0, k1, k2, k3⟩ := x1.on b2
          go_wp2_with (go_at_call 11; fail)
          refine (rwSame n1 0 a1 none l1 c1 0 0 0 _ ((h1.below d1).below b2) (rn_zero _ 0) f0).mono ?_
          rintro e w3 ⟨rfl, b3⟩
          go_wp2_with (go_at_call 21; refine (lives4_any _).mono ?_; rintro e w9 ⟨rfl, b9⟩)
          go_ret
          exact ⟨rfl, also (also (also (also b1 d1) b2) b3) b9⟩
      · rw [hb] at hq
        replace hq := hq.symm
        rw [hb] at hW
        rw [hbt hb] at hR
        have HR : Hid _ := hR
        clear hR hP hc1 hc0 hbt hbf hb
        by_cases hE : E = 0
        · subst hE
          by_cases hN : N = 0
          · subst hN
            have HW : Hid (∀ w, Calls Tryd.prog 35 #[.string u] w (GotZ w 0 4)) := hW
            clear hW
            go_enter Tryd.func8, Tryd.ntmps8
            go_wp2_with (go_at_call 35; fail)
            rw [← HU.out]
            refine (show Calls _ _ _ _ (GotZ _ 0 4) from HW.out _).mono ?_
            rintro e w1 ⟨n1, a1, l1, c1, rfl, h1, f1, b1⟩
            have x1 := bx_new w1 (.bool n1) (.slice a1 l1 c1) 25
            have d1 : Below w1.heap.size w1 (w1.alloc (.cells #[.bool n1, .slice a1 l1 c1] 25)) := (Below.refl _ _).alloc (Nat.le_refl _) _
            go_wp2_with (go_at_call 37; fail)
            refine (show Calls _ _ _ _ (GotHP _ 0 0) from HR.out _).mono ?_
            rintro e w2 ⟨d, l, c, rfl, hd, b2⟩
            obtain ⟨k0, k1, k2, k3⟩ := x1.on b2
            obtain rfl : l = 0 := hd.pos.2 rfl
            go_wp2_with (go_at_call 11; fail)
            refine (rwSame n1 0 a1 none l1 c1 0 0 0 _ ((h1.below d1).below b2) (rn_zero _ 0) f0).mono ?_
            rintro e w3 ⟨rfl, b3⟩
            go_wp2_with (go_at_call 21; refine (lives4_any _).mono ?_; rintro e w9 ⟨rfl, b9⟩)
            go_ret
            exact ⟨rfl, also (also (also (also b1 d1) b2) b3) b9⟩
          · have HN : Hid (decide (sgz true N < 0) = true) := neg_is true N (fun h => hN h.2)
            have hz : zOf true N 0 = (sgz true N, 0) := by unfold zOf; rw [if_neg (by simp), if_neg (fun h => hN h.2)]
            rw [hz] at hW
            have HW : Hid (∀ w, Calls Tryd.prog 35 #[.string u] w (GotZ w (sgz true N) 0)) := hW
            clear hW hz
            go_enter Tryd.func8, Tryd.ntmps8
            go_wp2_with (go_at_call 35; fail)
            rw [← HU.out]
            refine (show Calls _ _ _ _ (GotZ _ (sgz true N) 0) from HW.out _).mono ?_
            rintro e w1 ⟨n1, a1, l1, c1, rfl, h1, f1, b1⟩
            have x1 := bx_new w1 (.bool n1) (.slice a1 l1 c1) 25
            have d1 : Below w1.heap.size w1 (w1.alloc (.cells #[.bool n1, .slice a1 l1 c1] 25)) := (Below.refl _ _).alloc (Nat.le_refl _) _
            go_wp2_with (go_at_call 37; fail)
            refine (show Calls _ _ _ _ (GotHP _ N 0) from HR.out _).mono ?_
            rintro e w2 ⟨d, l, c, rfl, hd, b2⟩
            obtain ⟨k0, k1, k2, k3⟩ := x1.on b2
            obtain rfl : n1 = true := by rw [h1.sg]; exact HN.out
            have hl0 : ¬ (l : Int) = 0 := by have := hd.pos; omega
            have hnd := (h1.nd.below d1).below b2
            rw [sgz_abs] at hnd
            go_wp2_with (go_at_call 38; fail)
            refine (hSame a1 d l1 l c1 c N _ hnd.sl hnd.len hd fN').mono ?_
            rintro e w3 ⟨rfl, b3⟩
            obtain ⟨k0, k1, k2, k3⟩ := (x1.on b2).on b3
            go_wp2_with (go_at_call 21; refine (lives4_any _).mono ?_; rintro e w9 ⟨rfl, b9⟩)
            go_ret
            exact ⟨rfl, also (also (also (also b1 d1) b2) b3) b9⟩
        · have hz : zOf true N E = (0, E) := by unfold zOf; rw [if_pos hE]
          rw [hz] at hW
          have HW : Hid (∀ w, Calls Tryd.prog 35 #[.string u] w (GotZ w 0 E)) := hW
          clear hW hz
          go_enter Tryd.func8, Tryd.ntmps8
          go_wp2_with (go_at_call 35; fail)
          rw [← HU.out]
          refine (show Calls _ _ _ _ (GotZ _ 0 E) from HW.out _).mono ?_
          rintro e w1 ⟨n1, a1, l1, c1, rfl, h1, f1, b1⟩
          have x1 := bx_new w1 (.bool n1) (.slice a1 l1 c1) 25
          have d1 : Below w1.heap.size w1 (w1.alloc (.cells #[.bool n1, .slice a1 l1 c1] 25)) := (Below.refl _ _).alloc (Nat.le_refl _) _
          go_wp2_with (go_at_call 37; fail)
          refine (show Calls _ _ _ _ (GotHP _ N E) from HR.out _).mono ?_
          rintro e w2 ⟨d, l, c, rfl, hd, b2⟩
          obtain ⟨k0, k1, k2, k3⟩ := x1.on b2
          go_wp2_with (go_at_call 11; fail)
          refine (rwSame n1 0 a1 none l1 c1 0 0 0 _ ((h1.below d1).below b2) (rn_zero _ 0) f0).mono ?_
          rintro e w3 ⟨rfl, b3⟩
          go_wp2_with (go_at_call 21; refine (lives4_any _).mono ?_; rintro e w9 ⟨rfl, b9⟩)
          go_ret
          exact ⟨rfl, also (also (also (also b1 d1) b2) b3) b9⟩
  · rw [if_neg (by omega)] at hu'
    have hl' : ¬ (300 : Int) < (s.size : Int) := by omega
    subst hu'
    rcases Nat.eq_zero_or_pos u.size with h0 | h0
    · have hb := hc0 h0
      have h0' : ¬ (0 : Int) < (u.size : Int) := by omega
      rw [hb] at hW
      rw [hbf hb] at hR
      have HR : Hid _ := hR
      clear hR hP hc1 hc0 hbt hbf hb
      by_cases hE : E = 0
      · subst hE
        have HN : Hid (decide (sgz false N < 0) = false) := neg_is false N (fun h => Bool.noConfusion h.1)
        have hz : zOf false N 0 = (sgz false N, 0) := by unfold zOf; rw [if_neg (by simp), if_neg (fun h => Bool.noConfusion h.1)]
        rw [hz] at hW
        have HW : Hid (∀ w, Calls Tryd.prog 35 #[.string u] w (GotZ w (sgz false N) 0)) := hW
        clear hW hz
        go_enter Tryd.func8, Tryd.ntmps8
        go_wp2_with (go_at_call 35; fail)
        refine (show Calls _ _ _ _ (GotZ _ (sgz false N) 0) from HW.out _).mono ?_
        rintro e w1 ⟨n1, a1, l1, c1, rfl, h1, f1, b1⟩
        have x1 := bx_new w1 (.bool n1) (.slice a1 l1 c1) 25
        have d1 : Below w1.heap.size w1 (w1.alloc (.cells #[.bool n1, .slice a1 l1 c1] 25)) := (Below.refl _ _).alloc (Nat.le_refl _) _
        go_wp2_with (go_at_call 37; fail)
        refine (show Calls _ _ _ _ (GotHP _ N 0) from HR.out _).mono ?_
        rintro e w2 ⟨d, l, c, rfl, hd, b2⟩
        obtain ⟨k0, k1, k2, k3⟩ := x1.on b2
        obtain rfl : n1 = false := by rw [h1.sg]; exact HN.out
        have hnd := (h1.nd.below d1).below b2
        rw [sgz_abs] at hnd
        go_wp2_with (go_at_call 38; fail)
        refine (hSame a1 d l1 l c1 c N _ hnd.sl hnd.len hd fN').mono ?_
        rintro e w3 ⟨rfl, b3⟩
        obtain ⟨k0, k1, k2, k3⟩ := (x1.on b2).on b3
        go_wp2_with (go_at_call 21; refine (lives4_any _).mono ?_; rintro e w9 ⟨rfl, b9⟩)
        go_ret
        exact ⟨rfl, also (also (also (also b1 d1) b2) b3) b9⟩
      · have hz : zOf false N E = (0, E) := by unfold zOf; rw [if_pos hE]
        rw [hz] at hW
        have HW : Hid (∀ w, Calls Tryd.prog 35 #[.string u] w (GotZ w 0 E)) := hW
        clear hW hz
        go_enter Tryd.func8, Tryd.ntmps8
        go_wp2_with (go_at_call 35; fail)
        refine (show Calls _ _ _ _ (GotZ _ 0 E) from HW.out _).mono ?_
        rintro e w1 ⟨n1, a1, l1, c1, rfl, h1, f1, b1⟩
        have x1 := bx_new w1 (.bool n1) (.slice a1 l1 c1) 25
        have d1 : Below w1.heap.size w1 (w1.alloc (.cells #[.bool n1, .slice a1 l1 c1] 25)) := (Below.refl _ _).alloc (Nat.le_refl _) _
        go_wp2_with (go_at_call 37; fail)
        refine (show Calls _ _ _ _ (GotHP _ N E) from HR.out _).mono ?_
        rintro e w2 ⟨d, l, c, rfl, hd, b2⟩
        obtain ⟨k0, k1, k2, k3⟩ := x1.on b2
        go_wp2_with (go_at_call 11; fail)
        refine (rwSame n1 0 a1 none l1 c1 0 0 0 _ ((h1.below d1).below b2) (rn_zero _ 0) f0).mono ?_
        rintro e w3 ⟨rfl, b3⟩
        go_wp2_with (go_at_call 21; refine (lives4_any _).mono ?_; rintro e w9 ⟨rfl, b9⟩)
        go_ret
        exact ⟨rfl, also (also (also (also b1 d1) b2) b3) b9⟩
    · have h0' : (0 : Int) < (u.size : Int) := by omega
      have hq := hc1 h0
      rcases hb : minus? u with _ | _
      · rw [hb] at hq
        replace hq := hq.symm
        rw [hb] at hW
        rw [hbf hb] at hR
        have HR : Hid _ := hR
        clear hR hP hc1 hc0 hbt hbf hb
        by_cases hE : E = 0
        · subst hE
          have HN : Hid (decide (sgz false N < 0) = false) := neg_is false N (fun h => Bool.noConfusion h.1)
          have hz : zOf false N 0 = (sgz false N, 0) := by unfold zOf; rw [if_neg (by simp), if_neg (fun h => Bool.noConfusion h.1)]
          rw [hz] at hW
          have HW : Hid (∀ w, Calls Tryd.prog 35 #[.string u] w (GotZ w (sgz false N) 0)) := hW
          clear hW hz
          go_enter Tryd.func8, Tryd.ntmps8
          go_wp2_with (go_at_call 35; fail)
          refine (show Calls _ _ _ _ (GotZ _ (sgz false N) 0) from HW.out _).mono ?_
          rintro e w1 ⟨n1, a1, l1, c1, rfl, h1, f1, b1⟩
          have x1 := bx_new w1 (.bool n1) (.slice a1 l1 c1) 25
          have d1 : Below w1.heap.size w1 (w1.alloc (.cells #[.bool n1, .slice a1 l1 c1] 25)) := (Below.refl _ _).alloc (Nat.le_refl _) _
          go_wp2_with (go_at_call 37; fail)
          refine (show Calls _ _ _ _ (GotHP _ N 0) from HR.out _).mono ?_
          rintro e w2 ⟨d, l, c, rfl, hd, b2⟩
          obtain ⟨k0, k1, k2, k3⟩ := x1.on b2
          obtain rfl : n1 = false := by rw [h1.sg]; exact HN.out
          have hnd := (h1.nd.below d1).below b2
          rw [sgz_abs] at hnd
          go_wp2_with (go_at_call 38; fail)
          refine (hSame a1 d l1 l c1 c N _ hnd.sl hnd.len hd fN').mono ?_
          rintro e w3 ⟨rfl, b3⟩
          obtain ⟨k0, k1, k2, k3⟩ := (x1.on b2).on b3
          go_wp2_with (go_at_call 21; refine (lives4_any _).mono ?_; rintro e w9 ⟨rfl, b9⟩)
          go_ret
          exact ⟨rfl, also (also (also (also b1 d1) b2) b3) b9⟩
        · have hz : zOf false N E = (0, E) := by unfold zOf; rw [if_pos hE]
          rw [hz] at hW
          have HW : Hid (∀ w, Calls Tryd.prog 35 #[.string u] w (GotZ w 0 E)) := hW
          clear hW hz
          go_enter Tryd.func8, Tryd.ntmps8
          go_wp2_with (go_at_call 35; fail)
          refine (show Calls _ _ _ _ (GotZ _ 0 E) from HW.out _).mono ?_
          rintro e w1 ⟨n1, a1, l1, c1, rfl, h1, f1, b1⟩
          have x1 := bx_new w1 (.bool n1) (.slice a1 l1 c1) 25
          have d1 : Below w1.heap.size w1 (w1.alloc (.cells #[.bool n1, .slice a1 l1 c1] 25)) := (Below.refl _ _).alloc (Nat.le_refl _) _
          go_wp2_with (go_at_call 37; fail)
          refine (show Calls _ _ _ _ (GotHP _ N E) from HR.out _).mono ?_
          rintro e w2 ⟨d, l, c, rfl, hd, b2⟩
          obtain ⟨k0, k1, k2, k3⟩ := x1.on b2
          go_wp2_with (go_at_call 11; fail)
          refine (rwSame n1 0 a1 none l1 c1 0 0 0 _ ((h1.below d1).below b2) (rn_zero _ 0) f0).mono ?_
          rintro e w3 ⟨rfl, b3⟩
          go_wp2_with (go_at_call 21; refine (lives4_any _).mono ?_; rintro e w9 ⟨rfl, b9⟩)
          go_ret
          exact ⟨rfl, also (also (also (also b1 d1) b2) b3) b9⟩
      · rw [hb] at hq
        replace hq := hq.symm
        rw [hb] at hW
        rw [hbt hb] at hR
        have HR : Hid _ := hR
        clear hR hP hc1 hc0 hbt hbf hb
        by_cases hE : E = 0
        · subst hE
          by_cases hN : N = 0
          · subst hN
            have HW : Hid (∀ w, Calls Tryd.prog 35 #[.string u] w (GotZ w 0 4)) := hW
            clear hW
            go_enter Tryd.func8, Tryd.ntmps8
            go_wp2_with (go_at_call 35; fail)
            refine (show Calls _ _ _ _ (GotZ _ 0 4) from HW.out _).mono ?_
            rintro e w1 ⟨n1, a1, l1, c1, rfl, h1, f1, b1⟩
            have x1 := bx_new w1 (.bool n1) (.slice a1 l1 c1) 25
            have d1 : Below w1.heap.size w1 (w1.alloc (.cells #[.bool n1, .slice a1 l1 c1] 25)) := (Below.refl _ _).alloc (Nat.le_refl _) _
            go_wp2_with (go_at_call 37; fail)
            refine (show Calls _ _ _ _ (GotHP _ 0 0) from HR.out _).mono ?_
            rintro e w2 ⟨d, l, c, rfl, hd, b2⟩
            obtain ⟨k0, k1, k2, k3⟩ := x1.on b2
            obtain rfl : l = 0 := hd.pos.2 rfl
            go_wp2_with (go_at_call 11; fail)
            refine (rwSame n1 0 a1 none l1 c1 0 0 0 _ ((h1.below d1).below b2) (rn_zero _ 0) f0).mono ?_
            rintro e w3 ⟨rfl, b3⟩
            go_wp2_with (go_at_call 21; refine (lives4_any _).mono ?_; rintro e w9 ⟨rfl, b9⟩)
            go_ret
            exact ⟨rfl, also (also (also (also b1 d1) b2) b3) b9⟩
          · have HN : Hid (decide (sgz true N < 0) = true) := neg_is true N (fun h => hN h.2)
            have hz : zOf true N 0 = (sgz true N, 0) := by unfold zOf; rw [if_neg (by simp), if_neg (fun h => hN h.2)]
            rw [hz] at hW
            have HW : Hid (∀ w, Calls Tryd.prog 35 #[.string u] w (GotZ w (sgz true N) 0)) := hW
            clear hW hz
            go_enter Tryd.func8, Tryd.ntmps8
            go_wp2_with (go_at_call 35; fail)
            refine (show Calls _ _ _ _ (GotZ _ (sgz true N) 0) from HW.out _).mono ?_
            rintro e w1 ⟨n1, a1, l1, c1, rfl, h1, f1, b1⟩
            have x1 := bx_new w1 (.bool n1) (.slice a1 l1 c1) 25
            have d1 : Below w1.heap.size w1 (w1.alloc (.cells #[.bool n1, .slice a1 l1 c1] 25)) := (Below.refl _ _).alloc (Nat.le_refl _) _
            go_wp2_with (go_at_call 37; fail)
            refine (show Calls _ _ _ _ (GotHP _ N 0) from HR.out _).mono ?_
            rintro e w2 ⟨d, l, c, rfl, hd, b2⟩
            obtain ⟨k0, k1, k2, k3⟩ := x1.on b2
            obtain rfl : n1 = true := by rw [h1.sg]; exact HN.out
            have hl0 : ¬ (l : Int) = 0 := by have := hd.pos; omega
            have hnd := (h1.nd.below d1).below b2
            rw [sgz_abs] at hnd
            go_wp2_with (go_at_call 38; fail)
            refine (hSame a1 d l1 l c1 c N _ hnd.sl hnd.len hd fN').mono ?_
            rintro e w3 ⟨rfl, b3⟩
            obtain ⟨k0, k1, k2, k3⟩ := (x1.on b2).on b3
            go_wp2_with (go_at_call 21; refine (lives4_any _).mono ?_; rintro e w9 ⟨rfl, b9⟩)
            go_ret
            exact ⟨rfl, also (also (also (also b1 d1) b2) b3) b9⟩
        · have hz : zOf true N E = (0, E) := by unfold zOf; rw [if_pos hE]
          rw [hz] at hW
          have HW : Hid (∀ w, Calls Tryd.prog 35 #[.string u] w (GotZ w 0 E)) := hW
          clear hW hz
          go_enter Tryd.func8, Tryd.ntmps8
          go_wp2_with (go_at_call 35; fail)
          refine (show Calls _ _ _ _ (GotZ _ 0 E) from HW.out _).mono ?_
          rintro e w1 ⟨n1, a1, l1, c1, rfl, h1, f1, b1⟩
          have x1 := bx_new w1 (.bool n1) (.slice a1 l1 c1) 25
          have d1 : Below w1.heap.size w1 (w1.alloc (.cells #[.bool n1, .slice a1 l1 c1] 25)) := (Below.refl _ _).alloc (Nat.le_refl _) _
          go_wp2_with (go_at_call 37; fail)
          refine (show Calls _ _ _ _ (GotHP _ N E) from HR.out _).mono ?_
          rintro e w2 ⟨d, l, c, rfl, hd, b2⟩
          obtain ⟨k0, k1, k2, k3⟩ := x1.on b2
          go_wp2_with (go_at_call 11; fail)
          refine (rwSame n1 0 a1 none l1 c1 0 0 0 _ ((h1.below d1).below b2) (rn_zero _ 0) f0).mono ?_
          rintro e w3 ⟨rfl, b3⟩
          go_wp2_with (go_at_call 21; refine (lives4_any _).mono ?_; rintro e w9 ⟨rfl, b9⟩)
          go_ret
          exact ⟨rfl, also (also (also (also b1 d1) b2) b3) b9⟩
theorem own : ownKnob Tryd.prog.godebug = none := by kernel_rfl
set_option maxRecDepth 100000 in
theorem lifted (os : Os) (started : os.Started) (H : Type) (enc : TypeId × Value → H) :
    ReturnsInHanded {} Tryd.checked os 8 .any (fun w args => (Rows.wholeParsesSpec.pre enc Tryd.prog Tryd.f8 [] false w args ∧ laidMetH Tryd.prog Rows.wholeParsesRow.laid w) ∧ sizedMet enc Tryd.prog Tryd.f8 (OpenSpec.ofChange Rows.wholeParsesSpec) false w args)
      (Rows.wholeParsesSpec.post enc Tryd.prog Tryd.f8 false true false false) := by
  refine returnsInHanded_of_change_and (C := Tryd.checked) (X := fun w _ => laidMetH Tryd.prog Rows.wholeParsesRow.laid w) (fun _ _ _ hh h => h.of_heap hh) own started (by kernel_rfl) Tryd.func8
    (ChangeSpec.witness_shaped (enc := enc) (C := Tryd.checked) (os := os) (X := fun w _ => laidMetH Tryd.prog Rows.wholeParsesRow.laid w) false (World.laidAll Tryd.prog os Rows.wholeParsesRow.laid) #[.string ByteArray.empty] 8 (World.laidAll_os _ _ _)
      (World.shaped_of_ZipB (by kernel_rfl) (by kernel_rfl)) (by kernel_rfl) (by kernel_rfl) (by kernel_rfl)
      (by rw [MakeChecks.laidMetH_plain _ _ _ (by kernel_rfl)]; exact laidMet_laidAll _ (by kernel_rfl) (by kernel_rfl))) ?_
  intro W base args ds gs before hval0 hW _ _ hL _
  have hval : ∀ (j : Nat) t v, Tryd.f8.params[j]? = some t → args[j]? = some v → Value.okWide Tryd.prog W .any base t v := hval0
  have hW' := hW
  obtain ⟨p, q, hA0, hV, rfl, hfz, hnd⟩ := hW
  have hA : DataW.TrodAll enc Tryd.prog W 0 (fun _ => true) true Tryd.f8.params.toList args.toList ds p := hA0
  rw [Tryd.params8] at hA hval
  obtain ⟨v0, vs0, d0, ds0, p0, q0, hargs, rfl, rfl, h0, r0⟩ := trodAll_cons hA
  obtain ⟨rfl, rfl, rfl⟩ := trodAll_nil r0
  obtain rfl : args = #[v0] := by cases args; simp_all
  obtain ⟨rfl, rfl⟩ := trodVars_none hV
  have hlt : ∀ x ∈ p0, x.block < W.heap.size := fun x hx => by simpa using hW'.lt x (by simpa using hx)
  obtain ⟨a0, rfl, rfl, rfl, w0⟩ := open_string Tryd.underlying9 (hval 0 9 v0 rfl rfl) h0
  clear hA0 hval0
  refine (walk a0 W w0).mono fun e W' ⟨he, bel⟩ => ?_
  subst he
  exact ⟨_, rfl, _, _, _, [], _, [], hW', trodAll_mk1 (shut_bool Tryd.underlying4 _), (trodAll_cons_mk (shut_string Tryd.underlying9 w0) trodAll_mk0), rfl, bel.frame _, fun h => by cases h⟩

theorem said : Rows.WholeParsesSaid :=
  OpenClaim.holds_of_wide 8 Tryd.f8 rfl rfl rfl rfl rfl rfl rfl ⟨rfl, rfl, rfl, rfl, rfl⟩ rfl rfl rfl rfl rfl (by kernel_rfl) Tryd.func8 (by kernel_rfl)
    (of_decide_eq_true (by kernel_rfl)) (by unfold Func.isWrapper; first | (rw [if_pos (by decide +kernel)]; kernel_rfl) | (rw [if_neg (by decide +kernel)]; exact ⟨rfl, rfl⟩))
    (fun os started H enc _ => lifted os started H enc)
/-- The program's own looks are off, and no parameter wants a stand-in: what the card asks. -/
theorem plain (f : FuncId) (fn : Func) (hf : Tryd.pinned.checked.prog.funcNamed "zellige/zelligelaw04.WholeParses" = some f) (hfn : Tryd.pinned.checked.prog.funcs[f]? = some fn) :
    false = Tryd.pinned.checked.prog.looks [] ∧ ∀ (j : Nat) t, fn.params[j]? = some t → Tryd.pinned.checked.prog.wantsStandIn t = false := by
  obtain rfl : f = 8 := Option.some.inj ((show Tryd.prog.funcNamed "zellige/zelligelaw04.WholeParses" = some 8 by kernel_rfl).symm.trans hf) |>.symm
  obtain rfl : fn = Tryd.f8 := (Option.some.inj (Tryd.func8.symm.trans hfn)).symm
  refine ⟨by kernel_rfl, fun j t ht => ?_⟩
  rw [Tryd.params8] at ht
  have hm : t ∈ [9] := by simpa using Array.mem_of_getElem? ht
  have hall : ([9].all fun u => !Tryd.prog.wantsStandIn u) = true := by kernel_rfl
  exact (show Tryd.prog.wantsStandIn t = false by simpa using List.all_eq_true.1 hall t hm)
/-- The statement: the card. -/
theorem proved : Rows.WholeParsesCardSaid :=
  Claim7.holds_tied_plain_at .later [] _ _ _ _ said (fun _ h => by cases h) (by kernel_rfl) (fun _ h => by cases h) wholeParses_row_tie rfl ⟨rfl, rfl⟩ (by kernel_rfl) rfl plain (by kernel_rfl)
#print axioms proved
end wparses
end Go.Proofs.YtpkcjgkgabemoaaDoor
