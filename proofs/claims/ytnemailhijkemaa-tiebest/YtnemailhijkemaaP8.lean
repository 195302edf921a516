/-
  Joined texts, part 8:
  What package tie's conflictOnCircle answers.
-/
import Derived.Test.YtnemailhijkemaaP7
import Derived.Test.YtnemailhijkemaaP6
namespace Go.Proofs.Ytnemailhijkemaa
open Go.RowKit
set_option linter.unusedVariables false

theorem idxP0 (a1 a2 b1 b2 c1 c2 : Int) (w : World) : (Instr.index 24 (.agg #[.int .i64 a1, .int .i64 a2, .int .i64 b1, .int .i64 b2, .int .i64 c1, .int .i64 c2]) (.int .i64 0)).run Try.prog w = .ok (.agg #[.int .i64 a1, .int .i64 a2]) w := by show _ = _; kernel_rfl
theorem idxP1 (a1 a2 b1 b2 c1 c2 : Int) (w : World) : (Instr.index 24 (.agg #[.int .i64 a1, .int .i64 a2, .int .i64 b1, .int .i64 b2, .int .i64 c1, .int .i64 c2]) (.int .i64 1)).run Try.prog w = .ok (.agg #[.int .i64 b1, .int .i64 b2]) w := by show _ = _; kernel_rfl
theorem idxP2 (a1 a2 b1 b2 c1 c2 : Int) (w : World) : (Instr.index 24 (.agg #[.int .i64 a1, .int .i64 a2, .int .i64 b1, .int .i64 b2, .int .i64 c1, .int .i64 c2]) (.int .i64 2)).run Try.prog w = .ok (.agg #[.int .i64 c1, .int .i64 c2]) w := by show _ = _; kernel_rfl
theorem cmp_yes {x y z t : Int} (h : ltQ (z, t) (x, y) = true) : 0 < cmpP x y z t := of_decide_eq_true ((cmp_last x y z t).trans h)
theorem cmp_not {x y z t : Int} (h : ltQ (z, t) (x, y) = false) : ¬ 0 < cmpP x y z t := of_decide_eq_false ((cmp_last x y z t).trans h)
theorem cmp_self (x y : Int) : ¬ 0 < cmpP x y x y := cmp_not (lt_irr _)
set_option maxRecDepth 100000 in
set_option maxHeartbeats 8000000 in
theorem tOn (a1 a2 b1 b2 c1 c2 d1 d2 : Int) (w : World) {r : Bool} (hr : r = ocQ (a1, a2) (b1, b2) (c1, c2) (d1, d2)) :
    Calls Try.prog 20 #[.agg #[.int .i64 a1, .int .i64 a2, .int .i64 b1, .int .i64 b2, .int .i64 c1, .int .i64 c2], .agg #[.int .i64 d1, .int .i64 d2]] w fun e w' => e = .returned (.bool r) ∧ Below w.heap.size w w' := by
  unfold ocQ at hr
  cases hab : ltQ (a1, a2) (b1, b2)
  · skip
    simp only [hab, if_false, Bool.false_eq_true] at hr
    cases hmc : ltQ (a1, a2) (c1, c2)
    · simp only [hmc, if_false, Bool.false_eq_true] at hr
      obtain ⟨W, hW, bW, x_t, x_d, sW⟩ := bs_62 w (.int .i64 a1) (.int .i64 a2) (.int .i64 b1) (.int .i64 b2) (.int .i64 c1) (.int .i64 c2) (.int .i64 d1) (.int .i64 d2) 24 23
      have zbW := bW.size
      have BB := bW
      go_enter Try.func20, Try.ntmps20
      go_wp2
      rw [← hW]
      clear hW
      go_loopw [5, 9] (fun l i wr => ((i = .int .i64 0 ∧ l = .int .i64 0) ∨ (i = .int .i64 1 ∧ l = .int .i64 0) ∨ (i = .int .i64 2 ∧ l = .int .i64 0) ∨ (i = .int .i64 3 ∧ l = .int .i64 0)) ∧ B6 wr w.heap.size (.int .i64 a1) (.int .i64 a2) (.int .i64 b1) (.int .i64 b2) (.int .i64 c1) (.int .i64 c2) ∧ Bx wr (w.heap.size + 1) (.int .i64 d1) (.int .i64 d2) ∧ Below w.heap.size w wr) (fun _ i _ => 3 - (intOf i).toNat)
      case atStart => exact ⟨Or.inl ⟨rfl, rfl⟩, x_t, x_d, BB⟩
      case round =>
        obtain ⟨hki, xt, xd, bel⟩ := hrel
        clear x_t x_d BB
        rcases hki with ⟨rfl, rfl⟩ | ⟨rfl, rfl⟩ | ⟨rfl, rfl⟩ | ⟨rfl, rfl⟩
        · skip
          have x_t := xt
          have x_d := xd
          have BB := bel
          clear xt xd bel
          have zt := b6_lt x_t
          have zd := bx_lt x_d
          have EI := idxP0 a1 a2 b1 b2 c1 c2
          obtain ⟨g, hg⟩ : ∃ g, g = cmpP a1 a2 a1 a2 := ⟨_, rfl⟩
          have pg : (0 < g) = False := by rw [hg]; exact eq_false (cmp_self _ _)
          have Gg : Hid _ := hg
          clear hg
          obtain ⟨V, hV, bV, x_p, sV⟩ := bs_2 wr (.int .i64 a1) (.int .i64 a2) 23
          have zbV := bV.size
          replace x_t := x_t.on bV
          replace x_d := x_d.on bV
          replace BB := also BB bV
          go_wp2
          rw [← hV]
          clear hV
          have dd1 : Below V.heap.size V V.drew := (Below.refl _ _).drew
          have zdd1 := dd1.size
          replace x_t := x_t.on dd1
          replace x_d := x_d.on dd1
          replace BB := also BB dd1
          replace x_p := x_p.on dd1
          refine wp_region_held_drew (S := (fun w' => w'.cell? ⟨wr.heap.size, 0, none⟩ = some (.int .i64 a1) ∧ w'.cell? ⟨wr.heap.size, 1, none⟩ = some (.int .i64 a2) ∧ w'.cell? ⟨w.heap.size, 0, none⟩ = some (.int .i64 a1) ∧ w'.cell? ⟨w.heap.size, 1, none⟩ = some (.int .i64 a2) ∧ w'.cell? ⟨w.heap.size, 2, none⟩ = some (.int .i64 b1) ∧ w'.cell? ⟨w.heap.size, 3, none⟩ = some (.int .i64 b2) ∧ w'.cell? ⟨w.heap.size, 4, none⟩ = some (.int .i64 c1) ∧ w'.cell? ⟨w.heap.size, 5, none⟩ = some (.int .i64 c2) ∧ Below w.heap.size w w')) (by kernel_rfl) ?_ (fun hHeld => ?_)
          · exact ⟨x_p.c0, x_p.c1, x_t.c0, x_t.c1, x_t.c2, x_t.c3, x_t.c4, x_t.c5, BB⟩
          refine take_yes (i := 0) (v := ?vs0000) rfl (by kernel_rfl) (by kernel_rfl) (by kernel_rfl) (fun _ _ _ h => h) (by rfl) (by assumption) ?hys0000 ?rests0000
          case hys0000 => (intro w hSw; (try dsimp only at hSw); first | (go_simp; done) | (go_simp; with_reducible rfl))
          simp only [Act.put, List.setIfInBounds_toArray, List.set_cons_zero, List.set_cons_succ]
          refine take_yes (i := 1) (v := ?vs0001) rfl (by kernel_rfl) (by kernel_rfl) (by kernel_rfl) (fun _ _ _ h => h) (by rfl) (by assumption) ?hys0001 ?rests0001
          case hys0001 => (intro w hSw; (try dsimp only at hSw); first | (go_simp; done) | (go_simp; with_reducible rfl))
          simp only [Act.put, List.setIfInBounds_toArray, List.set_cons_zero, List.set_cons_succ]
          refine take_yes (i := 2) (v := ?vs0002) rfl (by kernel_rfl) (by kernel_rfl) (by kernel_rfl) (fun _ _ _ h => h) (by rfl) (by assumption) ?hys0002 ?rests0002
          case hys0002 => (intro w hSw; (try dsimp only at hSw); first | (go_simp; done) | (go_simp; with_reducible rfl))
          simp only [Act.put, List.setIfInBounds_toArray, List.set_cons_zero, List.set_cons_succ]
          refine take_yes (i := 3) (v := ?vs0003) rfl (by kernel_rfl) (by kernel_rfl) (by kernel_rfl) (fun _ _ _ h => h) (by rfl) (by assumption) ?hys0003 ?rests0003
          case hys0003 => (intro w hSw; (try dsimp only at hSw); first | (go_simp; done) | (go_simp; with_reducible rfl))
          simp only [Act.put, List.setIfInBounds_toArray, List.set_cons_zero, List.set_cons_succ]
          refine take_call (i := 4) rfl (by kernel_rfl) (fun Kc hK => ?_)
          go_simp
          (go_at_call 37; refine (lCmp a1 a2 a1 a2 _ Gg.out).mono ?_; rintro e w1 ⟨rfl, bw1⟩)
          refine hK.out _ _ ?_ (fun hHeld => ?_)
          · exact ⟨cell_on bw1 hHeld.1, cell_on bw1 hHeld.2.1, cell_on bw1 hHeld.2.2.1, cell_on bw1 hHeld.2.2.2.1, cell_on bw1 hHeld.2.2.2.2.1, cell_on bw1 hHeld.2.2.2.2.2.1, cell_on bw1 hHeld.2.2.2.2.2.2.1, cell_on bw1 hHeld.2.2.2.2.2.2.2.1, also hHeld.2.2.2.2.2.2.2.2 bw1⟩
          clear hK Kc
          have zbw1 := bw1.size
          replace x_t := x_t.on bw1
          replace x_d := x_d.on bw1
          replace BB := also BB bw1
          replace x_p := x_p.on bw1
          refine take_yes (i := 5) (v := ?vs0005) rfl (by kernel_rfl) (by kernel_rfl) (by kernel_rfl) (fun _ _ _ h => h) (by rfl) (by assumption) ?hys0005 ?rests0005
          case hys0005 => (intro w hSw; (try dsimp only at hSw); first | (go_simp; done) | (go_simp; with_reducible rfl))
          simp only [Act.put, List.setIfInBounds_toArray, List.set_cons_zero, List.set_cons_succ]
          refine wpAnyH_done (by kernel_rfl) ?_ _
          go_wp2
          go_roundw
          case rel => exact ⟨Or.inr (Or.inl ⟨rfl, rfl⟩), x_t, x_d, BB⟩
          case measure => simp [intOf]
        · skip
          have x_t := xt
          have x_d := xd
          have BB := bel
          clear xt xd bel
          have zt := b6_lt x_t
          have zd := bx_lt x_d
          have EI := idxP1 a1 a2 b1 b2 c1 c2
          obtain ⟨g, hg⟩ : ∃ g, g = cmpP b1 b2 a1 a2 := ⟨_, rfl⟩
          have pg : (0 < g) = False := by rw [hg]; exact eq_false (cmp_not hab)
          have Gg : Hid _ := hg
          clear hg
          obtain ⟨V, hV, bV, x_p, sV⟩ := bs_2 wr (.int .i64 b1) (.int .i64 b2) 23
          have zbV := bV.size
          replace x_t := x_t.on bV
          replace x_d := x_d.on bV
          replace BB := also BB bV
          go_wp2
          rw [← hV]
          clear hV
          have dd1 : Below V.heap.size V V.drew := (Below.refl _ _).drew
          have zdd1 := dd1.size
          replace x_t := x_t.on dd1
          replace x_d := x_d.on dd1
          replace BB := also BB dd1
          replace x_p := x_p.on dd1
          refine wp_region_held_drew (S := (fun w' => w'.cell? ⟨wr.heap.size, 0, none⟩ = some (.int .i64 b1) ∧ w'.cell? ⟨wr.heap.size, 1, none⟩ = some (.int .i64 b2) ∧ w'.cell? ⟨w.heap.size, 0, none⟩ = some (.int .i64 a1) ∧ w'.cell? ⟨w.heap.size, 1, none⟩ = some (.int .i64 a2) ∧ w'.cell? ⟨w.heap.size, 2, none⟩ = some (.int .i64 b1) ∧ w'.cell? ⟨w.heap.size, 3, none⟩ = some (.int .i64 b2) ∧ w'.cell? ⟨w.heap.size, 4, none⟩ = some (.int .i64 c1) ∧ w'.cell? ⟨w.heap.size, 5, none⟩ = some (.int .i64 c2) ∧ Below w.heap.size w w')) (by kernel_rfl) ?_ (fun hHeld => ?_)
          · exact ⟨x_p.c0, x_p.c1, x_t.c0, x_t.c1, x_t.c2, x_t.c3, x_t.c4, x_t.c5, BB⟩
          refine take_yes (i := 0) (v := ?vs0010) rfl (by kernel_rfl) (by kernel_rfl) (by kernel_rfl) (fun _ _ _ h => h) (by rfl) (by assumption) ?hys0010 ?rests0010
          case hys0010 => (intro w hSw; (try dsimp only at hSw); first | (go_simp; done) | (go_simp; with_reducible rfl))
          simp only [Act.put, List.setIfInBounds_toArray, List.set_cons_zero, List.set_cons_succ]
          refine take_yes (i := 1) (v := ?vs0011) rfl (by kernel_rfl) (by kernel_rfl) (by kernel_rfl) (fun _ _ _ h => h) (by rfl) (by assumption) ?hys0011 ?rests0011
          case hys0011 => (intro w hSw; (try dsimp only at hSw); first | (go_simp; done) | (go_simp; with_reducible rfl))
          simp only [Act.put, List.setIfInBounds_toArray, List.set_cons_zero, List.set_cons_succ]
          refine take_yes (i := 2) (v := ?vs0012) rfl (by kernel_rfl) (by kernel_rfl) (by kernel_rfl) (fun _ _ _ h => h) (by rfl) (by assumption) ?hys0012 ?rests0012
          case hys0012 => (intro w hSw; (try dsimp only at hSw); first | (go_simp; done) | (go_simp; with_reducible rfl))
          simp only [Act.put, List.setIfInBounds_toArray, List.set_cons_zero, List.set_cons_succ]
          refine take_yes (i := 3) (v := ?vs0013) rfl (by kernel_rfl) (by kernel_rfl) (by kernel_rfl) (fun _ _ _ h => h) (by rfl) (by assumption) ?hys0013 ?rests0013
          case hys0013 => (intro w hSw; (try dsimp only at hSw); first | (go_simp; done) | (go_simp; with_reducible rfl))
          simp only [Act.put, List.setIfInBounds_toArray, List.set_cons_zero, List.set_cons_succ]
          refine take_call (i := 4) rfl (by kernel_rfl) (fun Kc hK => ?_)
          go_simp
          (go_at_call 37; refine (lCmp b1 b2 a1 a2 _ Gg.out).mono ?_; rintro e w1 ⟨rfl, bw1⟩)
          refine hK.out _ _ ?_ (fun hHeld => ?_)
          · exact ⟨cell_on bw1 hHeld.1, cell_on bw1 hHeld.2.1, cell_on bw1 hHeld.2.2.1, cell_on bw1 hHeld.2.2.2.1, cell_on bw1 hHeld.2.2.2.2.1, cell_on bw1 hHeld.2.2.2.2.2.1, cell_on bw1 hHeld.2.2.2.2.2.2.1, cell_on bw1 hHeld.2.2.2.2.2.2.2.1, also hHeld.2.2.2.2.2.2.2.2 bw1⟩
          clear hK Kc
          have zbw1 := bw1.size
          replace x_t := x_t.on bw1
          replace x_d := x_d.on bw1
          replace BB := also BB bw1
          replace x_p := x_p.on bw1
          refine take_yes (i := 5) (v := ?vs0015) rfl (by kernel_rfl) (by kernel_rfl) (by kernel_rfl) (fun _ _ _ h => h) (by rfl) (by assumption) ?hys0015 ?rests0015
          case hys0015 => (intro w hSw; (try dsimp only at hSw); first | (go_simp; done) | (go_simp; with_reducible rfl))
          simp only [Act.put, List.setIfInBounds_toArray, List.set_cons_zero, List.set_cons_succ]
          refine wpAnyH_done (by kernel_rfl) ?_ _
          go_wp2
          go_roundw
          case rel => exact ⟨Or.inr (Or.inr (Or.inl ⟨rfl, rfl⟩)), x_t, x_d, BB⟩
          case measure => simp [intOf]
        · skip
          have x_t := xt
          have x_d := xd
          have BB := bel
          clear xt xd bel
          have zt := b6_lt x_t
          have zd := bx_lt x_d
          have EI := idxP2 a1 a2 b1 b2 c1 c2
          obtain ⟨g, hg⟩ : ∃ g, g = cmpP c1 c2 a1 a2 := ⟨_, rfl⟩
          have pg : (0 < g) = False := by rw [hg]; exact eq_false (cmp_not hmc)
          have Gg : Hid _ := hg
          clear hg
          obtain ⟨V, hV, bV, x_p, sV⟩ := bs_2 wr (.int .i64 c1) (.int .i64 c2) 23
          have zbV := bV.size
          replace x_t := x_t.on bV
          replace x_d := x_d.on bV
          replace BB := also BB bV
          go_wp2
          rw [← hV]
          clear hV
          have dd1 : Below V.heap.size V V.drew := (Below.refl _ _).drew
          have zdd1 := dd1.size
          replace x_t := x_t.on dd1
          replace x_d := x_d.on dd1
          replace BB := also BB dd1
          replace x_p := x_p.on dd1
          refine wp_region_held_drew (S := (fun w' => w'.cell? ⟨wr.heap.size, 0, none⟩ = some (.int .i64 c1) ∧ w'.cell? ⟨wr.heap.size, 1, none⟩ = some (.int .i64 c2) ∧ w'.cell? ⟨w.heap.size, 0, none⟩ = some (.int .i64 a1) ∧ w'.cell? ⟨w.heap.size, 1, none⟩ = some (.int .i64 a2) ∧ w'.cell? ⟨w.heap.size, 2, none⟩ = some (.int .i64 b1) ∧ w'.cell? ⟨w.heap.size, 3, none⟩ = some (.int .i64 b2) ∧ w'.cell? ⟨w.heap.size, 4, none⟩ = some (.int .i64 c1) ∧ w'.cell? ⟨w.heap.size, 5, none⟩ = some (.int .i64 c2) ∧ Below w.heap.size w w')) (by kernel_rfl) ?_ (fun hHeld => ?_)
          · exact ⟨x_p.c0, x_p.c1, x_t.c0, x_t.c1, x_t.c2, x_t.c3, x_t.c4, x_t.c5, BB⟩
          refine take_yes (i := 0) (v := ?vs0020) rfl (by kernel_rfl) (by kernel_rfl) (by kernel_rfl) (fun _ _ _ h => h) (by rfl) (by assumption) ?hys0020 ?rests0020
          case hys0020 => (intro w hSw; (try dsimp only at hSw); first | (go_simp; done) | (go_simp; with_reducible rfl))
          simp only [Act.put, List.setIfInBounds_toArray, List.set_cons_zero, List.set_cons_succ]
          refine take_yes (i := 1) (v := ?vs0021) rfl (by kernel_rfl) (by kernel_rfl) (by kernel_rfl) (fun _ _ _ h => h) (by rfl) (by assumption) ?hys0021 ?rests0021
          case hys0021 => (intro w hSw; (try dsimp only at hSw); first | (go_simp; done) | (go_simp; with_reducible rfl))
          simp only [Act.put, List.setIfInBounds_toArray, List.set_cons_zero, List.set_cons_succ]
          refine take_yes (i := 2) (v := ?vs0022) rfl (by kernel_rfl) (by kernel_rfl) (by kernel_rfl) (fun _ _ _ h => h) (by rfl) (by assumption) ?hys0022 ?rests0022
          case hys0022 => (intro w hSw; (try dsimp only at hSw); first | (go_simp; done) | (go_simp; with_reducible rfl))
          simp only [Act.put, List.setIfInBounds_toArray, List.set_cons_zero, List.set_cons_succ]
          refine take_yes (i := 3) (v := ?vs0023) rfl (by kernel_rfl) (by kernel_rfl) (by kernel_rfl) (fun _ _ _ h => h) (by rfl) (by assumption) ?hys0023 ?rests0023
          case hys0023 => (intro w hSw; (try dsimp only at hSw); first | (go_simp; done) | (go_simp; with_reducible rfl))
          simp only [Act.put, List.setIfInBounds_toArray, List.set_cons_zero, List.set_cons_succ]
          refine take_call (i := 4) rfl (by kernel_rfl) (fun Kc hK => ?_)
          go_simp
          (go_at_call 37; refine (lCmp c1 c2 a1 a2 _ Gg.out).mono ?_; rintro e w1 ⟨rfl, bw1⟩)
          refine hK.out _ _ ?_ (fun hHeld => ?_)
          · exact ⟨cell_on bw1 hHeld.1, cell_on bw1 hHeld.2.1, cell_on bw1 hHeld.2.2.1, cell_on bw1 hHeld.2.2.2.1, cell_on bw1 hHeld.2.2.2.2.1, cell_on bw1 hHeld.2.2.2.2.2.1, cell_on bw1 hHeld.2.2.2.2.2.2.1, cell_on bw1 hHeld.2.2.2.2.2.2.2.1, also hHeld.2.2.2.2.2.2.2.2 bw1⟩
          clear hK Kc
          have zbw1 := bw1.size
          replace x_t := x_t.on bw1
          replace x_d := x_d.on bw1
          replace BB := also BB bw1
          replace x_p := x_p.on bw1
          refine take_yes (i := 5) (v := ?vs0025) rfl (by kernel_rfl) (by kernel_rfl) (by kernel_rfl) (fun _ _ _ h => h) (by rfl) (by assumption) ?hys0025 ?rests0025
          case hys0025 => (intro w hSw; (try dsimp only at hSw); first | (go_simp; done) | (go_simp; with_reducible rfl))
          simp only [Act.put, List.setIfInBounds_toArray, List.set_cons_zero, List.set_cons_succ]
          refine wpAnyH_done (by kernel_rfl) ?_ _
          go_wp2
          go_roundw
          case rel => exact ⟨Or.inr (Or.inr (Or.inr (⟨rfl, rfl⟩))), x_t, x_d, BB⟩
          case measure => simp [intOf]
        · skip
          have x_t := xt
          have x_d := xd
          have BB := bel
          clear xt xd bel
          have zt := b6_lt x_t
          have zd := bx_lt x_d
          cases hD : ltQ (a1, a2) (d1, d2)
          · skip
            have hl : r = decide ((arP d1 d2 b1 b2 c1 c2).sign = 1) := by rw [hr, hD]; rfl
            obtain ⟨s, hs⟩ : ∃ s, s = (arP d1 d2 b1 b2 c1 c2).sign := ⟨_, rfl⟩
            rw [← hs] at hl
            have HS : Hid _ := hs
            have HL : Hid _ := hl
            clear hs hl hr
            obtain ⟨g, hg⟩ : ∃ g, g = cmpP d1 d2 a1 a2 := ⟨_, rfl⟩
            have pg : (0 < g) = False := by rw [hg]; exact eq_false (cmp_not hD)
            have Gg : Hid _ := hg
            clear hg
            go_wp2
            have dd1 : Below wr.heap.size wr wr.drew := (Below.refl _ _).drew
            have zdd1 := dd1.size
            replace x_t := x_t.on dd1
            replace x_d := x_d.on dd1
            replace BB := also BB dd1
            refine wp_region_held_drew (S := (fun w' => w'.cell? ⟨w.heap.size + 1, 0, none⟩ = some (.int .i64 d1) ∧ w'.cell? ⟨w.heap.size + 1, 1, none⟩ = some (.int .i64 d2) ∧ w'.cell? ⟨w.heap.size, 0, none⟩ = some (.int .i64 a1) ∧ w'.cell? ⟨w.heap.size, 1, none⟩ = some (.int .i64 a2) ∧ w'.cell? ⟨w.heap.size, 2, none⟩ = some (.int .i64 b1) ∧ w'.cell? ⟨w.heap.size, 3, none⟩ = some (.int .i64 b2) ∧ w'.cell? ⟨w.heap.size, 4, none⟩ = some (.int .i64 c1) ∧ w'.cell? ⟨w.heap.size, 5, none⟩ = some (.int .i64 c2) ∧ Below w.heap.size w w')) (by kernel_rfl) ?_ (fun hHeld => ?_)
            · exact ⟨x_d.c0, x_d.c1, x_t.c0, x_t.c1, x_t.c2, x_t.c3, x_t.c4, x_t.c5, BB⟩
            refine take_yes (i := 0) (v := ?ve0000) rfl (by kernel_rfl) (by kernel_rfl) (by kernel_rfl) (fun _ _ _ h => h) (by rfl) (by assumption) ?hye0000 ?reste0000
            case hye0000 => (intro w hSw; (try dsimp only at hSw); first | (go_simp; done) | (go_simp; with_reducible rfl))
            simp only [Act.put, List.setIfInBounds_toArray, List.set_cons_zero, List.set_cons_succ]
            refine take_yes (i := 1) (v := ?ve0001) rfl (by kernel_rfl) (by kernel_rfl) (by kernel_rfl) (fun _ _ _ h => h) (by rfl) (by assumption) ?hye0001 ?reste0001
            case hye0001 => (intro w hSw; (try dsimp only at hSw); first | (go_simp; done) | (go_simp; with_reducible rfl))
            simp only [Act.put, List.setIfInBounds_toArray, List.set_cons_zero, List.set_cons_succ]
            refine take_yes (i := 2) (v := ?ve0002) rfl (by kernel_rfl) (by kernel_rfl) (by kernel_rfl) (fun _ _ _ h => h) (by rfl) (by assumption) ?hye0002 ?reste0002
            case hye0002 => (intro w hSw; (try dsimp only at hSw); first | (go_simp; done) | (go_simp; with_reducible rfl))
            simp only [Act.put, List.setIfInBounds_toArray, List.set_cons_zero, List.set_cons_succ]
            refine take_yes (i := 3) (v := ?ve0003) rfl (by kernel_rfl) (by kernel_rfl) (by kernel_rfl) (fun _ _ _ h => h) (by rfl) (by assumption) ?hye0003 ?reste0003
            case hye0003 => (intro w hSw; (try dsimp only at hSw); first | (go_simp; done) | (go_simp; with_reducible rfl))
            simp only [Act.put, List.setIfInBounds_toArray, List.set_cons_zero, List.set_cons_succ]
            refine take_call (i := 4) rfl (by kernel_rfl) (fun Kc hK => ?_)
            go_simp
            (go_at_call 37; refine (lCmp d1 d2 a1 a2 _ Gg.out).mono ?_; rintro e w1 ⟨rfl, bw1⟩)
            refine hK.out _ _ ?_ (fun hHeld => ?_)
            · exact ⟨cell_on bw1 hHeld.1, cell_on bw1 hHeld.2.1, cell_on bw1 hHeld.2.2.1, cell_on bw1 hHeld.2.2.2.1, cell_on bw1 hHeld.2.2.2.2.1, cell_on bw1 hHeld.2.2.2.2.2.1, cell_on bw1 hHeld.2.2.2.2.2.2.1, cell_on bw1 hHeld.2.2.2.2.2.2.2.1, also hHeld.2.2.2.2.2.2.2.2 bw1⟩
            clear hK Kc
            have zbw1 := bw1.size
            replace x_t := x_t.on bw1
            replace x_d := x_d.on bw1
            replace BB := also BB bw1
            refine take_yes (i := 5) (v := ?ve0005) rfl (by kernel_rfl) (by kernel_rfl) (by kernel_rfl) (fun _ _ _ h => h) (by rfl) (by assumption) ?hye0005 ?reste0005
            case hye0005 => (intro w hSw; (try dsimp only at hSw); first | (go_simp; done) | (go_simp; with_reducible rfl))
            simp only [Act.put, List.setIfInBounds_toArray, List.set_cons_zero, List.set_cons_succ]
            refine wpAnyH_done (by kernel_rfl) ?_ _
            have ⟨x_t_0, x_t_1, x_t_2, x_t_3, x_t_4, x_t_5, x_t_6, x_t_7, x_t_8, x_t_9, x_t_10, x_t_11⟩ := x_t
            have ⟨x_d_0, x_d_1, x_d_2, x_d_3⟩ := x_d
            go_wp2_with (go_at_call 18; fail)
            have B2 : Below w.heap.size w ((w1.setCell ⟨w.heap.size, 0, none⟩ (.int .i64 d1)).setCell ⟨w.heap.size, 1, none⟩ (.int .i64 d2)) := (BB.setCell (Nat.le_refl _) _).setCell (Nat.le_refl _) _
            refine (pOrient d1 d2 b1 b2 c1 c2 _ HS.out).mono ?_
            rintro e w2 ⟨rfl, b2⟩
            go_wp2
            go_ret
            exact ⟨by rw [HL.out]; rfl, also B2 b2⟩
          · skip
            obtain rfl : r = false := by rw [hr, hD]; rfl
            clear hr
            obtain ⟨g, hg⟩ : ∃ g, g = cmpP d1 d2 a1 a2 := ⟨_, rfl⟩
            have pg : (0 < g) = True := by rw [hg]; exact eq_true (cmp_yes hD)
            have Gg : Hid _ := hg
            clear hg
            go_wp2
            have dd1 : Below wr.heap.size wr wr.drew := (Below.refl _ _).drew
            have zdd1 := dd1.size
            replace x_t := x_t.on dd1
            replace x_d := x_d.on dd1
            replace BB := also BB dd1
            refine wp_region_held_drew (S := (fun w' => w'.cell? ⟨w.heap.size + 1, 0, none⟩ = some (.int .i64 d1) ∧ w'.cell? ⟨w.heap.size + 1, 1, none⟩ = some (.int .i64 d2) ∧ w'.cell? ⟨w.heap.size, 0, none⟩ = some (.int .i64 a1) ∧ w'.cell? ⟨w.heap.size, 1, none⟩ = some (.int .i64 a2) ∧ w'.cell? ⟨w.heap.size, 2, none⟩ = some (.int .i64 b1) ∧ w'.cell? ⟨w.heap.size, 3, none⟩ = some (.int .i64 b2) ∧ w'.cell? ⟨w.heap.size, 4, none⟩ = some (.int .i64 c1) ∧ w'.cell? ⟨w.heap.size, 5, none⟩ = some (.int .i64 c2) ∧ Below w.heap.size w w')) (by kernel_rfl) ?_ (fun hHeld => ?_)
            · exact ⟨x_d.c0, x_d.c1, x_t.c0, x_t.c1, x_t.c2, x_t.c3, x_t.c4, x_t.c5, BB⟩
            refine take_yes (i := 0) (v := ?ve0010) rfl (by kernel_rfl) (by kernel_rfl) (by kernel_rfl) (fun _ _ _ h => h) (by rfl) (by assumption) ?hye0010 ?reste0010
            case hye0010 => (intro w hSw; (try dsimp only at hSw); first | (go_simp; done) | (go_simp; with_reducible rfl))
            simp only [Act.put, List.setIfInBounds_toArray, List.set_cons_zero, List.set_cons_succ]
            refine take_yes (i := 1) (v := ?ve0011) rfl (by kernel_rfl) (by kernel_rfl) (by kernel_rfl) (fun _ _ _ h => h) (by rfl) (by assumption) ?hye0011 ?reste0011
            case hye0011 => (intro w hSw; (try dsimp only at hSw); first | (go_simp; done) | (go_simp; with_reducible rfl))
            simp only [Act.put, List.setIfInBounds_toArray, List.set_cons_zero, List.set_cons_succ]
            refine take_yes (i := 2) (v := ?ve0012) rfl (by kernel_rfl) (by kernel_rfl) (by kernel_rfl) (fun _ _ _ h => h) (by rfl) (by assumption) ?hye0012 ?reste0012
            case hye0012 => (intro w hSw; (try dsimp only at hSw); first | (go_simp; done) | (go_simp; with_reducible rfl))
            simp only [Act.put, List.setIfInBounds_toArray, List.set_cons_zero, List.set_cons_succ]
            refine take_yes (i := 3) (v := ?ve0013) rfl (by kernel_rfl) (by kernel_rfl) (by kernel_rfl) (fun _ _ _ h => h) (by rfl) (by assumption) ?hye0013 ?reste0013
            case hye0013 => (intro w hSw; (try dsimp only at hSw); first | (go_simp; done) | (go_simp; with_reducible rfl))
            simp only [Act.put, List.setIfInBounds_toArray, List.set_cons_zero, List.set_cons_succ]
            refine take_call (i := 4) rfl (by kernel_rfl) (fun Kc hK => ?_)
            go_simp
            (go_at_call 37; refine (lCmp d1 d2 a1 a2 _ Gg.out).mono ?_; rintro e w1 ⟨rfl, bw1⟩)
            refine hK.out _ _ ?_ (fun hHeld => ?_)
            · exact ⟨cell_on bw1 hHeld.1, cell_on bw1 hHeld.2.1, cell_on bw1 hHeld.2.2.1, cell_on bw1 hHeld.2.2.2.1, cell_on bw1 hHeld.2.2.2.2.1, cell_on bw1 hHeld.2.2.2.2.2.1, cell_on bw1 hHeld.2.2.2.2.2.2.1, cell_on bw1 hHeld.2.2.2.2.2.2.2.1, also hHeld.2.2.2.2.2.2.2.2 bw1⟩
            clear hK Kc
            have zbw1 := bw1.size
            replace x_t := x_t.on bw1
            replace x_d := x_d.on bw1
            replace BB := also BB bw1
            refine take_yes (i := 5) (v := ?ve0015) rfl (by kernel_rfl) (by kernel_rfl) (by kernel_rfl) (fun _ _ _ h => h) (by rfl) (by assumption) ?hye0015 ?reste0015
            case hye0015 => (intro w hSw; (try dsimp only at hSw); first | (go_simp; done) | (go_simp; with_reducible rfl))
            simp only [Act.put, List.setIfInBounds_toArray, List.set_cons_zero, List.set_cons_succ]
            refine wpAnyH_done (by kernel_rfl) ?_ _
            go_wp2
            go_ret
            exact ⟨rfl, BB⟩
    · simp only [hmc, if_true] at hr
      obtain ⟨W, hW, bW, x_t, x_d, sW⟩ := bs_62 w (.int .i64 a1) (.int .i64 a2) (.int .i64 b1) (.int .i64 b2) (.int .i64 c1) (.int .i64 c2) (.int .i64 d1) (.int .i64 d2) 24 23
      have zbW := bW.size
      have BB := bW
      go_enter Try.func20, Try.ntmps20
      go_wp2
      rw [← hW]
      clear hW
      go_loopw [5, 9] (fun l i wr => ((i = .int .i64 0 ∧ l = .int .i64 0) ∨ (i = .int .i64 1 ∧ l = .int .i64 0) ∨ (i = .int .i64 2 ∧ l = .int .i64 0) ∨ (i = .int .i64 3 ∧ l = .int .i64 2)) ∧ B6 wr w.heap.size (.int .i64 a1) (.int .i64 a2) (.int .i64 b1) (.int .i64 b2) (.int .i64 c1) (.int .i64 c2) ∧ Bx wr (w.heap.size + 1) (.int .i64 d1) (.int .i64 d2) ∧ Below w.heap.size w wr) (fun _ i _ => 3 - (intOf i).toNat)
      case atStart => exact ⟨Or.inl ⟨rfl, rfl⟩, x_t, x_d, BB⟩
      case round =>
        obtain ⟨hki, xt, xd, bel⟩ := hrel
        clear x_t x_d BB
        rcases hki with ⟨rfl, rfl⟩ | ⟨rfl, rfl⟩ | ⟨rfl, rfl⟩ | ⟨rfl, rfl⟩
        · skip
          have x_t := xt
          have x_d := xd
          have BB := bel
          clear xt xd bel
          have zt := b6_lt x_t
          have zd := bx_lt x_d
          have EI := idxP0 a1 a2 b1 b2 c1 c2
          obtain ⟨g, hg⟩ : ∃ g, g = cmpP a1 a2 a1 a2 := ⟨_, rfl⟩
          have pg : (0 < g) = False := by rw [hg]; exact eq_false (cmp_self _ _)
          have Gg : Hid _ := hg
          clear hg
          obtain ⟨V, hV, bV, x_p, sV⟩ := bs_2 wr (.int .i64 a1) (.int .i64 a2) 23
          have zbV := bV.size
          replace x_t := x_t.on bV
          replace x_d := x_d.on bV
          replace BB := also BB bV
          go_wp2
          rw [← hV]
          clear hV
          have dd1 : Below V.heap.size V V.drew := (Below.refl _ _).drew
          have zdd1 := dd1.size
          replace x_t := x_t.on dd1
          replace x_d := x_d.on dd1
          replace BB := also BB dd1
          replace x_p := x_p.on dd1
          refine wp_region_held_drew (S := (fun w' => w'.cell? ⟨wr.heap.size, 0, none⟩ = some (.int .i64 a1) ∧ w'.cell? ⟨wr.heap.size, 1, none⟩ = some (.int .i64 a2) ∧ w'.cell? ⟨w.heap.size, 0, none⟩ = some (.int .i64 a1) ∧ w'.cell? ⟨w.heap.size, 1, none⟩ = some (.int .i64 a2) ∧ w'.cell? ⟨w.heap.size, 2, none⟩ = some (.int .i64 b1) ∧ w'.cell? ⟨w.heap.size, 3, none⟩ = some (.int .i64 b2) ∧ w'.cell? ⟨w.heap.size, 4, none⟩ = some (.int .i64 c1) ∧ w'.cell? ⟨w.heap.size, 5, none⟩ = some (.int .i64 c2) ∧ Below w.heap.size w w')) (by kernel_rfl) ?_ (fun hHeld => ?_)
          · exact ⟨x_p.c0, x_p.c1, x_t.c0, x_t.c1, x_t.c2, x_t.c3, x_t.c4, x_t.c5, BB⟩
          refine take_yes (i := 0) (v := ?vs0100) rfl (by kernel_rfl) (by kernel_rfl) (by kernel_rfl) (fun _ _ _ h => h) (by rfl) (by assumption) ?hys0100 ?rests0100
          case hys0100 => (intro w hSw; (try dsimp only at hSw); first | (go_simp; done) | (go_simp; with_reducible rfl))
          simp only [Act.put, List.setIfInBounds_toArray, List.set_cons_zero, List.set_cons_succ]
          refine take_yes (i := 1) (v := ?vs0101) rfl (by kernel_rfl) (by kernel_rfl) (by kernel_rfl) (fun _ _ _ h => h) (by rfl) (by assumption) ?hys0101 ?rests0101
          case hys0101 => (intro w hSw; (try dsimp only at hSw); first | (go_simp; done) | (go_simp; with_reducible rfl))
          simp only [Act.put, List.setIfInBounds_toArray, List.set_cons_zero, List.set_cons_succ]
          refine take_yes (i := 2) (v := ?vs0102) rfl (by kernel_rfl) (by kernel_rfl) (by kernel_rfl) (fun _ _ _ h => h) (by rfl) (by assumption) ?hys0102 ?rests0102
          case hys0102 => (intro w hSw; (try dsimp only at hSw); first | (go_simp; done) | (go_simp; with_reducible rfl))
          simp only [Act.put, List.setIfInBounds_toArray, List.set_cons_zero, List.set_cons_succ]
          refine take_yes (i := 3) (v := ?vs0103) rfl (by kernel_rfl) (by kernel_rfl) (by kernel_rfl) (fun _ _ _ h => h) (by rfl) (by assumption) ?hys0103 ?rests0103
          case hys0103 => (intro w hSw; (try dsimp only at hSw); first | (go_simp; done) | (go_simp; with_reducible rfl))
          simp only [Act.put, List.setIfInBounds_toArray, List.set_cons_zero, List.set_cons_succ]
          refine take_call (i := 4) rfl (by kernel_rfl) (fun Kc hK => ?_)
          go_simp
          (go_at_call 37; refine (lCmp a1 a2 a1 a2 _ Gg.out).mono ?_; rintro e w1 ⟨rfl, bw1⟩)
          refine hK.out _ _ ?_ (fun hHeld => ?_)
          · exact ⟨cell_on bw1 hHeld.1, cell_on bw1 hHeld.2.1, cell_on bw1 hHeld.2.2.1, cell_on bw1 hHeld.2.2.2.1, cell_on bw1 hHeld.2.2.2.2.1, cell_on bw1 hHeld.2.2.2.2.2.1, cell_on bw1 hHeld.2.2.2.2.2.2.1, cell_on bw1 hHeld.2.2.2.2.2.2.2.1, also hHeld.2.2.2.2.2.2.2.2 bw1⟩
          clear hK Kc
          have zbw1 := bw1.size
          replace x_t := x_t.on bw1
          replace x_d := x_d.on bw1
          replace BB := also BB bw1
          replace x_p := x_p.on bw1
          refine take_yes (i := 5) (v := ?vs0105) rfl (by kernel_rfl) (by kernel_rfl) (by kernel_rfl) (fun _ _ _ h => h) (by rfl) (by assumption) ?hys0105 ?rests0105
          case hys0105 => (intro w hSw; (try dsimp only at hSw); first | (go_simp; done) | (go_simp; with_reducible rfl))
          simp only [Act.put, List.setIfInBounds_toArray, List.set_cons_zero, List.set_cons_succ]
          refine wpAnyH_done (by kernel_rfl) ?_ _
          go_wp2
          go_roundw
          case rel => exact ⟨Or.inr (Or.inl ⟨rfl, rfl⟩), x_t, x_d, BB⟩
          case measure => simp [intOf]
        · skip
          have x_t := xt
          have x_d := xd
          have BB := bel
          clear xt xd bel
          have zt := b6_lt x_t
          have zd := bx_lt x_d
          have EI := idxP1 a1 a2 b1 b2 c1 c2
          obtain ⟨g, hg⟩ : ∃ g, g = cmpP b1 b2 a1 a2 := ⟨_, rfl⟩
          have pg : (0 < g) = False := by rw [hg]; exact eq_false (cmp_not hab)
          have Gg : Hid _ := hg
          clear hg
          obtain ⟨V, hV, bV, x_p, sV⟩ := bs_2 wr (.int .i64 b1) (.int .i64 b2) 23
          have zbV := bV.size
          replace x_t := x_t.on bV
          replace x_d := x_d.on bV
          replace BB := also BB bV
          go_wp2
          rw [← hV]
          clear hV
          have dd1 : Below V.heap.size V V.drew := (Below.refl _ _).drew
          have zdd1 := dd1.size
          replace x_t := x_t.on dd1
          replace x_d := x_d.on dd1
          replace BB := also BB dd1
          replace x_p := x_p.on dd1
          refine wp_region_held_drew (S := (fun w' => w'.cell? ⟨wr.heap.size, 0, none⟩ = some (.int .i64 b1) ∧ w'.cell? ⟨wr.heap.size, 1, none⟩ = some (.int .i64 b2) ∧ w'.cell? ⟨w.heap.size, 0, none⟩ = some (.int .i64 a1) ∧ w'.cell? ⟨w.heap.size, 1, none⟩ = some (.int .i64 a2) ∧ w'.cell? ⟨w.heap.size, 2, none⟩ = some (.int .i64 b1) ∧ w'.cell? ⟨w.heap.size, 3, none⟩ = some (.int .i64 b2) ∧ w'.cell? ⟨w.heap.size, 4, none⟩ = some (.int .i64 c1) ∧ w'.cell? ⟨w.heap.size, 5, none⟩ = some (.int .i64 c2) ∧ Below w.heap.size w w')) (by kernel_rfl) ?_ (fun hHeld => ?_)
          · exact ⟨x_p.c0, x_p.c1, x_t.c0, x_t.c1, x_t.c2, x_t.c3, x_t.c4, x_t.c5, BB⟩
          refine take_yes (i := 0) (v := ?vs0110) rfl (by kernel_rfl) (by kernel_rfl) (by kernel_rfl) (fun _ _ _ h => h) (by rfl) (by assumption) ?hys0110 ?rests0110
          case hys0110 => (intro w hSw; (try dsimp only at hSw); first | (go_simp; done) | (go_simp; with_reducible rfl))
          simp only [Act.put, List.setIfInBounds_toArray, List.set_cons_zero, List.set_cons_succ]
          refine take_yes (i := 1) (v := ?vs0111) rfl (by kernel_rfl) (by kernel_rfl) (by kernel_rfl) (fun _ _ _ h => h) (by rfl) (by assumption) ?hys0111 ?rests0111
          case hys0111 => (intro w hSw; (try dsimp only at hSw); first | (go_simp; done) | (go_simp; with_reducible rfl))
          simp only [Act.put, List.setIfInBounds_toArray, List.set_cons_zero, List.set_cons_succ]
          refine take_yes (i := 2) (v := ?vs0112) rfl (by kernel_rfl) (by kernel_rfl) (by kernel_rfl) (fun _ _ _ h => h) (by rfl) (by assumption) ?hys0112 ?rests0112
          case hys0112 => (intro w hSw; (try dsimp only at hSw); first | (go_simp; done) | (go_simp; with_reducible rfl))
          simp only [Act.put, List.setIfInBounds_toArray, List.set_cons_zero, List.set_cons_succ]
          refine take_yes (i := 3) (v := ?vs0113) rfl (by kernel_rfl) (by kernel_rfl) (by kernel_rfl) (fun _ _ _ h => h) (by rfl) (by assumption) ?hys0113 ?rests0113
          case hys0113 => (intro w hSw; (try dsimp only at hSw); first | (go_simp; done) | (go_simp; with_reducible rfl))
          simp only [Act.put, List.setIfInBounds_toArray, List.set_cons_zero, List.set_cons_succ]
          refine take_call (i := 4) rfl (by kernel_rfl) (fun Kc hK => ?_)
          go_simp
          (go_at_call 37; refine (lCmp b1 b2 a1 a2 _ Gg.out).mono ?_; rintro e w1 ⟨rfl, bw1⟩)
          refine hK.out _ _ ?_ (fun hHeld => ?_)
          · exact ⟨cell_on bw1 hHeld.1, cell_on bw1 hHeld.2.1, cell_on bw1 hHeld.2.2.1, cell_on bw1 hHeld.2.2.2.1, cell_on bw1 hHeld.2.2.2.2.1, cell_on bw1 hHeld.2.2.2.2.2.1, cell_on bw1 hHeld.2.2.2.2.2.2.1, cell_on bw1 hHeld.2.2.2.2.2.2.2.1, also hHeld.2.2.2.2.2.2.2.2 bw1⟩
          clear hK Kc
          have zbw1 := bw1.size
          replace x_t := x_t.on bw1
          replace x_d := x_d.on bw1
          replace BB := also BB bw1
          replace x_p := x_p.on bw1
          refine take_yes (i := 5) (v := ?vs0115) rfl (by kernel_rfl) (by kernel_rfl) (by kernel_rfl) (fun _ _ _ h => h) (by rfl) (by assumption) ?hys0115 ?rests0115
          case hys0115 => (intro w hSw; (try dsimp only at hSw); first | (go_simp; done) | (go_simp; with_reducible rfl))
          simp only [Act.put, List.setIfInBounds_toArray, List.set_cons_zero, List.set_cons_succ]
          refine wpAnyH_done (by kernel_rfl) ?_ _
          go_wp2
          go_roundw
          case rel => exact ⟨Or.inr (Or.inr (Or.inl ⟨rfl, rfl⟩)), x_t, x_d, BB⟩
          case measure => simp [intOf]
        · skip
          have x_t := xt
          have x_d := xd
          have BB := bel
          clear xt xd bel
          have zt := b6_lt x_t
          have zd := bx_lt x_d
          have EI := idxP2 a1 a2 b1 b2 c1 c2
          obtain ⟨g, hg⟩ : ∃ g, g = cmpP c1 c2 a1 a2 := ⟨_, rfl⟩
          have pg : (0 < g) = True := by rw [hg]; exact eq_true (cmp_yes hmc)
          have Gg : Hid _ := hg
          clear hg
          obtain ⟨V, hV, bV, x_p, sV⟩ := bs_2 wr (.int .i64 c1) (.int .i64 c2) 23
          have zbV := bV.size
          replace x_t := x_t.on bV
          replace x_d := x_d.on bV
          replace BB := also BB bV
          go_wp2
          rw [← hV]
          clear hV
          have dd1 : Below V.heap.size V V.drew := (Below.refl _ _).drew
          have zdd1 := dd1.size
          replace x_t := x_t.on dd1
          replace x_d := x_d.on dd1
          replace BB := also BB dd1
          replace x_p := x_p.on dd1
          refine wp_region_held_drew (S := (fun w' => w'.cell? ⟨wr.heap.size, 0, none⟩ = some (.int .i64 c1) ∧ w'.cell? ⟨wr.heap.size, 1, none⟩ = some (.int .i64 c2) ∧ w'.cell? ⟨w.heap.size, 0, none⟩ = some (.int .i64 a1) ∧ w'.cell? ⟨w.heap.size, 1, none⟩ = some (.int .i64 a2) ∧ w'.cell? ⟨w.heap.size, 2, none⟩ = some (.int .i64 b1) ∧ w'.cell? ⟨w.heap.size, 3, none⟩ = some (.int .i64 b2) ∧ w'.cell? ⟨w.heap.size, 4, none⟩ = some (.int .i64 c1) ∧ w'.cell? ⟨w.heap.size, 5, none⟩ = some (.int .i64 c2) ∧ Below w.heap.size w w')) (by kernel_rfl) ?_ (fun hHeld => ?_)
          · exact ⟨x_p.c0, x_p.c1, x_t.c0, x_t.c1, x_t.c2, x_t.c3, x_t.c4, x_t.c5, BB⟩
          refine take_yes (i := 0) (v := ?vs0120) rfl (by kernel_rfl) (by kernel_rfl) (by kernel_rfl) (fun _ _ _ h => h) (by rfl) (by assumption) ?hys0120 ?rests0120
          case hys0120 => (intro w hSw; (try dsimp only at hSw); first | (go_simp; done) | (go_simp; with_reducible rfl))
          simp only [Act.put, List.setIfInBounds_toArray, List.set_cons_zero, List.set_cons_succ]
          refine take_yes (i := 1) (v := ?vs0121) rfl (by kernel_rfl) (by kernel_rfl) (by kernel_rfl) (fun _ _ _ h => h) (by rfl) (by assumption) ?hys0121 ?rests0121
          case hys0121 => (intro w hSw; (try dsimp only at hSw); first | (go_simp; done) | (go_simp; with_reducible rfl))
          simp only [Act.put, List.setIfInBounds_toArray, List.set_cons_zero, List.set_cons_succ]
          refine take_yes (i := 2) (v := ?vs0122) rfl (by kernel_rfl) (by kernel_rfl) (by kernel_rfl) (fun _ _ _ h => h) (by rfl) (by assumption) ?hys0122 ?rests0122
          case hys0122 => (intro w hSw; (try dsimp only at hSw); first | (go_simp; done) | (go_simp; with_reducible rfl))
          simp only [Act.put, List.setIfInBounds_toArray, List.set_cons_zero, List.set_cons_succ]
          refine take_yes (i := 3) (v := ?vs0123) rfl (by kernel_rfl) (by kernel_rfl) (by kernel_rfl) (fun _ _ _ h => h) (by rfl) (by assumption) ?hys0123 ?rests0123
          case hys0123 => (intro w hSw; (try dsimp only at hSw); first | (go_simp; done) | (go_simp; with_reducible rfl))
          simp only [Act.put, List.setIfInBounds_toArray, List.set_cons_zero, List.set_cons_succ]
          refine take_call (i := 4) rfl (by kernel_rfl) (fun Kc hK => ?_)
          go_simp
          (go_at_call 37; refine (lCmp c1 c2 a1 a2 _ Gg.out).mono ?_; rintro e w1 ⟨rfl, bw1⟩)
          refine hK.out _ _ ?_ (fun hHeld => ?_)
          · exact ⟨cell_on bw1 hHeld.1, cell_on bw1 hHeld.2.1, cell_on bw1 hHeld.2.2.1, cell_on bw1 hHeld.2.2.2.1, cell_on bw1 hHeld.2.2.2.2.1, cell_on bw1 hHeld.2.2.2.2.2.1, cell_on bw1 hHeld.2.2.2.2.2.2.1, cell_on bw1 hHeld.2.2.2.2.2.2.2.1, also hHeld.2.2.2.2.2.2.2.2 bw1⟩
          clear hK Kc
          have zbw1 := bw1.size
          replace x_t := x_t.on bw1
          replace x_d := x_d.on bw1
          replace BB := also BB bw1
          replace x_p := x_p.on bw1
          refine take_yes (i := 5) (v := ?vs0125) rfl (by kernel_rfl) (by kernel_rfl) (by kernel_rfl) (fun _ _ _ h => h) (by rfl) (by assumption) ?hys0125 ?rests0125
          case hys0125 => (intro w hSw; (try dsimp only at hSw); first | (go_simp; done) | (go_simp; with_reducible rfl))
          simp only [Act.put, List.setIfInBounds_toArray, List.set_cons_zero, List.set_cons_succ]
          refine wpAnyH_done (by kernel_rfl) ?_ _
          go_wp2
          go_roundw
          case rel => exact ⟨Or.inr (Or.inr (Or.inr (⟨rfl, rfl⟩))), x_t, x_d, BB⟩
          case measure => simp [intOf]
        · skip
          have x_t := xt
          have x_d := xd
          have BB := bel
          clear xt xd bel
          have zt := b6_lt x_t
          have zd := bx_lt x_d
          cases hD : ltQ (c1, c2) (d1, d2)
          · skip
            have hl : r = decide ((arP a1 a2 b1 b2 d1 d2).sign = 1) := by rw [hr, hD]; rfl
            obtain ⟨s, hs⟩ : ∃ s, s = (arP a1 a2 b1 b2 d1 d2).sign := ⟨_, rfl⟩
            rw [← hs] at hl
            have HS : Hid _ := hs
            have HL : Hid _ := hl
            clear hs hl hr
            obtain ⟨g, hg⟩ : ∃ g, g = cmpP d1 d2 c1 c2 := ⟨_, rfl⟩
            have pg : (0 < g) = False := by rw [hg]; exact eq_false (cmp_not hD)
            have Gg : Hid _ := hg
            clear hg
            go_wp2
            have dd1 : Below wr.heap.size wr wr.drew := (Below.refl _ _).drew
            have zdd1 := dd1.size
            replace x_t := x_t.on dd1
            replace x_d := x_d.on dd1
            replace BB := also BB dd1
            refine wp_region_held_drew (S := (fun w' => w'.cell? ⟨w.heap.size + 1, 0, none⟩ = some (.int .i64 d1) ∧ w'.cell? ⟨w.heap.size + 1, 1, none⟩ = some (.int .i64 d2) ∧ w'.cell? ⟨w.heap.size, 0, none⟩ = some (.int .i64 a1) ∧ w'.cell? ⟨w.heap.size, 1, none⟩ = some (.int .i64 a2) ∧ w'.cell? ⟨w.heap.size, 2, none⟩ = some (.int .i64 b1) ∧ w'.cell? ⟨w.heap.size, 3, none⟩ = some (.int .i64 b2) ∧ w'.cell? ⟨w.heap.size, 4, none⟩ = some (.int .i64 c1) ∧ w'.cell? ⟨w.heap.size, 5, none⟩ = some (.int .i64 c2) ∧ Below w.heap.size w w')) (by kernel_rfl) ?_ (fun hHeld => ?_)
            · exact ⟨x_d.c0, x_d.c1, x_t.c0, x_t.c1, x_t.c2, x_t.c3, x_t.c4, x_t.c5, BB⟩
            refine take_yes (i := 0) (v := ?ve0100) rfl (by kernel_rfl) (by kernel_rfl) (by kernel_rfl) (fun _ _ _ h => h) (by rfl) (by assumption) ?hye0100 ?reste0100
            case hye0100 => (intro w hSw; (try dsimp only at hSw); first | (go_simp; done) | (go_simp; with_reducible rfl))
            simp only [Act.put, List.setIfInBounds_toArray, List.set_cons_zero, List.set_cons_succ]
            refine take_yes (i := 1) (v := ?ve0101) rfl (by kernel_rfl) (by kernel_rfl) (by kernel_rfl) (fun _ _ _ h => h) (by rfl) (by assumption) ?hye0101 ?reste0101
            case hye0101 => (intro w hSw; (try dsimp only at hSw); first | (go_simp; done) | (go_simp; with_reducible rfl))
            simp only [Act.put, List.setIfInBounds_toArray, List.set_cons_zero, List.set_cons_succ]
            refine take_yes (i := 2) (v := ?ve0102) rfl (by kernel_rfl) (by kernel_rfl) (by kernel_rfl) (fun _ _ _ h => h) (by rfl) (by assumption) ?hye0102 ?reste0102
            case hye0102 => (intro w hSw; (try dsimp only at hSw); first | (go_simp; done) | (go_simp; with_reducible rfl))
            simp only [Act.put, List.setIfInBounds_toArray, List.set_cons_zero, List.set_cons_succ]
            refine take_yes (i := 3) (v := ?ve0103) rfl (by kernel_rfl) (by kernel_rfl) (by kernel_rfl) (fun _ _ _ h => h) (by rfl) (by assumption) ?hye0103 ?reste0103
            case hye0103 => (intro w hSw; (try dsimp only at hSw); first | (go_simp; done) | (go_simp; with_reducible rfl))
            simp only [Act.put, List.setIfInBounds_toArray, List.set_cons_zero, List.set_cons_succ]
            refine take_call (i := 4) rfl (by kernel_rfl) (fun Kc hK => ?_)
            go_simp
            (go_at_call 37; refine (lCmp d1 d2 c1 c2 _ Gg.out).mono ?_; rintro e w1 ⟨rfl, bw1⟩)
            refine hK.out _ _ ?_ (fun hHeld => ?_)
            · exact ⟨cell_on bw1 hHeld.1, cell_on bw1 hHeld.2.1, cell_on bw1 hHeld.2.2.1, cell_on bw1 hHeld.2.2.2.1, cell_on bw1 hHeld.2.2.2.2.1, cell_on bw1 hHeld.2.2.2.2.2.1, cell_on bw1 hHeld.2.2.2.2.2.2.1, cell_on bw1 hHeld.2.2.2.2.2.2.2.1, also hHeld.2.2.2.2.2.2.2.2 bw1⟩
            clear hK Kc
            have zbw1 := bw1.size
            replace x_t := x_t.on bw1
            replace x_d := x_d.on bw1
            replace BB := also BB bw1
            refine take_yes (i := 5) (v := ?ve0105) rfl (by kernel_rfl) (by kernel_rfl) (by kernel_rfl) (fun _ _ _ h => h) (by rfl) (by assumption) ?hye0105 ?reste0105
            case hye0105 => (intro w hSw; (try dsimp only at hSw); first | (go_simp; done) | (go_simp; with_reducible rfl))
            simp only [Act.put, List.setIfInBounds_toArray, List.set_cons_zero, List.set_cons_succ]
            refine wpAnyH_done (by kernel_rfl) ?_ _
            have ⟨x_t_0, x_t_1, x_t_2, x_t_3, x_t_4, x_t_5, x_t_6, x_t_7, x_t_8, x_t_9, x_t_10, x_t_11⟩ := x_t
            have ⟨x_d_0, x_d_1, x_d_2, x_d_3⟩ := x_d
            go_wp2_with (go_at_call 18; fail)
            have B2 : Below w.heap.size w ((w1.setCell ⟨w.heap.size, 4, none⟩ (.int .i64 d1)).setCell ⟨w.heap.size, 5, none⟩ (.int .i64 d2)) := (BB.setCell (Nat.le_refl _) _).setCell (Nat.le_refl _) _
            refine (pOrient a1 a2 b1 b2 d1 d2 _ HS.out).mono ?_
            rintro e w2 ⟨rfl, b2⟩
            go_wp2
            go_ret
            exact ⟨by rw [HL.out]; rfl, also B2 b2⟩
          · skip
            obtain rfl : r = false := by rw [hr, hD]; rfl
            clear hr
            obtain ⟨g, hg⟩ : ∃ g, g = cmpP d1 d2 c1 c2 := ⟨_, rfl⟩
            have pg : (0 < g) = True := by rw [hg]; exact eq_true (cmp_yes hD)
            have Gg : Hid _ := hg
            clear hg
            go_wp2
            have dd1 : Below wr.heap.size wr wr.drew := (Below.refl _ _).drew
            have zdd1 := dd1.size
            replace x_t := x_t.on dd1
            replace x_d := x_d.on dd1
            replace BB := also BB dd1
            refine wp_region_held_drew (S := (fun w' => w'.cell? ⟨w.heap.size + 1, 0, none⟩ = some (.int .i64 d1) ∧ w'.cell? ⟨w.heap.size + 1, 1, none⟩ = some (.int .i64 d2) ∧ w'.cell? ⟨w.heap.size, 0, none⟩ = some (.int .i64 a1) ∧ w'.cell? ⟨w.heap.size, 1, none⟩ = some (.int .i64 a2) ∧ w'.cell? ⟨w.heap.size, 2, none⟩ = some (.int .i64 b1) ∧ w'.cell? ⟨w.heap.size, 3, none⟩ = some (.int .i64 b2) ∧ w'.cell? ⟨w.heap.size, 4, none⟩ = some (.int .i64 c1) ∧ w'.cell? ⟨w.heap.size, 5, none⟩ = some (.int .i64 c2) ∧ Below w.heap.size w w')) (by kernel_rfl) ?_ (fun hHeld => ?_)
            · exact ⟨x_d.c0, x_d.c1, x_t.c0, x_t.c1, x_t.c2, x_t.c3, x_t.c4, x_t.c5, BB⟩
            refine take_yes (i := 0) (v := ?ve0110) rfl (by kernel_rfl) (by kernel_rfl) (by kernel_rfl) (fun _ _ _ h => h) (by rfl) (by assumption) ?hye0110 ?reste0110
            case hye0110 => (intro w hSw; (try dsimp only at hSw); first | (go_simp; done) | (go_simp; with_reducible rfl))
            simp only [Act.put, List.setIfInBounds_toArray, List.set_cons_zero, List.set_cons_succ]
            refine take_yes (i := 1) (v := ?ve0111) rfl (by kernel_rfl) (by kernel_rfl) (by kernel_rfl) (fun _ _ _ h => h) (by rfl) (by assumption) ?hye0111 ?reste0111
            case hye0111 => (intro w hSw; (try dsimp only at hSw); first | (go_simp; done) | (go_simp; with_reducible rfl))
            simp only [Act.put, List.setIfInBounds_toArray, List.set_cons_zero, List.set_cons_succ]
            refine take_yes (i := 2) (v := ?ve0112) rfl (by kernel_rfl) (by kernel_rfl) (by kernel_rfl) (fun _ _ _ h => h) (by rfl) (by assumption) ?hye0112 ?reste0112
            case hye0112 => (intro w hSw; (try dsimp only at hSw); first | (go_simp; done) | (go_simp; with_reducible rfl))
            simp only [Act.put, List.setIfInBounds_toArray, List.set_cons_zero, List.set_cons_succ]
            refine take_yes (i := 3) (v := ?ve0113) rfl (by kernel_rfl) (by kernel_rfl) (by kernel_rfl) (fun _ _ _ h => h) (by rfl) (by assumption) ?hye0113 ?reste0113
            case hye0113 => (intro w hSw; (try dsimp only at hSw); first | (go_simp; done) | (go_simp; with_reducible rfl))
            simp only [Act.put, List.setIfInBounds_toArray, List.set_cons_zero, List.set_cons_succ]
            refine take_call (i := 4) rfl (by kernel_rfl) (fun Kc hK => ?_)
            go_simp
            (go_at_call 37; refine (lCmp d1 d2 c1 c2 _ Gg.out).mono ?_; rintro e w1 ⟨rfl, bw1⟩)
            refine hK.out _ _ ?_ (fun hHeld => ?_)
            · exact ⟨cell_on bw1 hHeld.1, cell_on bw1 hHeld.2.1, cell_on bw1 hHeld.2.2.1, cell_on bw1 hHeld.2.2.2.1, cell_on bw1 hHeld.2.2.2.2.1, cell_on bw1 hHeld.2.2.2.2.2.1, cell_on bw1 hHeld.2.2.2.2.2.2.1, cell_on bw1 hHeld.2.2.2.2.2.2.2.1, also hHeld.2.2.2.2.2.2.2.2 bw1⟩
            clear hK Kc
            have zbw1 := bw1.size
            replace x_t := x_t.on bw1
            replace x_d := x_d.on bw1
            replace BB := also BB bw1
            refine take_yes (i := 5) (v := ?ve0115) rfl (by kernel_rfl) (by kernel_rfl) (by kernel_rfl) (fun _ _ _ h => h) (by rfl) (by assumption) ?hye0115 ?reste0115
            case hye0115 => (intro w hSw; (try dsimp only at hSw); first | (go_simp; done) | (go_simp; with_reducible rfl))
            simp only [Act.put, List.setIfInBounds_toArray, List.set_cons_zero, List.set_cons_succ]
            refine wpAnyH_done (by kernel_rfl) ?_ _
            go_wp2
            go_ret
            exact ⟨rfl, BB⟩
  · skip
    simp only [hab, if_true] at hr
    cases hmc : ltQ (b1, b2) (c1, c2)
    · simp only [hmc, if_false, Bool.false_eq_true] at hr
      obtain ⟨W, hW, bW, x_t, x_d, sW⟩ := bs_62 w (.int .i64 a1) (.int .i64 a2) (.int .i64 b1) (.int .i64 b2) (.int .i64 c1) (.int .i64 c2) (.int .i64 d1) (.int .i64 d2) 24 23
      have zbW := bW.size
      have BB := bW
      go_enter Try.func20, Try.ntmps20
      go_wp2
      rw [← hW]
      clear hW
      go_loopw [5, 9] (fun l i wr => ((i = .int .i64 0 ∧ l = .int .i64 0) ∨ (i = .int .i64 1 ∧ l = .int .i64 0) ∨ (i = .int .i64 2 ∧ l = .int .i64 1) ∨ (i = .int .i64 3 ∧ l = .int .i64 1)) ∧ B6 wr w.heap.size (.int .i64 a1) (.int .i64 a2) (.int .i64 b1) (.int .i64 b2) (.int .i64 c1) (.int .i64 c2) ∧ Bx wr (w.heap.size + 1) (.int .i64 d1) (.int .i64 d2) ∧ Below w.heap.size w wr) (fun _ i _ => 3 - (intOf i).toNat)
      case atStart => exact ⟨Or.inl ⟨rfl, rfl⟩, x_t, x_d, BB⟩
      case round =>
        obtain ⟨hki, xt, xd, bel⟩ := hrel
        clear x_t x_d BB
        rcases hki with ⟨rfl, rfl⟩ | ⟨rfl, rfl⟩ | ⟨rfl, rfl⟩ | ⟨rfl, rfl⟩
        · skip
          have x_t := xt
          have x_d := xd
          have BB := bel
          clear xt xd bel
          have zt := b6_lt x_t
          have zd := bx_lt x_d
          have EI := idxP0 a1 a2 b1 b2 c1 c2
          obtain ⟨g, hg⟩ : ∃ g, g = cmpP a1 a2 a1 a2 := ⟨_, rfl⟩
          have pg : (0 < g) = False := by rw [hg]; exact eq_false (cmp_self _ _)
          have Gg : Hid _ := hg
          clear hg
          obtain ⟨V, hV, bV, x_p, sV⟩ := bs_2 wr (.int .i64 a1) (.int .i64 a2) 23
          have zbV := bV.size
          replace x_t := x_t.on bV
          replace x_d := x_d.on bV
          replace BB := also BB bV
          go_wp2
          rw [← hV]
          clear hV
          have dd1 : Below V.heap.size V V.drew := (Below.refl _ _).drew
          have zdd1 := dd1.size
          replace x_t := x_t.on dd1
          replace x_d := x_d.on dd1
          replace BB := also BB dd1
          replace x_p := x_p.on dd1
          refine wp_region_held_drew (S := (fun w' => w'.cell? ⟨wr.heap.size, 0, none⟩ = some (.int .i64 a1) ∧ w'.cell? ⟨wr.heap.size, 1, none⟩ = some (.int .i64 a2) ∧ w'.cell? ⟨w.heap.size, 0, none⟩ = some (.int .i64 a1) ∧ w'.cell? ⟨w.heap.size, 1, none⟩ = some (.int .i64 a2) ∧ w'.cell? ⟨w.heap.size, 2, none⟩ = some (.int .i64 b1) ∧ w'.cell? ⟨w.heap.size, 3, none⟩ = some (.int .i64 b2) ∧ w'.cell? ⟨w.heap.size, 4, none⟩ = some (.int .i64 c1) ∧ w'.cell? ⟨w.heap.size, 5, none⟩ = some (.int .i64 c2) ∧ Below w.heap.size w w')) (by kernel_rfl) ?_ (fun hHeld => ?_)
          · exact ⟨x_p.c0, x_p.c1, x_t.c0, x_t.c1, x_t.c2, x_t.c3, x_t.c4, x_t.c5, BB⟩
          refine take_yes (i := 0) (v := ?vs1000) rfl (by kernel_rfl) (by kernel_rfl) (by kernel_rfl) (fun _ _ _ h => h) (by rfl) (by assumption) ?hys1000 ?rests1000
          case hys1000 => (intro w hSw; (try dsimp only at hSw); first | (go_simp; done) | (go_simp; with_reducible rfl))
          simp only [Act.put, List.setIfInBounds_toArray, List.set_cons_zero, List.set_cons_succ]
          refine take_yes (i := 1) (v := ?vs1001) rfl (by kernel_rfl) (by kernel_rfl) (by kernel_rfl) (fun _ _ _ h => h) (by rfl) (by assumption) ?hys1001 ?rests1001
          case hys1001 => (intro w hSw; (try dsimp only at hSw); first | (go_simp; done) | (go_simp; with_reducible rfl))
          simp only [Act.put, List.setIfInBounds_toArray, List.set_cons_zero, List.set_cons_succ]
          refine take_yes (i := 2) (v := ?vs1002) rfl (by kernel_rfl) (by kernel_rfl) (by kernel_rfl) (fun _ _ _ h => h) (by rfl) (by assumption) ?hys1002 ?rests1002
          case hys1002 => (intro w hSw; (try dsimp only at hSw); first | (go_simp; done) | (go_simp; with_reducible rfl))
          simp only [Act.put, List.setIfInBounds_toArray, List.set_cons_zero, List.set_cons_succ]
          refine take_yes (i := 3) (v := ?vs1003) rfl (by kernel_rfl) (by kernel_rfl) (by kernel_rfl) (fun _ _ _ h => h) (by rfl) (by assumption) ?hys1003 ?rests1003
          case hys1003 => (intro w hSw; (try dsimp only at hSw); first | (go_simp; done) | (go_simp; with_reducible rfl))
          simp only [Act.put, List.setIfInBounds_toArray, List.set_cons_zero, List.set_cons_succ]
          refine take_call (i := 4) rfl (by kernel_rfl) (fun Kc hK => ?_)
          go_simp
          (go_at_call 37; refine (lCmp a1 a2 a1 a2 _ Gg.out).mono ?_; rintro e w1 ⟨rfl, bw1⟩)
          refine hK.out _ _ ?_ (fun hHeld => ?_)
          · exact ⟨cell_on bw1 hHeld.1, cell_on bw1 hHeld.2.1, cell_on bw1 hHeld.2.2.1, cell_on bw1 hHeld.2.2.2.1, cell_on bw1 hHeld.2.2.2.2.1, cell_on bw1 hHeld.2.2.2.2.2.1, cell_on bw1 hHeld.2.2.2.2.2.2.1, cell_on bw1 hHeld.2.2.2.2.2.2.2.1, also hHeld.2.2.2.2.2.2.2.2 bw1⟩
          clear hK Kc
          have zbw1 := bw1.size
          replace x_t := x_t.on bw1
          replace x_d := x_d.on bw1
          replace BB := also BB bw1
          replace x_p := x_p.on bw1
          refine take_yes (i := 5) (v := ?vs1005) rfl (by kernel_rfl) (by kernel_rfl) (by kernel_rfl) (fun _ _ _ h => h) (by rfl) (by assumption) ?hys1005 ?rests1005
          case hys1005 => (intro w hSw; (try dsimp only at hSw); first | (go_simp; done) | (go_simp; with_reducible rfl))
          simp only [Act.put, List.setIfInBounds_toArray, List.set_cons_zero, List.set_cons_succ]
          refine wpAnyH_done (by kernel_rfl) ?_ _
          go_wp2
          go_roundw
          case rel => exact ⟨Or.inr (Or.inl ⟨rfl, rfl⟩), x_t, x_d, BB⟩
          case measure => simp [intOf]
        · skip
          have x_t := xt
          have x_d := xd
          have BB := bel
          clear xt xd bel
          have zt := b6_lt x_t
          have zd := bx_lt x_d
          have EI := idxP1 a1 a2 b1 b2 c1 c2
          obtain ⟨g, hg⟩ : ∃ g, g = cmpP b1 b2 a1 a2 := ⟨_, rfl⟩
          have pg : (0 < g) = True := by rw [hg]; exact eq_true (cmp_yes hab)
          have Gg : Hid _ := hg
          clear hg
          obtain ⟨V, hV, bV, x_p, sV⟩ := bs_2 wr (.int .i64 b1) (.int .i64 b2) 23
          have zbV := bV.size
          replace x_t := x_t.on bV
          replace x_d := x_d.on bV
          replace BB := also BB bV
          go_wp2
          rw [← hV]
          clear hV
          have dd1 : Below V.heap.size V V.drew := (Below.refl _ _).drew
          have zdd1 := dd1.size
          replace x_t := x_t.on dd1
          replace x_d := x_d.on dd1
          replace BB := also BB dd1
          replace x_p := x_p.on dd1
          refine wp_region_held_drew (S := (fun w' => w'.cell? ⟨wr.heap.size, 0, none⟩ = some (.int .i64 b1) ∧ w'.cell? ⟨wr.heap.size, 1, none⟩ = some (.int .i64 b2) ∧ w'.cell? ⟨w.heap.size, 0, none⟩ = some (.int .i64 a1) ∧ w'.cell? ⟨w.heap.size, 1, none⟩ = some (.int .i64 a2) ∧ w'.cell? ⟨w.heap.size, 2, none⟩ = some (.int .i64 b1) ∧ w'.cell? ⟨w.heap.size, 3, none⟩ = some (.int .i64 b2) ∧ w'.cell? ⟨w.heap.size, 4, none⟩ = some (.int .i64 c1) ∧ w'.cell? ⟨w.heap.size, 5, none⟩ = some (.int .i64 c2) ∧ Below w.heap.size w w')) (by kernel_rfl) ?_ (fun hHeld => ?_)
          · exact ⟨x_p.c0, x_p.c1, x_t.c0, x_t.c1, x_t.c2, x_t.c3, x_t.c4, x_t.c5, BB⟩
          refine take_yes (i := 0) (v := ?vs1010) rfl (by kernel_rfl) (by kernel_rfl) (by kernel_rfl) (fun _ _ _ h => h) (by rfl) (by assumption) ?hys1010 ?rests1010
          case hys1010 => (intro w hSw; (try dsimp only at hSw); first | (go_simp; done) | (go_simp; with_reducible rfl))
          simp only [Act.put, List.setIfInBounds_toArray, List.set_cons_zero, List.set_cons_succ]
          refine take_yes (i := 1) (v := ?vs1011) rfl (by kernel_rfl) (by kernel_rfl) (by kernel_rfl) (fun _ _ _ h => h) (by rfl) (by assumption) ?hys1011 ?rests1011
          case hys1011 => (intro w hSw; (try dsimp only at hSw); first | (go_simp; done) | (go_simp; with_reducible rfl))
          simp only [Act.put, List.setIfInBounds_toArray, List.set_cons_zero, List.set_cons_succ]
          refine take_yes (i := 2) (v := ?vs1012) rfl (by kernel_rfl) (by kernel_rfl) (by kernel_rfl) (fun _ _ _ h => h) (by rfl) (by assumption) ?hys1012 ?rests1012
          case hys1012 => (intro w hSw; (try dsimp only at hSw); first | (go_simp; done) | (go_simp; with_reducible rfl))
          simp only [Act.put, List.setIfInBounds_toArray, List.set_cons_zero, List.set_cons_succ]
          refine take_yes (i := 3) (v := ?vs1013) rfl (by kernel_rfl) (by kernel_rfl) (by kernel_rfl) (fun _ _ _ h => h) (by rfl) (by assumption) ?hys1013 ?rests1013
          case hys1013 => (intro w hSw; (try dsimp only at hSw); first | (go_simp; done) | (go_simp; with_reducible rfl))
          simp only [Act.put, List.setIfInBounds_toArray, List.set_cons_zero, List.set_cons_succ]
          refine take_call (i := 4) rfl (by kernel_rfl) (fun Kc hK => ?_)
          go_simp
          (go_at_call 37; refine (lCmp b1 b2 a1 a2 _ Gg.out).mono ?_; rintro e w1 ⟨rfl, bw1⟩)
          refine hK.out _ _ ?_ (fun hHeld => ?_)
          · exact ⟨cell_on bw1 hHeld.1, cell_on bw1 hHeld.2.1, cell_on bw1 hHeld.2.2.1, cell_on bw1 hHeld.2.2.2.1, cell_on bw1 hHeld.2.2.2.2.1, cell_on bw1 hHeld.2.2.2.2.2.1, cell_on bw1 hHeld.2.2.2.2.2.2.1, cell_on bw1 hHeld.2.2.2.2.2.2.2.1, also hHeld.2.2.2.2.2.2.2.2 bw1⟩
          clear hK Kc
          have zbw1 := bw1.size
          replace x_t := x_t.on bw1
          replace x_d := x_d.on bw1
          replace BB := also BB bw1
          replace x_p := x_p.on bw1
          refine take_yes (i := 5) (v := ?vs1015) rfl (by kernel_rfl) (by kernel_rfl) (by kernel_rfl) (fun _ _ _ h => h) (by rfl) (by assumption) ?hys1015 ?rests1015
          case hys1015 => (intro w hSw; (try dsimp only at hSw); first | (go_simp; done) | (go_simp; with_reducible rfl))
          simp only [Act.put, List.setIfInBounds_toArray, List.set_cons_zero, List.set_cons_succ]
          refine wpAnyH_done (by kernel_rfl) ?_ _
          go_wp2
          go_roundw
          case rel => exact ⟨Or.inr (Or.inr (Or.inl ⟨rfl, rfl⟩)), x_t, x_d, BB⟩
          case measure => simp [intOf]
        · skip
          have x_t := xt
          have x_d := xd
          have BB := bel
          clear xt xd bel
          have zt := b6_lt x_t
          have zd := bx_lt x_d
          have EI := idxP2 a1 a2 b1 b2 c1 c2
          obtain ⟨g, hg⟩ : ∃ g, g = cmpP c1 c2 b1 b2 := ⟨_, rfl⟩
          have pg : (0 < g) = False := by rw [hg]; exact eq_false (cmp_not hmc)
          have Gg : Hid _ := hg
          clear hg
          obtain ⟨V, hV, bV, x_p, sV⟩ := bs_2 wr (.int .i64 c1) (.int .i64 c2) 23
          have zbV := bV.size
          replace x_t := x_t.on bV
          replace x_d := x_d.on bV
          replace BB := also BB bV
          go_wp2
          rw [← hV]
          clear hV
          have dd1 : Below V.heap.size V V.drew := (Below.refl _ _).drew
          have zdd1 := dd1.size
          replace x_t := x_t.on dd1
          replace x_d := x_d.on dd1
          replace BB := also BB dd1
          replace x_p := x_p.on dd1
          refine wp_region_held_drew (S := (fun w' => w'.cell? ⟨wr.heap.size, 0, none⟩ = some (.int .i64 c1) ∧ w'.cell? ⟨wr.heap.size, 1, none⟩ = some (.int .i64 c2) ∧ w'.cell? ⟨w.heap.size, 0, none⟩ = some (.int .i64 a1) ∧ w'.cell? ⟨w.heap.size, 1, none⟩ = some (.int .i64 a2) ∧ w'.cell? ⟨w.heap.size, 2, none⟩ = some (.int .i64 b1) ∧ w'.cell? ⟨w.heap.size, 3, none⟩ = some (.int .i64 b2) ∧ w'.cell? ⟨w.heap.size, 4, none⟩ = some (.int .i64 c1) ∧ w'.cell? ⟨w.heap.size, 5, none⟩ = some (.int .i64 c2) ∧ Below w.heap.size w w')) (by kernel_rfl) ?_ (fun hHeld => ?_)
          · exact ⟨x_p.c0, x_p.c1, x_t.c0, x_t.c1, x_t.c2, x_t.c3, x_t.c4, x_t.c5, BB⟩
          refine take_yes (i := 0) (v := ?vs1020) rfl (by kernel_rfl) (by kernel_rfl) (by kernel_rfl) (fun _ _ _ h => h) (by rfl) (by assumption) ?hys1020 ?rests1020
          case hys1020 => (intro w hSw; (try dsimp only at hSw); first | (go_simp; done) | (go_simp; with_reducible rfl))
          simp only [Act.put, List.setIfInBounds_toArray, List.set_cons_zero, List.set_cons_succ]
          refine take_yes (i := 1) (v := ?vs1021) rfl (by kernel_rfl) (by kernel_rfl) (by kernel_rfl) (fun _ _ _ h => h) (by rfl) (by assumption) ?hys1021 ?rests1021
          case hys1021 => (intro w hSw; (try dsimp only at hSw); first | (go_simp; done) | (go_simp; with_reducible rfl))
          simp only [Act.put, List.setIfInBounds_toArray, List.set_cons_zero, List.set_cons_succ]
          refine take_yes (i := 2) (v := ?vs1022) rfl (by kernel_rfl) (by kernel_rfl) (by kernel_rfl) (fun _ _ _ h => h) (by rfl) (by assumption) ?hys1022 ?rests1022
          case hys1022 => (intro w hSw; (try dsimp only at hSw); first | (go_simp; done) | (go_simp; with_reducible rfl))
          simp only [Act.put, List.setIfInBounds_toArray, List.set_cons_zero, List.set_cons_succ]
          refine take_yes (i := 3) (v := ?vs1023) rfl (by kernel_rfl) (by kernel_rfl) (by kernel_rfl) (fun _ _ _ h => h) (by rfl) (by assumption) ?hys1023 ?rests1023
          case hys1023 => (intro w hSw; (try dsimp only at hSw); first | (go_simp; done) | (go_simp; with_reducible rfl))
          simp only [Act.put, List.setIfInBounds_toArray, List.set_cons_zero, List.set_cons_succ]
          refine take_call (i := 4) rfl (by kernel_rfl) (fun Kc hK => ?_)
          go_simp
          (go_at_call 37; refine (lCmp c1 c2 b1 b2 _ Gg.out).mono ?_; rintro e w1 ⟨rfl, bw1⟩)
          refine hK.out _ _ ?_ (fun hHeld => ?_)
          · exact ⟨cell_on bw1 hHeld.1, cell_on bw1 hHeld.2.1, cell_on bw1 hHeld.2.2.1, cell_on bw1 hHeld.2.2.2.1, cell_on bw1 hHeld.2.2.2.2.1, cell_on bw1 hHeld.2.2.2.2.2.1, cell_on bw1 hHeld.2.2.2.2.2.2.1, cell_on bw1 hHeld.2.2.2.2.2.2.2.1, also hHeld.2.2.2.2.2.2.2.2 bw1⟩
          clear hK Kc
          have zbw1 := bw1.size
          replace x_t := x_t.on bw1
          replace x_d := x_d.on bw1
          replace BB := also BB bw1
          replace x_p := x_p.on bw1
          refine take_yes (i := 5) (v := ?vs1025) rfl (by kernel_rfl) (by kernel_rfl) (by kernel_rfl) (fun _ _ _ h => h) (by rfl) (by assumption) ?hys1025 ?rests1025
          case hys1025 => (intro w hSw; (try dsimp only at hSw); first | (go_simp; done) | (go_simp; with_reducible rfl))
          simp only [Act.put, List.setIfInBounds_toArray, List.set_cons_zero, List.set_cons_succ]
          refine wpAnyH_done (by kernel_rfl) ?_ _
          go_wp2
          go_roundw
          case rel => exact ⟨Or.inr (Or.inr (Or.inr (⟨rfl, rfl⟩))), x_t, x_d, BB⟩
          case measure => simp [intOf]
        · skip
          have x_t := xt
          have x_d := xd
          have BB := bel
          clear xt xd bel
          have zt := b6_lt x_t
          have zd := bx_lt x_d
          cases hD : ltQ (b1, b2) (d1, d2)
          · skip
            have hl : r = decide ((arP a1 a2 d1 d2 c1 c2).sign = 1) := by rw [hr, hD]; rfl
            obtain ⟨s, hs⟩ : ∃ s, s = (arP a1 a2 d1 d2 c1 c2).sign := ⟨_, rfl⟩
            rw [← hs] at hl
            have HS : Hid _ := hs
            have HL : Hid _ := hl
            clear hs hl hr
            obtain ⟨g, hg⟩ : ∃ g, g = cmpP d1 d2 b1 b2 := ⟨_, rfl⟩
            have pg : (0 < g) = False := by rw [hg]; exact eq_false (cmp_not hD)
            have Gg : Hid _ := hg
            clear hg
            go_wp2
            have dd1 : Below wr.heap.size wr wr.drew := (Below.refl _ _).drew
            have zdd1 := dd1.size
            replace x_t := x_t.on dd1
            replace x_d := x_d.on dd1
            replace BB := also BB dd1
            refine wp_region_held_drew (S := (fun w' => w'.cell? ⟨w.heap.size + 1, 0, none⟩ = some (.int .i64 d1) ∧ w'.cell? ⟨w.heap.size + 1, 1, none⟩ = some (.int .i64 d2) ∧ w'.cell? ⟨w.heap.size, 0, none⟩ = some (.int .i64 a1) ∧ w'.cell? ⟨w.heap.size, 1, none⟩ = some (.int .i64 a2) ∧ w'.cell? ⟨w.heap.size, 2, none⟩ = some (.int .i64 b1) ∧ w'.cell? ⟨w.heap.size, 3, none⟩ = some (.int .i64 b2) ∧ w'.cell? ⟨w.heap.size, 4, none⟩ = some (.int .i64 c1) ∧ w'.cell? ⟨w.heap.size, 5, none⟩ = some (.int .i64 c2) ∧ Below w.heap.size w w')) (by kernel_rfl) ?_ (fun hHeld => ?_)
            · exact ⟨x_d.c0, x_d.c1, x_t.c0, x_t.c1, x_t.c2, x_t.c3, x_t.c4, x_t.c5, BB⟩
            refine take_yes (i := 0) (v := ?ve1000) rfl (by kernel_rfl) (by kernel_rfl) (by kernel_rfl) (fun _ _ _ h => h) (by rfl) (by assumption) ?hye1000 ?reste1000
            case hye1000 => (intro w hSw; (try dsimp only at hSw); first | (go_simp; done) | (go_simp; with_reducible rfl))
            simp only [Act.put, List.setIfInBounds_toArray, List.set_cons_zero, List.set_cons_succ]
            refine take_yes (i := 1) (v := ?ve1001) rfl (by kernel_rfl) (by kernel_rfl) (by kernel_rfl) (fun _ _ _ h => h) (by rfl) (by assumption) ?hye1001 ?reste1001
            case hye1001 => (intro w hSw; (try dsimp only at hSw); first | (go_simp; done) | (go_simp; with_reducible rfl))
            simp only [Act.put, List.setIfInBounds_toArray, List.set_cons_zero, List.set_cons_succ]
            refine take_yes (i := 2) (v := ?ve1002) rfl (by kernel_rfl) (by kernel_rfl) (by kernel_rfl) (fun _ _ _ h => h) (by rfl) (by assumption) ?hye1002 ?reste1002
            case hye1002 => (intro w hSw; (try dsimp only at hSw); first | (go_simp; done) | (go_simp; with_reducible rfl))
            simp only [Act.put, List.setIfInBounds_toArray, List.set_cons_zero, List.set_cons_succ]
            refine take_yes (i := 3) (v := ?ve1003) rfl (by kernel_rfl) (by kernel_rfl) (by kernel_rfl) (fun _ _ _ h => h) (by rfl) (by assumption) ?hye1003 ?reste1003
            case hye1003 => (intro w hSw; (try dsimp only at hSw); first | (go_simp; done) | (go_simp; with_reducible rfl))
            simp only [Act.put, List.setIfInBounds_toArray, List.set_cons_zero, List.set_cons_succ]
            refine take_call (i := 4) rfl (by kernel_rfl) (fun Kc hK => ?_)
            go_simp
            (go_at_call 37; refine (lCmp d1 d2 b1 b2 _ Gg.out).mono ?_; rintro e w1 ⟨rfl, bw1⟩)
            refine hK.out _ _ ?_ (fun hHeld => ?_)
            · exact ⟨cell_on bw1 hHeld.1, cell_on bw1 hHeld.2.1, cell_on bw1 hHeld.2.2.1, cell_on bw1 hHeld.2.2.2.1, cell_on bw1 hHeld.2.2.2.2.1, cell_on bw1 hHeld.2.2.2.2.2.1, cell_on bw1 hHeld.2.2.2.2.2.2.1, cell_on bw1 hHeld.2.2.2.2.2.2.2.1, also hHeld.2.2.2.2.2.2.2.2 bw1⟩
            clear hK Kc
            have zbw1 := bw1.size
            replace x_t := x_t.on bw1
            replace x_d := x_d.on bw1
            replace BB := also BB bw1
            refine take_yes (i := 5) (v := ?ve1005) rfl (by kernel_rfl) (by kernel_rfl) (by kernel_rfl) (fun _ _ _ h => h) (by rfl) (by assumption) ?hye1005 ?reste1005
            case hye1005 => (intro w hSw; (try dsimp only at hSw); first | (go_simp; done) | (go_simp; with_reducible rfl))
            simp only [Act.put, List.setIfInBounds_toArray, List.set_cons_zero, List.set_cons_succ]
            refine wpAnyH_done (by kernel_rfl) ?_ _
            have ⟨x_t_0, x_t_1, x_t_2, x_t_3, x_t_4, x_t_5, x_t_6, x_t_7, x_t_8, x_t_9, x_t_10, x_t_11⟩ := x_t
            have ⟨x_d_0, x_d_1, x_d_2, x_d_3⟩ := x_d
            go_wp2_with (go_at_call 18; fail)
            have B2 : Below w.heap.size w ((w1.setCell ⟨w.heap.size, 2, none⟩ (.int .i64 d1)).setCell ⟨w.heap.size, 3, none⟩ (.int .i64 d2)) := (BB.setCell (Nat.le_refl _) _).setCell (Nat.le_refl _) _
            refine (pOrient a1 a2 d1 d2 c1 c2 _ HS.out).mono ?_
            rintro e w2 ⟨rfl, b2⟩
            go_wp2
            go_ret
            exact ⟨by rw [HL.out]; rfl, also B2 b2⟩
          · skip
            obtain rfl : r = false := by rw [hr, hD]; rfl
            clear hr
            obtain ⟨g, hg⟩ : ∃ g, g = cmpP d1 d2 b1 b2 := ⟨_, rfl⟩
            have pg : (0 < g) = True := by rw [hg]; exact eq_true (cmp_yes hD)
            have Gg : Hid _ := hg
            clear hg
            go_wp2
            have dd1 : Below wr.heap.size wr wr.drew := (Below.refl _ _).drew
            have zdd1 := dd1.size
            replace x_t := x_t.on dd1
            replace x_d := x_d.on dd1
            replace BB := also BB dd1
            refine wp_region_held_drew (S := (fun w' => w'.cell? ⟨w.heap.size + 1, 0, none⟩ = some (.int .i64 d1) ∧ w'.cell? ⟨w.heap.size + 1, 1, none⟩ = some (.int .i64 d2) ∧ w'.cell? ⟨w.heap.size, 0, none⟩ = some (.int .i64 a1) ∧ w'.cell? ⟨w.heap.size, 1, none⟩ = some (.int .i64 a2) ∧ w'.cell? ⟨w.heap.size, 2, none⟩ = some (.int .i64 b1) ∧ w'.cell? ⟨w.heap.size, 3, none⟩ = some (.int .i64 b2) ∧ w'.cell? ⟨w.heap.size, 4, none⟩ = some (.int .i64 c1) ∧ w'.cell? ⟨w.heap.size, 5, none⟩ = some (.int .i64 c2) ∧ Below w.heap.size w w')) (by kernel_rfl) ?_ (fun hHeld => ?_)
            · exact ⟨x_d.c0, x_d.c1, x_t.c0, x_t.c1, x_t.c2, x_t.c3, x_t.c4, x_t.c5, BB⟩
            refine take_yes (i := 0) (v := ?ve1010) rfl (by kernel_rfl) (by kernel_rfl) (by kernel_rfl) (fun _ _ _ h => h) (by rfl) (by assumption) ?hye1010 ?reste1010
            case hye1010 => (intro w hSw; (try dsimp only at hSw); first | (go_simp; done) | (go_simp; with_reducible rfl))
            simp only [Act.put, List.setIfInBounds_toArray, List.set_cons_zero, List.set_cons_succ]
            refine take_yes (i := 1) (v := ?ve1011) rfl (by kernel_rfl) (by kernel_rfl) (by kernel_rfl) (fun _ _ _ h => h) (by rfl) (by assumption) ?hye1011 ?reste1011
            case hye1011 => (intro w hSw; (try dsimp only at hSw); first | (go_simp; done) | (go_simp; with_reducible rfl))
            simp only [Act.put, List.setIfInBounds_toArray, List.set_cons_zero, List.set_cons_succ]
            refine take_yes (i := 2) (v := ?ve1012) rfl (by kernel_rfl) (by kernel_rfl) (by kernel_rfl) (fun _ _ _ h => h) (by rfl) (by assumption) ?hye1012 ?reste1012
            case hye1012 => (intro w hSw; (try dsimp only at hSw); first | (go_simp; done) | (go_simp; with_reducible rfl))
            simp only [Act.put, List.setIfInBounds_toArray, List.set_cons_zero, List.set_cons_succ]
            refine take_yes (i := 3) (v := ?ve1013) rfl (by kernel_rfl) (by kernel_rfl) (by kernel_rfl) (fun _ _ _ h => h) (by rfl) (by assumption) ?hye1013 ?reste1013
            case hye1013 => (intro w hSw; (try dsimp only at hSw); first | (go_simp; done) | (go_simp; with_reducible rfl))
            simp only [Act.put, List.setIfInBounds_toArray, List.set_cons_zero, List.set_cons_succ]
            refine take_call (i := 4) rfl (by kernel_rfl) (fun Kc hK => ?_)
            go_simp
            (go_at_call 37; refine (lCmp d1 d2 b1 b2 _ Gg.out).mono ?_; rintro e w1 ⟨rfl, bw1⟩)
            refine hK.out _ _ ?_ (fun hHeld => ?_)
            · exact ⟨cell_on bw1 hHeld.1, cell_on bw1 hHeld.2.1, cell_on bw1 hHeld.2.2.1, cell_on bw1 hHeld.2.2.2.1, cell_on bw1 hHeld.2.2.2.2.1, cell_on bw1 hHeld.2.2.2.2.2.1, cell_on bw1 hHeld.2.2.2.2.2.2.1, cell_on bw1 hHeld.2.2.2.2.2.2.2.1, also hHeld.2.2.2.2.2.2.2.2 bw1⟩
            clear hK Kc
            have zbw1 := bw1.size
            replace x_t := x_t.on bw1
            replace x_d := x_d.on bw1
            replace BB := also BB bw1
            refine take_yes (i := 5) (v := ?ve1015) rfl (by kernel_rfl) (by kernel_rfl) (by kernel_rfl) (fun _ _ _ h => h) (by rfl) (by assumption) ?hye1015 ?reste1015
            case hye1015 => (intro w hSw; (try dsimp only at hSw); first | (go_simp; done) | (go_simp; with_reducible rfl))
            simp only [Act.put, List.setIfInBounds_toArray, List.set_cons_zero, List.set_cons_succ]
            refine wpAnyH_done (by kernel_rfl) ?_ _
            go_wp2
            go_ret
            exact ⟨rfl, BB⟩
    · simp only [hmc, if_true] at hr
      obtain ⟨W, hW, bW, x_t, x_d, sW⟩ := bs_62 w (.int .i64 a1) (.int .i64 a2) (.int .i64 b1) (.int .i64 b2) (.int .i64 c1) (.int .i64 c2) (.int .i64 d1) (.int .i64 d2) 24 23
      have zbW := bW.size
      have BB := bW
      go_enter Try.func20, Try.ntmps20
      go_wp2
      rw [← hW]
      clear hW
      go_loopw [5, 9] (fun l i wr => ((i = .int .i64 0 ∧ l = .int .i64 0) ∨ (i = .int .i64 1 ∧ l = .int .i64 0) ∨ (i = .int .i64 2 ∧ l = .int .i64 1) ∨ (i = .int .i64 3 ∧ l = .int .i64 2)) ∧ B6 wr w.heap.size (.int .i64 a1) (.int .i64 a2) (.int .i64 b1) (.int .i64 b2) (.int .i64 c1) (.int .i64 c2) ∧ Bx wr (w.heap.size + 1) (.int .i64 d1) (.int .i64 d2) ∧ Below w.heap.size w wr) (fun _ i _ => 3 - (intOf i).toNat)
      case atStart => exact ⟨Or.inl ⟨rfl, rfl⟩, x_t, x_d, BB⟩
      case round =>
        obtain ⟨hki, xt, xd, bel⟩ := hrel
        clear x_t x_d BB
        rcases hki with ⟨rfl, rfl⟩ | ⟨rfl, rfl⟩ | ⟨rfl, rfl⟩ | ⟨rfl, rfl⟩
        · skip
          have x_t := xt
          have x_d := xd
          have BB := bel
          clear xt xd bel
          have zt := b6_lt x_t
          have zd := bx_lt x_d
          have EI := idxP0 a1 a2 b1 b2 c1 c2
          obtain ⟨g, hg⟩ : ∃ g, g = cmpP a1 a2 a1 a2 := ⟨_, rfl⟩
          have pg : (0 < g) = False := by rw [hg]; exact eq_false (cmp_self _ _)
          have Gg : Hid _ := hg
          clear hg
          obtain ⟨V, hV, bV, x_p, sV⟩ := bs_2 wr (.int .i64 a1) (.int .i64 a2) 23
          have zbV := bV.size
          replace x_t := x_t.on bV
          replace x_d := x_d.on bV
          replace BB := also BB bV
          go_wp2
          rw [← hV]
          clear hV
          have dd1 : Below V.heap.size V V.drew := (Below.refl _ _).drew
          have zdd1 := dd1.size
          replace x_t := x_t.on dd1
          replace x_d := x_d.on dd1
          replace BB := also BB dd1
          replace x_p := x_p.on dd1
          refine wp_region_held_drew (S := (fun w' => w'.cell? ⟨wr.heap.size, 0, none⟩ = some (.int .i64 a1) ∧ w'.cell? ⟨wr.heap.size, 1, none⟩ = some (.int .i64 a2) ∧ w'.cell? ⟨w.heap.size, 0, none⟩ = some (.int .i64 a1) ∧ w'.cell? ⟨w.heap.size, 1, none⟩ = some (.int .i64 a2) ∧ w'.cell? ⟨w.heap.size, 2, none⟩ = some (.int .i64 b1) ∧ w'.cell? ⟨w.heap.size, 3, none⟩ = some (.int .i64 b2) ∧ w'.cell? ⟨w.heap.size, 4, none⟩ = some (.int .i64 c1) ∧ w'.cell? ⟨w.heap.size, 5, none⟩ = some (.int .i64 c2) ∧ Below w.heap.size w w')) (by kernel_rfl) ?_ (fun hHeld => ?_)
          · exact ⟨x_p.c0, x_p.c1, x_t.c0, x_t.c1, x_t.c2, x_t.c3, x_t.c4, x_t.c5, BB⟩
          refine take_yes (i := 0) (v := ?vs1100) rfl (by kernel_rfl) (by kernel_rfl) (by kernel_rfl) (fun _ _ _ h => h) (by rfl) (by assumption) ?hys1100 ?rests1100
          case hys1100 => (intro w hSw; (try dsimp only at hSw); first | (go_simp; done) | (go_simp; with_reducible rfl))
          simp only [Act.put, List.setIfInBounds_toArray, List.set_cons_zero, List.set_cons_succ]
          refine take_yes (i := 1) (v := ?vs1101) rfl (by kernel_rfl) (by kernel_rfl) (by kernel_rfl) (fun _ _ _ h => h) (by rfl) (by assumption) ?hys1101 ?rests1101
          case hys1101 => (intro w hSw; (try dsimp only at hSw); first | (go_simp; done) | (go_simp; with_reducible rfl))
          simp only [Act.put, List.setIfInBounds_toArray, List.set_cons_zero, List.set_cons_succ]
          refine take_yes (i := 2) (v := ?vs1102) rfl (by kernel_rfl) (by kernel_rfl) (by kernel_rfl) (fun _ _ _ h => h) (by rfl) (by assumption) ?hys1102 ?rests1102
          case hys1102 => (intro w hSw; (try dsimp only at hSw); first | (go_simp; done) | (go_simp; with_reducible rfl))
          simp only [Act.put, List.setIfInBounds_toArray, List.set_cons_zero, List.set_cons_succ]
          refine take_yes (i := 3) (v := ?vs1103) rfl (by kernel_rfl) (by kernel_rfl) (by kernel_rfl) (fun _ _ _ h => h) (by rfl) (by assumption) ?hys1103 ?rests1103
          case hys1103 => (intro w hSw; (try dsimp only at hSw); first | (go_simp; done) | (go_simp; with_reducible rfl))
          simp only [Act.put, List.setIfInBounds_toArray, List.set_cons_zero, List.set_cons_succ]
          refine take_call (i := 4) rfl (by kernel_rfl) (fun Kc hK => ?_)
          go_simp
          (go_at_call 37; refine (lCmp a1 a2 a1 a2 _ Gg.out).mono ?_; rintro e w1 ⟨rfl, bw1⟩)
          refine hK.out _ _ ?_ (fun hHeld => ?_)
          · exact ⟨cell_on bw1 hHeld.1, cell_on bw1 hHeld.2.1, cell_on bw1 hHeld.2.2.1, cell_on bw1 hHeld.2.2.2.1, cell_on bw1 hHeld.2.2.2.2.1, cell_on bw1 hHeld.2.2.2.2.2.1, cell_on bw1 hHeld.2.2.2.2.2.2.1, cell_on bw1 hHeld.2.2.2.2.2.2.2.1, also hHeld.2.2.2.2.2.2.2.2 bw1⟩
          clear hK Kc
          have zbw1 := bw1.size
          replace x_t := x_t.on bw1
          replace x_d := x_d.on bw1
          replace BB := also BB bw1
          replace x_p := x_p.on bw1
          refine take_yes (i := 5) (v := ?vs1105) rfl (by kernel_rfl) (by kernel_rfl) (by kernel_rfl) (fun _ _ _ h => h) (by rfl) (by assumption) ?hys1105 ?rests1105
          case hys1105 => (intro w hSw; (try dsimp only at hSw); first | (go_simp; done) | (go_simp; with_reducible rfl))
          simp only [Act.put, List.setIfInBounds_toArray, List.set_cons_zero, List.set_cons_succ]
          refine wpAnyH_done (by kernel_rfl) ?_ _
          go_wp2
          go_roundw
          case rel => exact ⟨Or.inr (Or.inl ⟨rfl, rfl⟩), x_t, x_d, BB⟩
          case measure => simp [intOf]
        · skip
          have x_t := xt
          have x_d := xd
          have BB := bel
          clear xt xd bel
          have zt := b6_lt x_t
          have zd := bx_lt x_d
          have EI := idxP1 a1 a2 b1 b2 c1 c2
          obtain ⟨g, hg⟩ : ∃ g, g = cmpP b1 b2 a1 a2 := ⟨_, rfl⟩
          have pg : (0 < g) = True := by rw [hg]; exact eq_true (cmp_yes hab)
          have Gg : Hid _ := hg
          clear hg
          obtain ⟨V, hV, bV, x_p, sV⟩ := bs_2 wr (.int .i64 b1) (.int .i64 b2) 23
          have zbV := bV.size
          replace x_t := x_t.on bV
          replace x_d := x_d.on bV
          replace BB := also BB bV
          go_wp2
          rw [← hV]
          clear hV
          have dd1 : Below V.heap.size V V.drew := (Below.refl _ _).drew
          have zdd1 := dd1.size
          replace x_t := x_t.on dd1
          replace x_d := x_d.on dd1
          replace BB := also BB dd1
          replace x_p := x_p.on dd1
          refine wp_region_held_drew (S := (fun w' => w'.cell? ⟨wr.heap.size, 0, none⟩ = some (.int .i64 b1) ∧ w'.cell? ⟨wr.heap.size, 1, none⟩ = some (.int .i64 b2) ∧ w'.cell? ⟨w.heap.size, 0, none⟩ = some (.int .i64 a1) ∧ w'.cell? ⟨w.heap.size, 1, none⟩ = some (.int .i64 a2) ∧ w'.cell? ⟨w.heap.size, 2, none⟩ = some (.int .i64 b1) ∧ w'.cell? ⟨w.heap.size, 3, none⟩ = some (.int .i64 b2) ∧ w'.cell? ⟨w.heap.size, 4, none⟩ = some (.int .i64 c1) ∧ w'.cell? ⟨w.heap.size, 5, none⟩ = some (.int .i64 c2) ∧ Below w.heap.size w w')) (by kernel_rfl) ?_ (fun hHeld => ?_)
          · exact ⟨x_p.c0, x_p.c1, x_t.c0, x_t.c1, x_t.c2, x_t.c3, x_t.c4, x_t.c5, BB⟩
          refine take_yes (i := 0) (v := ?vs1110) rfl (by kernel_rfl) (by kernel_rfl) (by kernel_rfl) (fun _ _ _ h => h) (by rfl) (by assumption) ?hys1110 ?rests1110
          case hys1110 => (intro w hSw; (try dsimp only at hSw); first | (go_simp; done) | (go_simp; with_reducible rfl))
          simp only [Act.put, List.setIfInBounds_toArray, List.set_cons_zero, List.set_cons_succ]
          refine take_yes (i := 1) (v := ?vs1111) rfl (by kernel_rfl) (by kernel_rfl) (by kernel_rfl) (fun _ _ _ h => h) (by rfl) (by assumption) ?hys1111 ?rests1111
          case hys1111 => (intro w hSw; (try dsimp only at hSw); first | (go_simp; done) | (go_simp; with_reducible rfl))
          simp only [Act.put, List.setIfInBounds_toArray, List.set_cons_zero, List.set_cons_succ]
          refine take_yes (i := 2) (v := ?vs1112) rfl (by kernel_rfl) (by kernel_rfl) (by kernel_rfl) (fun _ _ _ h => h) (by rfl) (by assumption) ?hys1112 ?rests1112
          case hys1112 => (intro w hSw; (try dsimp only at hSw); first | (go_simp; done) | (go_simp; with_reducible rfl))
          simp only [Act.put, List.setIfInBounds_toArray, List.set_cons_zero, List.set_cons_succ]
          refine take_yes (i := 3) (v := ?vs1113) rfl (by kernel_rfl) (by kernel_rfl) (by kernel_rfl) (fun _ _ _ h => h) (by rfl) (by assumption) ?hys1113 ?rests1113
          case hys1113 => (intro w hSw; (try dsimp only at hSw); first | (go_simp; done) | (go_simp; with_reducible rfl))
          simp only [Act.put, List.setIfInBounds_toArray, List.set_cons_zero, List.set_cons_succ]
          refine take_call (i := 4) rfl (by kernel_rfl) (fun Kc hK => ?_)
          go_simp
          (go_at_call 37; refine (lCmp b1 b2 a1 a2 _ Gg.out).mono ?_; rintro e w1 ⟨rfl, bw1⟩)
          refine hK.out _ _ ?_ (fun hHeld => ?_)
          · exact ⟨cell_on bw1 hHeld.1, cell_on bw1 hHeld.2.1, cell_on bw1 hHeld.2.2.1, cell_on bw1 hHeld.2.2.2.1, cell_on bw1 hHeld.2.2.2.2.1, cell_on bw1 hHeld.2.2.2.2.2.1, cell_on bw1 hHeld.2.2.2.2.2.2.1, cell_on bw1 hHeld.2.2.2.2.2.2.2.1, also hHeld.2.2.2.2.2.2.2.2 bw1⟩
          clear hK Kc
          have zbw1 := bw1.size
          replace x_t := x_t.on bw1
          replace x_d := x_d.on bw1
          replace BB := also BB bw1
          replace x_p := x_p.on bw1
          refine take_yes (i := 5) (v := ?vs1115) rfl (by kernel_rfl) (by kernel_rfl) (by kernel_rfl) (fun _ _ _ h => h) (by rfl) (by assumption) ?hys1115 ?rests1115
          case hys1115 => (intro w hSw; (try dsimp only at hSw); first | (go_simp; done) | (go_simp; with_reducible rfl))
          simp only [Act.put, List.setIfInBounds_toArray, List.set_cons_zero, List.set_cons_succ]
          refine wpAnyH_done (by kernel_rfl) ?_ _
          go_wp2
          go_roundw
          case rel => exact ⟨Or.inr (Or.inr (Or.inl ⟨rfl, rfl⟩)), x_t, x_d, BB⟩
          case measure => simp [intOf]
        · skip
          have x_t := xt
          have x_d := xd
          have BB := bel
          clear xt xd bel
          have zt := b6_lt x_t
          have zd := bx_lt x_d
          have EI := idxP2 a1 a2 b1 b2 c1 c2
          obtain ⟨g, hg⟩ : ∃ g, g = cmpP c1 c2 b1 b2 := ⟨_, rfl⟩
          have pg : (0 < g) = True := by rw [hg]; exact eq_true (cmp_yes hmc)
          have Gg : Hid _ := hg
          clear hg
          obtain ⟨V, hV, bV, x_p, sV⟩ := bs_2 wr (.int .i64 c1) (.int .i64 c2) 23
          have zbV := bV.size
          replace x_t := x_t.on bV
          replace x_d := x_d.on bV
          replace BB := also BB bV
          go_wp2
          rw [← hV]
          clear hV
          have dd1 : Below V.heap.size V V.drew := (Below.refl _ _).drew
          have zdd1 := dd1.size
          replace x_t := x_t.on dd1
          replace x_d := x_d.on dd1
          replace BB := also BB dd1
          replace x_p := x_p.on dd1
          refine wp_region_held_drew (S := (fun w' => w'.cell? ⟨wr.heap.size, 0, none⟩ = some (.int .i64 c1) ∧ w'.cell? ⟨wr.heap.size, 1, none⟩ = some (.int .i64 c2) ∧ w'.cell? ⟨w.heap.size, 0, none⟩ = some (.int .i64 a1) ∧ w'.cell? ⟨w.heap.size, 1, none⟩ = some (.int .i64 a2) ∧ w'.cell? ⟨w.heap.size, 2, none⟩ = some (.int .i64 b1) ∧ w'.cell? ⟨w.heap.size, 3, none⟩ = some (.int .i64 b2) ∧ w'.cell? ⟨w.heap.size, 4, none⟩ = some (.int .i64 c1) ∧ w'.cell? ⟨w.heap.size, 5, none⟩ = some (.int .i64 c2) ∧ Below w.heap.size w w')) (by kernel_rfl) ?_ (fun hHeld => ?_)
          · exact ⟨x_p.c0, x_p.c1, x_t.c0, x_t.c1, x_t.c2, x_t.c3, x_t.c4, x_t.c5, BB⟩
          refine take_yes (i := 0) (v := ?vs1120) rfl (by kernel_rfl) (by kernel_rfl) (by kernel_rfl) (fun _ _ _ h => h) (by rfl) (by assumption) ?hys1120 ?rests1120
          case hys1120 => (intro w hSw; (try dsimp only at hSw); first | (go_simp; done) | (go_simp; with_reducible rfl))
          simp only [Act.put, List.setIfInBounds_toArray, List.set_cons_zero, List.set_cons_succ]
          refine take_yes (i := 1) (v := ?vs1121) rfl (by kernel_rfl) (by kernel_rfl) (by kernel_rfl) (fun _ _ _ h => h) (by rfl) (by assumption) ?hys1121 ?rests1121
          case hys1121 => (intro w hSw; (try dsimp only at hSw); first | (go_simp; done) | (go_simp; with_reducible rfl))
          simp only [Act.put, List.setIfInBounds_toArray, List.set_cons_zero, List.set_cons_succ]
          refine take_yes (i := 2) (v := ?vs1122) rfl (by kernel_rfl) (by kernel_rfl) (by kernel_rfl) (fun _ _ _ h => h) (by rfl) (by assumption) ?hys1122 ?rests1122
          case hys1122 => (intro w hSw; (try dsimp only at hSw); first | (go_simp; done) | (go_simp; with_reducible rfl))
          simp only [Act.put, List.setIfInBounds_toArray, List.set_cons_zero, List.set_cons_succ]
          refine take_yes (i := 3) (v := ?vs1123) rfl (by kernel_rfl) (by kernel_rfl) (by kernel_rfl) (fun _ _ _ h => h) (by rfl) (by assumption) ?hys1123 ?rests1123
          case hys1123 => (intro w hSw; (try dsimp only at hSw); first | (go_simp; done) | (go_simp; with_reducible rfl))
          simp only [Act.put, List.setIfInBounds_toArray, List.set_cons_zero, List.set_cons_succ]
          refine take_call (i := 4) rfl (by kernel_rfl) (fun Kc hK => ?_)
          go_simp
          (go_at_call 37; refine (lCmp c1 c2 b1 b2 _ Gg.out).mono ?_; rintro e w1 ⟨rfl, bw1⟩)
          refine hK.out _ _ ?_ (fun hHeld => ?_)
          · exact ⟨cell_on bw1 hHeld.1, cell_on bw1 hHeld.2.1, cell_on bw1 hHeld.2.2.1, cell_on bw1 hHeld.2.2.2.1, cell_on bw1 hHeld.2.2.2.2.1, cell_on bw1 hHeld.2.2.2.2.2.1, cell_on bw1 hHeld.2.2.2.2.2.2.1, cell_on bw1 hHeld.2.2.2.2.2.2.2.1, also hHeld.2.2.2.2.2.2.2.2 bw1⟩
          clear hK Kc
          have zbw1 := bw1.size
          replace x_t := x_t.on bw1
          replace x_d := x_d.on bw1
          replace BB := also BB bw1
          replace x_p := x_p.on bw1
          refine take_yes (i := 5) (v := ?vs1125) rfl (by kernel_rfl) (by kernel_rfl) (by kernel_rfl) (fun _ _ _ h => h) (by rfl) (by assumption) ?hys1125 ?rests1125
          case hys1125 => (intro w hSw; (try dsimp only at hSw); first | (go_simp; done) | (go_simp; with_reducible rfl))
          simp only [Act.put, List.setIfInBounds_toArray, List.set_cons_zero, List.set_cons_succ]
          refine wpAnyH_done (by kernel_rfl) ?_ _
          go_wp2
          go_roundw
          case rel => exact ⟨Or.inr (Or.inr (Or.inr (⟨rfl, rfl⟩))), x_t, x_d, BB⟩
          case measure => simp [intOf]
        · skip
          have x_t := xt
          have x_d := xd
          have BB := bel
          clear xt xd bel
          have zt := b6_lt x_t
          have zd := bx_lt x_d
          cases hD : ltQ (c1, c2) (d1, d2)
          · skip
            have hl : r = decide ((arP a1 a2 b1 b2 d1 d2).sign = 1) := by rw [hr, hD]; rfl
            obtain ⟨s, hs⟩ : ∃ s, s = (arP a1 a2 b1 b2 d1 d2).sign := ⟨_, rfl⟩
            rw [← hs] at hl
            have HS : Hid _ := hs
            have HL : Hid _ := hl
            clear hs hl hr
            obtain ⟨g, hg⟩ : ∃ g, g = cmpP d1 d2 c1 c2 := ⟨_, rfl⟩
            have pg : (0 < g) = False := by rw [hg]; exact eq_false (cmp_not hD)
            have Gg : Hid _ := hg
            clear hg
            go_wp2
            have dd1 : Below wr.heap.size wr wr.drew := (Below.refl _ _).drew
            have zdd1 := dd1.size
            replace x_t := x_t.on dd1
            replace x_d := x_d.on dd1
            replace BB := also BB dd1
            refine wp_region_held_drew (S := (fun w' => w'.cell? ⟨w.heap.size + 1, 0, none⟩ = some (.int .i64 d1) ∧ w'.cell? ⟨w.heap.size + 1, 1, none⟩ = some (.int .i64 d2) ∧ w'.cell? ⟨w.heap.size, 0, none⟩ = some (.int .i64 a1) ∧ w'.cell? ⟨w.heap.size, 1, none⟩ = some (.int .i64 a2) ∧ w'.cell? ⟨w.heap.size, 2, none⟩ = some (.int .i64 b1) ∧ w'.cell? ⟨w.heap.size, 3, none⟩ = some (.int .i64 b2) ∧ w'.cell? ⟨w.heap.size, 4, none⟩ = some (.int .i64 c1) ∧ w'.cell? ⟨w.heap.size, 5, none⟩ = some (.int .i64 c2) ∧ Below w.heap.size w w')) (by kernel_rfl) ?_ (fun hHeld => ?_)
            · exact ⟨x_d.c0, x_d.c1, x_t.c0, x_t.c1, x_t.c2, x_t.c3, x_t.c4, x_t.c5, BB⟩
            refine take_yes (i := 0) (v := ?ve1100) rfl (by kernel_rfl) (by kernel_rfl) (by kernel_rfl) (fun _ _ _ h => h) (by rfl) (by assumption) ?hye1100 ?reste1100
            case hye1100 => (intro w hSw; (try dsimp only at hSw); first | (go_simp; done) | (go_simp; with_reducible rfl))
            simp only [Act.put, List.setIfInBounds_toArray, List.set_cons_zero, List.set_cons_succ]
            refine take_yes (i := 1) (v := ?ve1101) rfl (by kernel_rfl) (by kernel_rfl) (by kernel_rfl) (fun _ _ _ h => h) (by rfl) (by assumption) ?hye1101 ?reste1101
            case hye1101 => (intro w hSw; (try dsimp only at hSw); first | (go_simp; done) | (go_simp; with_reducible rfl))
            simp only [Act.put, List.setIfInBounds_toArray, List.set_cons_zero, List.set_cons_succ]
            refine take_yes (i := 2) (v := ?ve1102) rfl (by kernel_rfl) (by kernel_rfl) (by kernel_rfl) (fun _ _ _ h => h) (by rfl) (by assumption) ?hye1102 ?reste1102
            case hye1102 => (intro w hSw; (try dsimp only at hSw); first | (go_simp; done) | (go_simp; with_reducible rfl))
            simp only [Act.put, List.setIfInBounds_toArray, List.set_cons_zero, List.set_cons_succ]
            refine take_yes (i := 3) (v := ?ve1103) rfl (by kernel_rfl) (by kernel_rfl) (by kernel_rfl) (fun _ _ _ h => h) (by rfl) (by assumption) ?hye1103 ?reste1103
            case hye1103 => (intro w hSw; (try dsimp only at hSw); first | (go_simp; done) | (go_simp; with_reducible rfl))
            simp only [Act.put, List.setIfInBounds_toArray, List.set_cons_zero, List.set_cons_succ]
            refine take_call (i := 4) rfl (by kernel_rfl) (fun Kc hK => ?_)
            go_simp
            (go_at_call 37; refine (lCmp d1 d2 c1 c2 _ Gg.out).mono ?_; rintro e w1 ⟨rfl, bw1⟩)
            refine hK.out _ _ ?_ (fun hHeld => ?_)
            · exact ⟨cell_on bw1 hHeld.1, cell_on bw1 hHeld.2.1, cell_on bw1 hHeld.2.2.1, cell_on bw1 hHeld.2.2.2.1, cell_on bw1 hHeld.2.2.2.2.1, cell_on bw1 hHeld.2.2.2.2.2.1, cell_on bw1 hHeld.2.2.2.2.2.2.1, cell_on bw1 hHeld.2.2.2.2.2.2.2.1, also hHeld.2.2.2.2.2.2.2.2 bw1⟩
            clear hK Kc
            have zbw1 := bw1.size
            replace x_t := x_t.on bw1
            replace x_d := x_d.on bw1
            replace BB := also BB bw1
            refine take_yes (i := 5) (v := ?ve1105) rfl (by kernel_rfl) (by kernel_rfl) (by kernel_rfl) (fun _ _ _ h => h) (by rfl) (by assumption) ?hye1105 ?reste1105
            case hye1105 => (intro w hSw; (try dsimp only at hSw); first | (go_simp; done) | (go_simp; with_reducible rfl))
            simp only [Act.put, List.setIfInBounds_toArray, List.set_cons_zero, List.set_cons_succ]
            refine wpAnyH_done (by kernel_rfl) ?_ _
            have ⟨x_t_0, x_t_1, x_t_2, x_t_3, x_t_4, x_t_5, x_t_6, x_t_7, x_t_8, x_t_9, x_t_10, x_t_11⟩ := x_t
            have ⟨x_d_0, x_d_1, x_d_2, x_d_3⟩ := x_d
            go_wp2_with (go_at_call 18; fail)
            have B2 : Below w.heap.size w ((w1.setCell ⟨w.heap.size, 4, none⟩ (.int .i64 d1)).setCell ⟨w.heap.size, 5, none⟩ (.int .i64 d2)) := (BB.setCell (Nat.le_refl _) _).setCell (Nat.le_refl _) _
            refine (pOrient a1 a2 b1 b2 d1 d2 _ HS.out).mono ?_
            rintro e w2 ⟨rfl, b2⟩
            go_wp2
            go_ret
            exact ⟨by rw [HL.out]; rfl, also B2 b2⟩
          · skip
            obtain rfl : r = false := by rw [hr, hD]; rfl
            clear hr
            obtain ⟨g, hg⟩ : ∃ g, g = cmpP d1 d2 c1 c2 := ⟨_, rfl⟩
            have pg : (0 < g) = True := by rw [hg]; exact eq_true (cmp_yes hD)
            have Gg : Hid _ := hg
            clear hg
            go_wp2
            have dd1 : Below wr.heap.size wr wr.drew := (Below.refl _ _).drew
            have zdd1 := dd1.size
            replace x_t := x_t.on dd1
            replace x_d := x_d.on dd1
            replace BB := also BB dd1
            refine wp_region_held_drew (S := (fun w' => w'.cell? ⟨w.heap.size + 1, 0, none⟩ = some (.int .i64 d1) ∧ w'.cell? ⟨w.heap.size + 1, 1, none⟩ = some (.int .i64 d2) ∧ w'.cell? ⟨w.heap.size, 0, none⟩ = some (.int .i64 a1) ∧ w'.cell? ⟨w.heap.size, 1, none⟩ = some (.int .i64 a2) ∧ w'.cell? ⟨w.heap.size, 2, none⟩ = some (.int .i64 b1) ∧ w'.cell? ⟨w.heap.size, 3, none⟩ = some (.int .i64 b2) ∧ w'.cell? ⟨w.heap.size, 4, none⟩ = some (.int .i64 c1) ∧ w'.cell? ⟨w.heap.size, 5, none⟩ = some (.int .i64 c2) ∧ Below w.heap.size w w')) (by kernel_rfl) ?_ (fun hHeld => ?_)
            · exact ⟨x_d.c0, x_d.c1, x_t.c0, x_t.c1, x_t.c2, x_t.c3, x_t.c4, x_t.c5, BB⟩
            refine take_yes (i := 0) (v := ?ve1110) rfl (by kernel_rfl) (by kernel_rfl) (by kernel_rfl) (fun _ _ _ h => h) (by rfl) (by assumption) ?hye1110 ?reste1110
            case hye1110 => (intro w hSw; (try dsimp only at hSw); first | (go_simp; done) | (go_simp; with_reducible rfl))
            simp only [Act.put, List.setIfInBounds_toArray, List.set_cons_zero, List.set_cons_succ]
            refine take_yes (i := 1) (v := ?ve1111) rfl (by kernel_rfl) (by kernel_rfl) (by kernel_rfl) (fun _ _ _ h => h) (by rfl) (by assumption) ?hye1111 ?reste1111
            case hye1111 => (intro w hSw; (try dsimp only at hSw); first | (go_simp; done) | (go_simp; with_reducible rfl))
            simp only [Act.put, List.setIfInBounds_toArray, List.set_cons_zero, List.set_cons_succ]
            refine take_yes (i := 2) (v := ?ve1112) rfl (by kernel_rfl) (by kernel_rfl) (by kernel_rfl) (fun _ _ _ h => h) (by rfl) (by assumption) ?hye1112 ?reste1112
            case hye1112 => (intro w hSw; (try dsimp only at hSw); first | (go_simp; done) | (go_simp; with_reducible rfl))
            simp only [Act.put, List.setIfInBounds_toArray, List.set_cons_zero, List.set_cons_succ]
            refine take_yes (i := 3) (v := ?ve1113) rfl (by kernel_rfl) (by kernel_rfl) (by kernel_rfl) (fun _ _ _ h => h) (by rfl) (by assumption) ?hye1113 ?reste1113
            case hye1113 => (intro w hSw; (try dsimp only at hSw); first | (go_simp; done) | (go_simp; with_reducible rfl))
            simp only [Act.put, List.setIfInBounds_toArray, List.set_cons_zero, List.set_cons_succ]
            refine take_call (i := 4) rfl (by kernel_rfl) (fun Kc hK => ?_)
            go_simp
            (go_at_call 37; refine (lCmp d1 d2 c1 c2 _ Gg.out).mono ?_; rintro e w1 ⟨rfl, bw1⟩)
            refine hK.out _ _ ?_ (fun hHeld => ?_)
            · exact ⟨cell_on bw1 hHeld.1, cell_on bw1 hHeld.2.1, cell_on bw1 hHeld.2.2.1, cell_on bw1 hHeld.2.2.2.1, cell_on bw1 hHeld.2.2.2.2.1, cell_on bw1 hHeld.2.2.2.2.2.1, cell_on bw1 hHeld.2.2.2.2.2.2.1, cell_on bw1 hHeld.2.2.2.2.2.2.2.1, also hHeld.2.2.2.2.2.2.2.2 bw1⟩
            clear hK Kc
            have zbw1 := bw1.size
            replace x_t := x_t.on bw1
            replace x_d := x_d.on bw1
            replace BB := also BB bw1
            refine take_yes (i := 5) (v := ?ve1115) rfl (by kernel_rfl) (by kernel_rfl) (by kernel_rfl) (fun _ _ _ h => h) (by rfl) (by assumption) ?hye1115 ?reste1115
            case hye1115 => (intro w hSw; (try dsimp only at hSw); first | (go_simp; done) | (go_simp; with_reducible rfl))
            simp only [Act.put, List.setIfInBounds_toArray, List.set_cons_zero, List.set_cons_succ]
            refine wpAnyH_done (by kernel_rfl) ?_ _
            go_wp2
            go_ret
            exact ⟨rfl, BB⟩
end Go.Proofs.Ytnemailhijkemaa
