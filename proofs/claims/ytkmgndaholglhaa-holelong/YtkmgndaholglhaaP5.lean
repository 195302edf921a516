/-
  Joined texts, part 5:
  What package tie's conflictOnCircle answers.
-/
import Derived.Test.YtkmgndaholglhaaP4
namespace Go.Proofs.Ytkmgndaholglhaa
open Go.RowKit
set_option linter.unusedVariables false

theorem idxP0 (a1 a2 b1 b2 c1 c2 : Int) (w : World) : (Instr.index 52 (.agg #[.int .i64 a1, .int .i64 a2, .int .i64 b1, .int .i64 b2, .int .i64 c1, .int .i64 c2]) (.int .i64 0)).run Try.prog w = .ok (.agg #[.int .i64 a1, .int .i64 a2]) w := by show _ = _; kernel_rfl
theorem idxP1 (a1 a2 b1 b2 c1 c2 : Int) (w : World) : (Instr.index 52 (.agg #[.int .i64 a1, .int .i64 a2, .int .i64 b1, .int .i64 b2, .int .i64 c1, .int .i64 c2]) (.int .i64 1)).run Try.prog w = .ok (.agg #[.int .i64 b1, .int .i64 b2]) w := by show _ = _; kernel_rfl
theorem idxP2 (a1 a2 b1 b2 c1 c2 : Int) (w : World) : (Instr.index 52 (.agg #[.int .i64 a1, .int .i64 a2, .int .i64 b1, .int .i64 b2, .int .i64 c1, .int .i64 c2]) (.int .i64 2)).run Try.prog w = .ok (.agg #[.int .i64 c1, .int .i64 c2]) w := by show _ = _; kernel_rfl
theorem cmp_yes {x y z t : Int} (h : ltQ (z, t) (x, y) = true) : 0 < cmpP x y z t := of_decide_eq_true ((cmp_last x y z t).trans h)
theorem cmp_not {x y z t : Int} (h : ltQ (z, t) (x, y) = false) : ¬ 0 < cmpP x y z t := of_decide_eq_false ((cmp_last x y z t).trans h)
theorem cmp_self (x y : Int) : ¬ 0 < cmpP x y x y := cmp_not (lt_irr _)
set_option maxRecDepth 100000 in
set_option maxHeartbeats 8000000 in
theorem tOn (a1 a2 b1 b2 c1 c2 d1 d2 : Int) (w : World) {r : Bool} (hr : r = ocQ (a1, a2) (b1, b2) (c1, c2) (d1, d2)) :
    Calls Try.prog 28 #[.agg #[.int .i64 a1, .int .i64 a2, .int .i64 b1, .int .i64 b2, .int .i64 c1, .int .i64 c2], .agg #[.int .i64 d1, .int .i64 d2]] w fun e w' => e = .returned (.bool r) ∧ Below w.heap.size w w' := by
  unfold ocQ at hr
  cases hab : ltQ (a1, a2) (b1, b2)
  · skip
    simp only [hab, if_false, Bool.false_eq_true] at hr
    cases hmc : ltQ (a1, a2) (c1, c2)
    · simp only [hmc, if_false, Bool.false_eq_true] at hr
      obtain ⟨W, hW, bW, x_t, x_d, sW⟩ := bs_62 w (.int .i64 a1) (.int .i64 a2) (.int .i64 b1) (.int .i64 b2) (.int .i64 c1) (.int .i64 c2) (.int .i64 d1) (.int .i64 d2) 52 31
      have zbW := bW.size
      have BB := bW
      go_enter Try.func28, Try.ntmps28
      go_wp2
      rw [← hW]
      clear hW
      go_loopw [5, 9] (fun l i wr => ((i = .int .i64 0 ∧ l = .int .i64 0) ∨ (i = .int .i64 1 ∧ l = .int .i64 0) ∨ (i = .int .i64 2 ∧ l = .int .i64 0) ∨ (i = .int .i64 3 ∧ l = .int .i64 0)) ∧ B6 wr w.heap.size (.int .i64 a1) (.int .i64 a2) (.int .i64 b1) (.int .i64 b2) (.int .i64 c1) (.int .i64 c2) ∧ Bx wr (w.heap.size + 1) (.int .i64 d1) (.int .i64 d2) ∧ Below w.heap.size w wr) (fun _ i _ => 3 - (intOf i).toNat)
      case atStart => exact ⟨Or.inl ⟨rfl, rfl⟩, x_t, x_d, BB⟩
      case round =>
        obtain ⟨hki, xt, xd, bel⟩ := hrel
        clear x_t x_d BB
        rcases hki with ⟨rfl, rfl⟩ | ⟨rfl, rfl⟩ | ⟨rfl, rfl⟩ | ⟨rfl, rfl⟩
        · skip
          have x_t := xt
          have x_d := xd
          have BB := bel
          clear xt xd bel
          have zt := b6_lt x_t
          have zd := bx_lt x_d
          have EI := idxP0 a1 a2 b1 b2 c1 c2
          obtain ⟨g, hg⟩ : ∃ g, g = cmpP a1 a2 a1 a2 := ⟨_, rfl⟩
          have pg : (0 < g) = False := by rw [hg]; exact eq_false (cmp_self _ _)
          have Gg : Hid _ := hg
          clear hg
          obtain ⟨V, hV, bV, x_p, sV⟩ := bs_2 wr (.int .i64 a1) (.int .i64 a2) 31
          have zbV := bV.size
          replace x_t := x_t.on bV
          replace x_d := x_d.on bV
          replace BB := also BB bV
          go_wp2
          rw [← hV]
          clear hV
          have dd1 : Below V.heap.size V V.drew := (Below.refl _ _).drew
          have zdd1 := dd1.size
          replace x_t := x_t.on dd1
          replace x_d := x_d.on dd1
          replace BB := also BB dd1
          replace x_p := x_p.on dd1
          refine wp_region_held_drew (S := (fun w' => w'.cell? ⟨wr.heap.size, 0, none⟩ = some (.int .i64 a1) ∧ w'.cell? ⟨wr.heap.size, 1, none⟩ = some (.int .i64 a2) ∧ w'.cell? ⟨w.heap.size, 0, none⟩ = some (.int .i64 a1) ∧ w'.cell? ⟨w.heap.size, 1, none⟩ = some (.int .i64 a2) ∧ w'.cell? ⟨w.heap.size, 2, none⟩ = some (.int .i64 b1) ∧ w'.cell? ⟨w.heap.size, 3, none⟩ = some (.int .i64 b2) ∧ w'.cell? ⟨w.heap.size, 4, none⟩ = some (.int .i64 c1) ∧ w'.cell? ⟨w.heap.size, 5, none⟩ = some (.int .i64 c2) ∧ Below w.heap.size w w')) (by kernel_rfl) ?_ (fun hHeld => ?_)
          · exact ⟨x_p.c0, x_p.c1, x_t.c0, x_t.c1, x_t.c2, x_t.c3, x_t.c4, x_t.c5, BB⟩
          refine ty (i := 0) (v := ?vs0000) rfl ?hys0000 ?_
          case hys0000 => (intro w hSw; (try dsimp only at hSw); go_simp <;> with_reducible rfl)
          simp only [Act.put, ps1, ps2, ps3]
          refine ty (i := 1) (v := ?vs0001) rfl ?hys0001 ?_
          case hys0001 => (intro w hSw; (try dsimp only at hSw); go_simp <;> with_reducible rfl)
          simp only [Act.put, ps1, ps2, ps3]
          refine ty (i := 2) (v := ?vs0002) rfl ?hys0002 ?_
          case hys0002 => (intro w hSw; (try dsimp only at hSw); go_simp <;> with_reducible rfl)
          simp only [Act.put, ps1, ps2, ps3]
          refine ty (i := 3) (v := ?vs0003) rfl ?hys0003 ?_
          case hys0003 => (intro w hSw; (try dsimp only at hSw); go_simp <;> with_reducible rfl)
          simp only [Act.put, ps1, ps2, ps3]
          refine take_call (i := 4) rfl (by kernel_rfl) (fun Kc hK => ?_)
          go_simp
          (go_at_call 49; refine (lCmp a1 a2 a1 a2 _ Gg.out).mono ?_; rintro e w1 ⟨rfl, bw1⟩)
          refine hK.out _ _ ?_ (fun hHeld => ?_)
          · exact ⟨cell_on bw1 hHeld.1, cell_on bw1 hHeld.2.1, cell_on bw1 hHeld.2.2.1, cell_on bw1 hHeld.2.2.2.1, cell_on bw1 hHeld.2.2.2.2.1, cell_on bw1 hHeld.2.2.2.2.2.1, cell_on bw1 hHeld.2.2.2.2.2.2.1, cell_on bw1 hHeld.2.2.2.2.2.2.2.1, also hHeld.2.2.2.2.2.2.2.2 bw1⟩
          clear hK Kc
          have zbw1 := bw1.size
          replace x_t := x_t.on bw1
          replace x_d := x_d.on bw1
          replace BB := also BB bw1
          replace x_p := x_p.on bw1
          refine ty (i := 5) (v := ?vs0005) rfl ?hys0005 ?_
          case hys0005 => (intro w hSw; (try dsimp only at hSw); go_simp <;> with_reducible rfl)
          simp only [Act.put, ps1, ps2, ps3]
          refine wpAnyH_done (by kernel_rfl) ?_ _
          go_wp2
          go_roundw
          case rel => exact ⟨Or.inr (Or.inl ⟨rfl, rfl⟩), x_t, x_d, BB⟩
          case measure => simp [intOf]
        · skip
          have x_t := xt
          have x_d := xd
          have BB := bel
          clear xt xd bel
          have zt := b6_lt x_t
          have zd := bx_lt x_d
          have EI := idxP1 a1 a2 b1 b2 c1 c2
          obtain ⟨g, hg⟩ : ∃ g, g = cmpP b1 b2 a1 a2 := ⟨_, rfl⟩
          have pg : (0 < g) = False := by rw [hg]; exact eq_false (cmp_not hab)
          have Gg : Hid _ := hg
          clear hg
          obtain ⟨V, hV, bV, x_p, sV⟩ := bs_2 wr (.int .i64 b1) (.int .i64 b2) 31
          have zbV := bV.size
          replace x_t := x_t.on bV
          replace x_d := x_d.on bV
          replace BB := also BB bV
          go_wp2
          rw [← hV]
          clear hV
          have dd1 : Below V.heap.size V V.drew := (Below.refl _ _).drew
          have zdd1 := dd1.size
          replace x_t := x_t.on dd1
          replace x_d := x_d.on dd1
          replace BB := also BB dd1
          replace x_p := x_p.on dd1
          refine wp_region_held_drew (S := (fun w' => w'.cell? ⟨wr.heap.size, 0, none⟩ = some (.int .i64 b1) ∧ w'.cell? ⟨wr.heap.size, 1, none⟩ = some (.int .i64 b2) ∧ w'.cell? ⟨w.heap.size, 0, none⟩ = some (.int .i64 a1) ∧ w'.cell? ⟨w.heap.size, 1, none⟩ = some (.int .i64 a2) ∧ w'.cell? ⟨w.heap.size, 2, none⟩ = some (.int .i64 b1) ∧ w'.cell? ⟨w.heap.size, 3, none⟩ = some (.int .i64 b2) ∧ w'.cell? ⟨w.heap.size, 4, none⟩ = some (.int .i64 c1) ∧ w'.cell? ⟨w.heap.size, 5, none⟩ = some (.int .i64 c2) ∧ Below w.heap.size w w')) (by kernel_rfl) ?_ (fun hHeld => ?_)
          · exact ⟨x_p.c0, x_p.c1, x_t.c0, x_t.c1, x_t.c2, x_t.c3, x_t.c4, x_t.c5, BB⟩
          refine ty (i := 0) (v := ?vs0010) rfl ?hys0010 ?_
          case hys0010 => (intro w hSw; (try dsimp only at hSw); go_simp <;> with_reducible rfl)
          simp only [Act.put, ps1, ps2, ps3]
          refine ty (i := 1) (v := ?vs0011) rfl ?hys0011 ?_
          case hys0011 => (intro w hSw; (try dsimp only at hSw); go_simp <;> with_reducible rfl)
          simp only [Act.put, ps1, ps2, ps3]
          refine ty (i := 2) (v := ?vs0012) rfl ?hys0012 ?_
          case hys0012 => (intro w hSw; (try dsimp only at hSw); go_simp <;> with_reducible rfl)
          simp only [Act.put, ps1, ps2, ps3]
          refine ty (i := 3) (v := ?vs0013) rfl ?hys0013 ?_
          case hys0013 => (intro w hSw; (try dsimp only at hSw); go_simp <;> with_reducible rfl)
          simp only [Act.put, ps1, ps2, ps3]
          refine take_call (i := 4) rfl (by kernel_rfl) (fun Kc hK => ?_)
          go_simp
          (go_at_call 49; refine (lCmp b1 b2 a1 a2 _ Gg.out).mono ?_; rintro e w1 ⟨rfl, bw1⟩)
          refine hK.out _ _ ?_ (fun hHeld => ?_)
          · exact ⟨cell_on bw1 hHeld.1, cell_on bw1 hHeld.2.1, cell_on bw1 hHeld.2.2.1, cell_on bw1 hHeld.2.2.2.1, cell_on bw1 hHeld.2.2.2.2.1, cell_on bw1 hHeld.2.2.2.2.2.1, cell_on bw1 hHeld.2.2.2.2.2.2.1, cell_on bw1 hHeld.2.2.2.2.2.2.2.1, also hHeld.2.2.2.2.2.2.2.2 bw1⟩
          clear hK Kc
          have zbw1 := bw1.size
          replace x_t := x_t.on bw1
          replace x_d := x_d.on bw1
          replace BB := also BB bw1
          replace x_p := x_p.on bw1
          refine ty (i := 5) (v := ?vs0015) rfl ?hys0015 ?_
          case hys0015 => (intro w hSw; (try dsimp only at hSw); go_simp <;> with_reducible rfl)
          simp only [Act.put, ps1, ps2, ps3]
          refine wpAnyH_done (by kernel_rfl) ?_ _
          go_wp2
          go_roundw
          case rel => exact ⟨Or.inr (Or.inr (Or.inl ⟨rfl, rfl⟩)), x_t, x_d, BB⟩
          case measure => simp [intOf]
        · skip
          have x_t := xt
          have x_d := xd
          have BB := bel
          clear xt xd bel
          have zt := b6_lt x_t
          have zd := bx_lt x_d
          have EI := idxP2 a1 a2 b1 b2 c1 c2
          obtain ⟨g, hg⟩ : ∃ g, g = cmpP c1 c2 a1 a2 := ⟨_, rfl⟩
          have pg : (0 < g) = False := by rw [hg]; exact eq_false (cmp_not hmc)
          have Gg : Hid _ := hg
          clear hg
          obtain ⟨V, hV, bV, x_p, sV⟩ := bs_2 wr (.int .i64 c1) (.int .i64 c2) 31
          have zbV := bV.size
          replace x_t := x_t.on bV
          replace x_d := x_d.on bV
          replace BB := also BB bV
          go_wp2
          rw [← hV]
          clear hV
          have dd1 : Below V.heap.size V V.drew := (Below.refl _ _).drew
          have zdd1 := dd1.size
          replace x_t := x_t.on dd1
          replace x_d := x_d.on dd1
          replace BB := also BB dd1
          replace x_p := x_p.on dd1
          refine wp_region_held_drew (S := (fun w' => w'.cell? ⟨wr.heap.size, 0, none⟩ = some (.int .i64 c1) ∧ w'.cell? ⟨wr.heap.size, 1, none⟩ = some (.int .i64 c2) ∧ w'.cell? ⟨w.heap.size, 0, none⟩ = some (.int .i64 a1) ∧ w'.cell? ⟨w.heap.size, 1, none⟩ = some (.int .i64 a2) ∧ w'.cell? ⟨w.heap.size, 2, none⟩ = some (.int .i64 b1) ∧ w'.cell? ⟨w.heap.size, 3, none⟩ = some (.int .i64 b2) ∧ w'.cell? ⟨w.heap.size, 4, none⟩ = some (.int .i64 c1) ∧ w'.cell? ⟨w.heap.size, 5, none⟩ = some (.int .i64 c2) ∧ Below w.heap.size w w')) (by kernel_rfl) ?_ (fun hHeld => ?_)
          · exact ⟨x_p.c0, x_p.c1, x_t.c0, x_t.c1, x_t.c2, x_t.c3, x_t.c4, x_t.c5, BB⟩
          refine ty (i := 0) (v := ?vs0020) rfl ?hys0020 ?_
          case hys0020 => (intro w hSw; (try dsimp only at hSw); go_simp <;> with_reducible rfl)
          simp only [Act.put, ps1, ps2, ps3]
          refine ty (i := 1) (v := ?vs0021) rfl ?hys0021 ?_
          case hys0021 => (intro w hSw; (try dsimp only at hSw); go_simp <;> with_reducible rfl)
          simp only [Act.put, ps1, ps2, ps3]
          refine ty (i := 2) (v := ?vs0022) rfl ?hys0022 ?_
          case hys0022 => (intro w hSw; (try dsimp only at hSw); go_simp <;> with_reducible rfl)
          simp only [Act.put, ps1, ps2, ps3]
          refine ty (i := 3) (v := ?vs0023) rfl ?hys0023 ?_
          case hys0023 => (intro w hSw; (try dsimp only at hSw); go_simp <;> with_reducible rfl)
          simp only [Act.put, ps1, ps2, ps3]
          refine take_call (i := 4) rfl (by kernel_rfl) (fun Kc hK => ?_)
          go_simp
          (go_at_call 49; refine (lCmp c1 c2 a1 a2 _ Gg.out).mono ?_; rintro e w1 ⟨rfl, bw1⟩)
          refine hK.out _ _ ?_ (fun hHeld => ?_)
          · exact ⟨cell_on bw1 hHeld.1, cell_on bw1 hHeld.2.1, cell_on bw1 hHeld.2.2.1, cell_on bw1 hHeld.2.2.2.1, cell_on bw1 hHeld.2.2.2.2.1, cell_on bw1 hHeld.2.2.2.2.2.1, cell_on bw1 hHeld.2.2.2.2.2.2.1, cell_on bw1 hHeld.2.2.2.2.2.2.2.1, also hHeld.2.2.2.2.2.2.2.2 bw1⟩
          clear hK Kc
          have zbw1 := bw1.size
          replace x_t := x_t.on bw1
          replace x_d := x_d.on bw1
          replace BB := also BB bw1
          replace x_p := x_p.on bw1
          refine ty (i := 5) (v := ?vs0025) rfl ?hys0025 ?_
          case hys0025 => (intro w hSw; (try dsimp only at hSw); go_simp <;> with_reducible rfl)
          simp only [Act.put, ps1, ps2, ps3]
          refine wpAnyH_done (by kernel_rfl) ?_ _
          go_wp2
          go_roundw
          case rel => exact ⟨Or.inr (Or.inr (Or.inr (⟨rfl, rfl⟩))), x_t, x_d, BB⟩
          case measure => simp [intOf]
        · skip
          have x_t := xt
          have x_d := xd
          have BB := bel
          clear xt xd bel
          have zt := b6_lt x_t
          have zd := bx_lt x_d
          cases hD : ltQ (a1, a2) (d1, d2)
          · skip
            have hl : r = decide ((arP d1 d2 b1 b2 c1 c2).sign = 1) := by rw [hr, hD]; rfl
            obtain ⟨s, hs⟩ : ∃ s, s = (arP d1 d2 b1 b2 c1 c2).sign := ⟨_, rfl⟩
            rw [← hs] at hl
            have HS : Hid _ := hs
            have HL : Hid _ := hl
            clear hs hl hr
            obtain ⟨g, hg⟩ : ∃ g, g = cmpP d1 d2 a1 a2 := ⟨_, rfl⟩
            have pg : (0 < g) = False := by rw [hg]; exact eq_false (cmp_not hD)
            have Gg : Hid _ := hg
            clear hg
            go_wp2
            have dd1 : Below wr.heap.size wr wr.drew := (Below.refl _ _).drew
            have zdd1 := dd1.size
            replace x_t := x_t.on dd1
            replace x_d := x_d.on dd1
            replace BB := also BB dd1
            refine wp_region_held_drew (S := (fun w' => w'.cell? ⟨w.heap.size + 1, 0, none⟩ = some (.int .i64 d1) ∧ w'.cell? ⟨w.heap.size + 1, 1, none⟩ = some (.int .i64 d2) ∧ w'.cell? ⟨w.heap.size, 0, none⟩ = some (.int .i64 a1) ∧ w'.cell? ⟨w.heap.size, 1, none⟩ = some (.int .i64 a2) ∧ w'.cell? ⟨w.heap.size, 2, none⟩ = some (.int .i64 b1) ∧ w'.cell? ⟨w.heap.size, 3, none⟩ = some (.int .i64 b2) ∧ w'.cell? ⟨w.heap.size, 4, none⟩ = some (.int .i64 c1) ∧ w'.cell? ⟨w.heap.size, 5, none⟩ = some (.int .i64 c2) ∧ Below w.heap.size w w')) (by kernel_rfl) ?_ (fun hHeld => ?_)
            · exact ⟨x_d.c0, x_d.c1, x_t.c0, x_t.c1, x_t.c2, x_t.c3, x_t.c4, x_t.c5, BB⟩
            refine ty (i := 0) (v := ?ve0000) rfl ?hye0000 ?_
            case hye0000 => (intro w hSw; (try dsimp only at hSw); go_simp <;> with_reducible rfl)
            simp only [Act.put, ps1, ps2, ps3]
            refine ty (i := 1) (v := ?ve0001) rfl ?hye0001 ?_
            case hye0001 => (intro w hSw; (try dsimp only at hSw); go_simp <;> with_reducible rfl)
            simp only [Act.put, ps1, ps2, ps3]
            refine ty (i := 2) (v := ?ve0002) rfl ?hye0002 ?_
            case hye0002 => (intro w hSw; (try dsimp only at hSw); go_simp <;> with_reducible rfl)
            simp only [Act.put, ps1, ps2, ps3]
            refine ty (i := 3) (v := ?ve0003) rfl ?hye0003 ?_
            case hye0003 => (intro w hSw; (try dsimp only at hSw); go_simp <;> with_reducible rfl)
            simp only [Act.put, ps1, ps2, ps3]
            refine take_call (i := 4) rfl (by kernel_rfl) (fun Kc hK => ?_)
            go_simp
            (go_at_call 49; refine (lCmp d1 d2 a1 a2 _ Gg.out).mono ?_; rintro e w1 ⟨rfl, bw1⟩)
            refine hK.out _ _ ?_ (fun hHeld => ?_)
            · exact ⟨cell_on bw1 hHeld.1, cell_on bw1 hHeld.2.1, cell_on bw1 hHeld.2.2.1, cell_on bw1 hHeld.2.2.2.1, cell_on bw1 hHeld.2.2.2.2.1, cell_on bw1 hHeld.2.2.2.2.2.1, cell_on bw1 hHeld.2.2.2.2.2.2.1, cell_on bw1 hHeld.2.2.2.2.2.2.2.1, also hHeld.2.2.2.2.2.2.2.2 bw1⟩
            clear hK Kc
            have zbw1 := bw1.size
            replace x_t := x_t.on bw1
            replace x_d := x_d.on bw1
            replace BB := also BB bw1
            refine ty (i := 5) (v := ?ve0005) rfl ?hye0005 ?_
            case hye0005 => (intro w hSw; (try dsimp only at hSw); go_simp <;> with_reducible rfl)
            simp only [Act.put, ps1, ps2, ps3]
            refine wpAnyH_done (by kernel_rfl) ?_ _
            have ⟨x_t_0, x_t_1, x_t_2, x_t_3, x_t_4, x_t_5, x_t_6, x_t_7, x_t_8, x_t_9, x_t_10, x_t_11⟩ := x_t
            have ⟨x_d_0, x_d_1, x_d_2, x_d_3⟩ := x_d
            go_wp2_with (go_at_call 16; fail)
            have B2 : Below w.heap.size w ((w1.setCell ⟨w.heap.size, 0, none⟩ (.int .i64 d1)).setCell ⟨w.heap.size, 1, none⟩ (.int .i64 d2)) := (BB.setCell (Nat.le_refl _) _).setCell (Nat.le_refl _) _
            refine (pOrient d1 d2 b1 b2 c1 c2 _ HS.out).mono ?_
            rintro e w2 ⟨rfl, b2⟩
            go_wp2
            go_ret
            exact ⟨by rw [HL.out]; rfl, also B2 b2⟩
          · skip
            obtain rfl : r = false := by rw [hr, hD]; rfl
            clear hr
            obtain ⟨g, hg⟩ : ∃ g, g = cmpP d1 d2 a1 a2 := ⟨_, rfl⟩
            have pg : (0 < g) = True := by rw [hg]; exact eq_true (cmp_yes hD)
            have Gg : Hid _ := hg
            clear hg
            go_wp2
            have dd1 : Below wr.heap.size wr wr.drew := (Below.refl _ _).drew
            have zdd1 := dd1.size
            replace x_t := x_t.on dd1
            replace x_d := x_d.on dd1
            replace BB := also BB dd1
            refine wp_region_held_drew (S := (fun w' => w'.cell? ⟨w.heap.size + 1, 0, none⟩ = some (.int .i64 d1) ∧ w'.cell? ⟨w.heap.size + 1, 1, none⟩ = some (.int .i64 d2) ∧ w'.cell? ⟨w.heap.size, 0, none⟩ = some (.int .i64 a1) ∧ w'.cell? ⟨w.heap.size, 1, none⟩ = some (.int .i64 a2) ∧ w'.cell? ⟨w.heap.size, 2, none⟩ = some (.int .i64 b1) ∧ w'.cell? ⟨w.heap.size, 3, none⟩ = some (.int .i64 b2) ∧ w'.cell? ⟨w.heap.size, 4, none⟩ = some (.int .i64 c1) ∧ w'.cell? ⟨w.heap.size, 5, none⟩ = some (.int .i64 c2) ∧ Below w.heap.size w w')) (by kernel_rfl) ?_ (fun hHeld => ?_)
            · exact ⟨x_d.c0, x_d.c1, x_t.c0, x_t.c1, x_t.c2, x_t.c3, x_t.c4, x_t.c5, BB⟩
            refine ty (i := 0) (v := ?ve0010) rfl ?hye0010 ?_
            case hye0010 => (intro w hSw; (try dsimp only at hSw); go_simp <;> with_reducible rfl)
            simp only [Act.put, ps1, ps2, ps3]
            refine ty (i := 1) (v := ?ve0011) rfl ?hye0011 ?_
            case hye0011 => (intro w hSw; (try dsimp only at hSw); go_simp <;> with_reducible rfl)
            simp only [Act.put, ps1, ps2, ps3]
            refine ty (i := 2) (v := ?ve0012) rfl ?hye0012 ?_
            case hye0012 => (intro w hSw; (try dsimp only at hSw); go_simp <;> with_reducible rfl)
            simp only [Act.put, ps1, ps2, ps3]
            refine ty (i := 3) (v := ?ve0013) rfl ?hye0013 ?_
            case hye0013 => (intro w hSw; (try dsimp only at hSw); go_simp <;> with_reducible rfl)
            simp only [Act.put, ps1, ps2, ps3]
            refine take_call (i := 4) rfl (by kernel_rfl) (fun Kc hK => ?_)
            go_simp
            (go_at_call 49; refine (lCmp d1 d2 a1 a2 _ Gg.out).mono ?_; rintro e w1 ⟨rfl, bw1⟩)
            refine hK.out _ _ ?_ (fun hHeld => ?_)
            · exact ⟨cell_on bw1 hHeld.1, cell_on bw1 hHeld.2.1, cell_on bw1 hHeld.2.2.1, cell_on bw1 hHeld.2.2.2.1, cell_on bw1 hHeld.2.2.2.2.1, cell_on bw1 hHeld.2.2.2.2.2.1, cell_on bw1 hHeld.2.2.2.2.2.2.1, cell_on bw1 hHeld.2.2.2.2.2.2.2.1, also hHeld.2.2.2.2.2.2.2.2 bw1⟩
            clear hK Kc
            have zbw1 := bw1.size
            replace x_t := x_t.on bw1
            replace x_d := x_d.on bw1
            replace BB := also BB bw1
            refine ty (i := 5) (v := ?ve0015) rfl ?hye0015 ?_
            case hye0015 => (intro w hSw; (try dsimp only at hSw); go_simp <;> with_reducible rfl)
            simp only [Act.put, ps1, ps2, ps3]
            refine wpAnyH_done (by kernel_rfl) ?_ _
            go_wp2
            go_ret
            exact ⟨rfl, BB⟩
    · simp only [hmc, if_true] at hr
      obtain ⟨W, hW, bW, x_t, x_d, sW⟩ := bs_62 w (.int .i64 a1) (.int .i64 a2) (.int .i64 b1) (.int .i64 b2) (.int .i64 c1) (.int .i64 c2) (.int .i64 d1) (.int .i64 d2) 52 31
      have zbW := bW.size
      have BB := bW
      go_enter Try.func28, Try.ntmps28
      go_wp2
      rw [← hW]
      clear hW
      go_loopw [5, 9] (fun l i wr => ((i = .int .i64 0 ∧ l = .int .i64 0) ∨ (i = .int .i64 1 ∧ l = .int .i64 0) ∨ (i = .int .i64 2 ∧ l = .int .i64 0) ∨ (i = .int .i64 3 ∧ l = .int .i64 2)) ∧ B6 wr w.heap.size (.int .i64 a1) (.int .i64 a2) (.int .i64 b1) (.int .i64 b2) (.int .i64 c1) (.int .i64 c2) ∧ Bx wr (w.heap.size + 1) (.int .i64 d1) (.int .i64 d2) ∧ Below w.heap.size w wr) (fun _ i _ => 3 - (intOf i).toNat)
      case atStart => exact ⟨Or.inl ⟨rfl, rfl⟩, x_t, x_d, BB⟩
      case round =>
        obtain ⟨hki, xt, xd, bel⟩ := hrel
        clear x_t x_d BB
        rcases hki with ⟨rfl, rfl⟩ | ⟨rfl, rfl⟩ | ⟨rfl, rfl⟩ | ⟨rfl, rfl⟩
        · skip
          have x_t := xt
          have x_d := xd
          have BB := bel
          clear xt xd bel
          have zt := b6_lt x_t
          have zd := bx_lt x_d
          have EI := idxP0 a1 a2 b1 b2 c1 c2
          obtain ⟨g, hg⟩ : ∃ g, g = cmpP a1 a2 a1 a2 := ⟨_, rfl⟩
          have pg : (0 < g) = False := by rw [hg]; exact eq_false (cmp_self _ _)
          have Gg : Hid _ := hg
          clear hg
          obtain ⟨V, hV, bV, x_p, sV⟩ := bs_2 wr (.int .i64 a1) (.int .i64 a2) 31
          have zbV := bV.size
          replace x_t := x_t.on bV
          replace x_d := x_d.on bV
          replace BB := also BB bV
          go_wp2
          rw [← hV]
          clear hV
          have dd1 : Below V.heap.size V V.drew := (Below.refl _ _).drew
          have zdd1 := dd1.size
          replace x_t := x_t.on dd1
          replace x_d := x_d.on dd1
          replace BB := also BB dd1
          replace x_p := x_p.on dd1
          refine wp_region_held_drew (S := (fun w' => w'.cell? ⟨wr.heap.size, 0, none⟩ = some (.int .i64 a1) ∧ w'.cell? ⟨wr.heap.size, 1, none⟩ = some (.int .i64 a2) ∧ w'.cell? ⟨w.heap.size, 0, none⟩ = some (.int .i64 a1) ∧ w'.cell? ⟨w.heap.size, 1, none⟩ = some (.int .i64 a2) ∧ w'.cell? ⟨w.heap.size, 2, none⟩ = some (.int .i64 b1) ∧ w'.cell? ⟨w.heap.size, 3, none⟩ = some (.int .i64 b2) ∧ w'.cell? ⟨w.heap.size, 4, none⟩ = some (.int .i64 c1) ∧ w'.cell? ⟨w.heap.size, 5, none⟩ = some (.int .i64 c2) ∧ Below w.heap.size w w')) (by kernel_rfl) ?_ (fun hHeld => ?_)
          · exact ⟨x_p.c0, x_p.c1, x_t.c0, x_t.c1, x_t.c2, x_t.c3, x_t.c4, x_t.c5, BB⟩
          refine ty (i := 0) (v := ?vs0100) rfl ?hys0100 ?_
          case hys0100 => (intro w hSw; (try dsimp only at hSw); go_simp <;> with_reducible rfl)
          simp only [Act.put, ps1, ps2, ps3]
          refine ty (i := 1) (v := ?vs0101) rfl ?hys0101 ?_
          case hys0101 => (intro w hSw; (try dsimp only at hSw); go_simp <;> with_reducible rfl)
          simp only [Act.put, ps1, ps2, ps3]
          refine ty (i := 2) (v := ?vs0102) rfl ?hys0102 ?_
          case hys0102 => (intro w hSw; (try dsimp only at hSw); go_simp <;> with_reducible rfl)
          simp only [Act.put, ps1, ps2, ps3]
          refine ty (i := 3) (v := ?vs0103) rfl ?hys0103 ?_
          case hys0103 => (intro w hSw; (try dsimp only at hSw); go_simp <;> with_reducible rfl)
          simp only [Act.put, ps1, ps2, ps3]
          refine take_call (i := 4) rfl (by kernel_rfl) (fun Kc hK => ?_)
          go_simp
          (go_at_call 49; refine (lCmp a1 a2 a1 a2 _ Gg.out).mono ?_; rintro e w1 ⟨rfl, bw1⟩)
          refine hK.out _ _ ?_ (fun hHeld => ?_)
          · exact ⟨cell_on bw1 hHeld.1, cell_on bw1 hHeld.2.1, cell_on bw1 hHeld.2.2.1, cell_on bw1 hHeld.2.2.2.1, cell_on bw1 hHeld.2.2.2.2.1, cell_on bw1 hHeld.2.2.2.2.2.1, cell_on bw1 hHeld.2.2.2.2.2.2.1, cell_on bw1 hHeld.2.2.2.2.2.2.2.1, also hHeld.2.2.2.2.2.2.2.2 bw1⟩
          clear hK Kc
          have zbw1 := bw1.size
          replace x_t := x_t.on bw1
          replace x_d := x_d.on bw1
          replace BB := also BB bw1
          replace x_p := x_p.on bw1
          refine ty (i := 5) (v := ?vs0105) rfl ?hys0105 ?_
          case hys0105 => (intro w hSw; (try dsimp only at hSw); go_simp <;> with_reducible rfl)
          simp only [Act.put, ps1, ps2, ps3]
          refine wpAnyH_done (by kernel_rfl) ?_ _
          go_wp2
          go_roundw
          case rel => exact ⟨Or.inr (Or.inl ⟨rfl, rfl⟩), x_t, x_d, BB⟩
          case measure => simp [intOf]
        · skip
          have x_t := xt
          have x_d := xd
          have BB := bel
          clear xt xd bel
          have zt := b6_lt x_t
          have zd := bx_lt x_d
          have EI := idxP1 a1 a2 b1 b2 c1 c2
          obtain ⟨g, hg⟩ : ∃ g, g = cmpP b1 b2 a1 a2 := ⟨_, rfl⟩
          have pg : (0 < g) = False := by rw [hg]; exact eq_false (cmp_not hab)
          have Gg : Hid _ := hg
          clear hg
          obtain ⟨V, hV, bV, x_p, sV⟩ := bs_2 wr (.int .i64 b1) (.int .i64 b2) 31
          have zbV := bV.size
          replace x_t := x_t.on bV
          replace x_d := x_d.on bV
          replace BB := also BB bV
          go_wp2
          rw [← hV]
          clear hV
          have dd1 : Below V.heap.size V V.drew := (Below.refl _ _).drew
          have zdd1 := dd1.size
          replace x_t := x_t.on dd1
          replace x_d := x_d.on dd1
          replace BB := also BB dd1
          replace x_p := x_p.on dd1
          refine wp_region_held_drew (S := (fun w' => w'.cell? ⟨wr.heap.size, 0, none⟩ = some (.int .i64 b1) ∧ w'.cell? ⟨wr.heap.size, 1, none⟩ = some (.int .i64 b2) ∧ w'.cell? ⟨w.heap.size, 0, none⟩ = some (.int .i64 a1) ∧ w'.cell? ⟨w.heap.size, 1, none⟩ = some (.int .i64 a2) ∧ w'.cell? ⟨w.heap.size, 2, none⟩ = some (.int .i64 b1) ∧ w'.cell? ⟨w.heap.size, 3, none⟩ = some (.int .i64 b2) ∧ w'.cell? ⟨w.heap.size, 4, none⟩ = some (.int .i64 c1) ∧ w'.cell? ⟨w.heap.size, 5, none⟩ = some (.int .i64 c2) ∧ Below w.heap.size w w')) (by kernel_rfl) ?_ (fun hHeld => ?_)
          · exact ⟨x_p.c0, x_p.c1, x_t.c0, x_t.c1, x_t.c2, x_t.c3, x_t.c4, x_t.c5, BB⟩
          refine ty (i := 0) (v := ?vs0110) rfl ?hys0110 ?_
          case hys0110 => (intro w hSw; (try dsimp only at hSw); go_simp <;> with_reducible rfl)
          simp only [Act.put, ps1, ps2, ps3]
          refine ty (i := 1) (v := ?vs0111) rfl ?hys0111 ?_
          case hys0111 => (intro w hSw; (try dsimp only at hSw); go_simp <;> with_reducible rfl)
          simp only [Act.put, ps1, ps2, ps3]
          refine ty (i := 2) (v := ?vs0112) rfl ?hys0112 ?_
          case hys0112 => (intro w hSw; (try dsimp only at hSw); go_simp <;> with_reducible rfl)
          simp only [Act.put, ps1, ps2, ps3]
          refine ty (i := 3) (v := ?vs0113) rfl ?hys0113 ?_
          case hys0113 => (intro w hSw; (try dsimp only at hSw); go_simp <;> with_reducible rfl)
          simp only [Act.put, ps1, ps2, ps3]
          refine take_call (i := 4) rfl (by kernel_rfl) (fun Kc hK => ?_)
          go_simp
          (go_at_call 49; refine (lCmp b1 b2 a1 a2 _ Gg.out).mono ?_; rintro e w1 ⟨rfl, bw1⟩)
          refine hK.out _ _ ?_ (fun hHeld => ?_)
          · exact ⟨cell_on bw1 hHeld.1, cell_on bw1 hHeld.2.1, cell_on bw1 hHeld.2.2.1, cell_on bw1 hHeld.2.2.2.1, cell_on bw1 hHeld.2.2.2.2.1, cell_on bw1 hHeld.2.2.2.2.2.1, cell_on bw1 hHeld.2.2.2.2.2.2.1, cell_on bw1 hHeld.2.2.2.2.2.2.2.1, also hHeld.2.2.2.2.2.2.2.2 bw1⟩
          clear hK Kc
          have zbw1 := bw1.size
          replace x_t := x_t.on bw1
          replace x_d := x_d.on bw1
          replace BB := also BB bw1
          replace x_p := x_p.on bw1
          refine ty (i := 5) (v := ?vs0115) rfl ?hys0115 ?_
          case hys0115 => (intro w hSw; (try dsimp only at hSw); go_simp <;> with_reducible rfl)
          simp only [Act.put, ps1, ps2, ps3]
          refine wpAnyH_done (by kernel_rfl) ?_ _
          go_wp2
          go_roundw
          case rel => exact ⟨Or.inr (Or.inr (Or.inl ⟨rfl, rfl⟩)), x_t, x_d, BB⟩
          case measure => simp [intOf]
        · skip
          have x_t := xt
          have x_d := xd
          have BB := bel
          clear xt xd bel
          have zt := b6_lt x_t
          have zd := bx_lt x_d
          have EI := idxP2 a1 a2 b1 b2 c1 c2
          obtain ⟨g, hg⟩ : ∃ g, g = cmpP c1 c2 a1 a2 := ⟨_, rfl⟩
          have pg : (0 < g) = True := by rw [hg]; exact eq_true (cmp_yes hmc)
          have Gg : Hid _ := hg
          clear hg
          obtain ⟨V, hV, bV, x_p, sV⟩ := bs_2 wr (.int .i64 c1) (.int .i64 c2) 31
          have zbV := bV.size
          replace x_t := x_t.on bV
          replace x_d := x_d.on bV
          replace BB := also BB bV
          go_wp2
          rw [← hV]
          clear hV
          have dd1 : Below V.heap.size V V.drew := (Below.refl _ _).drew
          have zdd1 := dd1.size
          replace x_t := x_t.on dd1
          replace x_d := x_d.on dd1
          replace BB := also BB dd1
          replace x_p := x_p.on dd1
          refine wp_region_held_drew (S := (fun w' => w'.cell? ⟨wr.heap.size, 0, none⟩ = some (.int .i64 c1) ∧ w'.cell? ⟨wr.heap.size, 1, none⟩ = some (.int .i64 c2) ∧ w'.cell? ⟨w.heap.size, 0, none⟩ = some (.int .i64 a1) ∧ w'.cell? ⟨w.heap.size, 1, none⟩ = some (.int .i64 a2) ∧ w'.cell? ⟨w.heap.size, 2, none⟩ = some (.int .i64 b1) ∧ w'.cell? ⟨w.heap.size, 3, none⟩ = some (.int .i64 b2) ∧ w'.cell? ⟨w.heap.size, 4, none⟩ = some (.int .i64 c1) ∧ w'.cell? ⟨w.heap.size, 5, none⟩ = some (.int .i64 c2) ∧ Below w.heap.size w w')) (by kernel_rfl) ?_ (fun hHeld => ?_)
          · exact ⟨x_p.c0, x_p.c1, x_t.c0, x_t.c1, x_t.c2, x_t.c3, x_t.c4, x_t.c5, BB⟩
          refine ty (i := 0) (v := ?vs0120) rfl ?hys0120 ?_
          case hys0120 => (intro w hSw; (try dsimp only at hSw); go_simp <;> with_reducible rfl)
          simp only [Act.put, ps1, ps2, ps3]
          refine ty (i := 1) (v := ?vs0121) rfl ?hys0121 ?_
          case hys0121 => (intro w hSw; (try dsimp only at hSw); go_simp <;> with_reducible rfl)
          simp only [Act.put, ps1, ps2, ps3]
          refine ty (i := 2) (v := ?vs0122) rfl ?hys0122 ?_
          case hys0122 => (intro w hSw; (try dsimp only at hSw); go_simp <;> with_reducible rfl)
          simp only [Act.put, ps1, ps2, ps3]
          refine ty (i := 3) (v := ?vs0123) rfl ?hys0123 ?_
          case hys0123 => (intro w hSw; (try dsimp only at hSw); go_simp <;> with_reducible rfl)
          simp only [Act.put, ps1, ps2, ps3]
          refine take_call (i := 4) rfl (by kernel_rfl) (fun Kc hK => ?_)
          go_simp
          (go_at_call 49; refine (lCmp c1 c2 a1 a2 _ Gg.out).mono ?_; rintro e w1 ⟨rfl, bw1⟩)
          refine hK.out _ _ ?_ (fun hHeld => ?_)
          · exact ⟨cell_on bw1 hHeld.1, cell_on bw1 hHeld.2.1, cell_on bw1 hHeld.2.2.1, cell_on bw1 hHeld.2.2.2.1, cell_on bw1 hHeld.2.2.2.2.1, cell_on bw1 hHeld.2.2.2.2.2.1, cell_on bw1 hHeld.2.2.2.2.2.2.1, cell_on bw1 hHeld.2.2.2.2.2.2.2.1, also hHeld.2.2.2.2.2.2.2.2 bw1⟩
          clear hK Kc
          have zbw1 := bw1.size
          replace x_t := x_t.on bw1
          replace x_d := x_d.on bw1
          replace BB := also BB bw1
          replace x_p := x_p.on bw1
          refine ty (i := 5) (v := ?vs0125) rfl ?hys0125 ?_
          case hys0125 => (intro w hSw; (try dsimp only at hSw); go_simp <;> with_reducible rfl)
          simp only [Act.put, ps1, ps2, ps3]
          refine wpAnyH_done (by kernel_rfl) ?_ _
          go_wp2
          go_roundw
          case rel => exact ⟨Or.inr (Or.inr (Or.inr (⟨rfl, rfl⟩))), x_t, x_d, BB⟩
          case measure => simp [intOf]
        · skip
          have x_t := xt
          have x_d := xd
          have BB := bel
          clear xt xd bel
          have zt := b6_lt x_t
          have zd := bx_lt x_d
          cases hD : ltQ (c1, c2) (d1, d2)
          · skip
            have hl : r = decide ((arP a1 a2 b1 b2 d1 d2).sign = 1) := by rw [hr, hD]; rfl
            obtain ⟨s, hs⟩ : ∃ s, s = (arP a1 a2 b1 b2 d1 d2).sign := ⟨_, rfl⟩
            rw [← hs] at hl
            have HS : Hid _ := hs
            have HL : Hid _ := hl
            clear hs hl hr
            obtain ⟨g, hg⟩ : ∃ g, g = cmpP d1 d2 c1 c2 := ⟨_, rfl⟩
            have pg : (0 < g) = False := by rw [hg]; exact eq_false (cmp_not hD)
            have Gg : Hid _ := hg
            clear hg
            go_wp2
            have dd1 : Below wr.heap.size wr wr.drew := (Below.refl _ _).drew
            have zdd1 := dd1.size
            replace x_t := x_t.on dd1
            replace x_d := x_d.on dd1
            replace BB := also BB dd1
            refine wp_region_held_drew (S := (fun w' => w'.cell? ⟨w.heap.size + 1, 0, none⟩ = some (.int .i64 d1) ∧ w'.cell? ⟨w.heap.size + 1, 1, none⟩ = some (.int .i64 d2) ∧ w'.cell? ⟨w.heap.size, 0, none⟩ = some (.int .i64 a1) ∧ w'.cell? ⟨w.heap.size, 1, none⟩ = some (.int .i64 a2) ∧ w'.cell? ⟨w.heap.size, 2, none⟩ = some (.int .i64 b1) ∧ w'.cell? ⟨w.heap.size, 3, none⟩ = some (.int .i64 b2) ∧ w'.cell? ⟨w.heap.size, 4, none⟩ = some (.int .i64 c1) ∧ w'.cell? ⟨w.heap.size, 5, none⟩ = some (.int .i64 c2) ∧ Below w.heap.size w w')) (by kernel_rfl) ?_ (fun hHeld => ?_)
            · exact ⟨x_d.c0, x_d.c1, x_t.c0, x_t.c1, x_t.c2, x_t.c3, x_t.c4, x_t.c5, BB⟩
            refine ty (i := 0) (v := ?ve0100) rfl ?hye0100 ?_
            case hye0100 => (intro w hSw; (try dsimp only at hSw); go_simp <;> with_reducible rfl)
            simp only [Act.put, ps1, ps2, ps3]
            refine ty (i := 1) (v := ?ve0101) rfl ?hye0101 ?_
            case hye0101 => (intro w hSw; (try dsimp only at hSw); go_simp <;> with_reducible rfl)
            simp only [Act.put, ps1, ps2, ps3]
            refine ty (i := 2) (v := ?ve0102) rfl ?hye0102 ?_
            case hye0102 => (intro w hSw; (try dsimp only at hSw); go_simp <;> with_reducible rfl)
            simp only [Act.put, ps1, ps2, ps3]
            refine ty (i := 3) (v := ?ve0103) rfl ?hye0103 ?_
            case hye0103 => (intro w hSw; (try dsimp only at hSw); go_simp <;> with_reducible rfl)
            simp only [Act.put, ps1, ps2, ps3]
            refine take_call (i := 4) rfl (by kernel_rfl) (fun Kc hK => ?_)
            go_simp
            (go_at_call 49; refine (lCmp d1 d2 c1 c2 _ Gg.out).mono ?_; rintro e w1 ⟨rfl, bw1⟩)
            refine hK.out _ _ ?_ (fun hHeld => ?_)
            · exact ⟨cell_on bw1 hHeld.1, cell_on bw1 hHeld.2.1, cell_on bw1 hHeld.2.2.1, cell_on bw1 hHeld.2.2.2.1, cell_on bw1 hHeld.2.2.2.2.1, cell_on bw1 hHeld.2.2.2.2.2.1, cell_on bw1 hHeld.2.2.2.2.2.2.1, cell_on bw1 hHeld.2.2.2.2.2.2.2.1, also hHeld.2.2.2.2.2.2.2.2 bw1⟩
            clear hK Kc
            have zbw1 := bw1.size
            replace x_t := x_t.on bw1
            replace x_d := x_d.on bw1
            replace BB := also BB bw1
            refine ty (i := 5) (v := ?ve0105) rfl ?hye0105 ?_
            case hye0105 => (intro w hSw; (try dsimp only at hSw); go_simp <;> with_reducible rfl)
            simp only [Act.put, ps1, ps2, ps3]
            refine wpAnyH_done (by kernel_rfl) ?_ _
            have ⟨x_t_0, x_t_1, x_t_2, x_t_3, x_t_4, x_t_5, x_t_6, x_t_7, x_t_8, x_t_9, x_t_10, x_t_11⟩ := x_t
            have ⟨x_d_0, x_d_1, x_d_2, x_d_3⟩ := x_d
            go_wp2_with (go_at_call 16; fail)
            have B2 : Below w.heap.size w ((w1.setCell ⟨w.heap.size, 4, none⟩ (.int .i64 d1)).setCell ⟨w.heap.size, 5, none⟩ (.int .i64 d2)) := (BB.setCell (Nat.le_refl _) _).setCell (Nat.le_refl _) _
            refine (pOrient a1 a2 b1 b2 d1 d2 _ HS.out).mono ?_
            rintro e w2 ⟨rfl, b2⟩
            go_wp2
            go_ret
            exact ⟨by rw [HL.out]; rfl, also B2 b2⟩
          · skip
            obtain rfl : r = false := by rw [hr, hD]; rfl
            clear hr
            obtain ⟨g, hg⟩ : ∃ g, g = cmpP d1 d2 c1 c2 := ⟨_, rfl⟩
            have pg : (0 < g) = True := by rw [hg]; exact eq_true (cmp_yes hD)
            have Gg : Hid _ := hg
            clear hg
            go_wp2
            have dd1 : Below wr.heap.size wr wr.drew := (Below.refl _ _).drew
            have zdd1 := dd1.size
            replace x_t := x_t.on dd1
            replace x_d := x_d.on dd1
            replace BB := also BB dd1
            refine wp_region_held_drew (S := (fun w' => w'.cell? ⟨w.heap.size + 1, 0, none⟩ = some (.int .i64 d1) ∧ w'.cell? ⟨w.heap.size + 1, 1, none⟩ = some (.int .i64 d2) ∧ w'.cell? ⟨w.heap.size, 0, none⟩ = some (.int .i64 a1) ∧ w'.cell? ⟨w.heap.size, 1, none⟩ = some (.int .i64 a2) ∧ w'.cell? ⟨w.heap.size, 2, none⟩ = some (.int .i64 b1) ∧ w'.cell? ⟨w.heap.size, 3, none⟩ = some (.int .i64 b2) ∧ w'.cell? ⟨w.heap.size, 4, none⟩ = some (.int .i64 c1) ∧ w'.cell? ⟨w.heap.size, 5, none⟩ = some (.int .i64 c2) ∧ Below w.heap.size w w')) (by kernel_rfl) ?_ (fun hHeld => ?_)
            · exact ⟨x_d.c0, x_d.c1, x_t.c0, x_t.c1, x_t.c2, x_t.c3, x_t.c4, x_t.c5, BB⟩
            refine ty (i := 0) (v := ?ve0110) rfl ?hye0110 ?_
            case hye0110 => (intro w hSw; (try dsimp only at hSw); go_simp <;> with_reducible rfl)
            simp only [Act.put, ps1, ps2, ps3]
            refine ty (i := 1) (v := ?ve0111) rfl ?hye0111 ?_
            case hye0111 => (intro w hSw; (try dsimp only at hSw); go_simp <;> with_reducible rfl)
            simp only [Act.put, ps1, ps2, ps3]
            refine ty (i := 2) (v := ?ve0112) rfl ?hye0112 ?_
            case hye0112 => (intro w hSw; (try dsimp only at hSw); go_simp <;> with_reducible rfl)
            simp only [Act.put, ps1, ps2, ps3]
            refine ty (i := 3) (v := ?ve0113) rfl ?hye0113 ?_
            case hye0113 => (intro w hSw; (try dsimp only at hSw); go_simp <;> with_reducible rfl)
            simp only [Act.put, ps1, ps2, ps3]
            refine take_call (i := 4) rfl (by kernel_rfl) (fun Kc hK => ?_)
            go_simp
            (go_at_call 49; refine (lCmp d1 d2 c1 c2 _ Gg.out).mono ?_; rintro e w1 ⟨rfl, bw1⟩)
            refine hK.out _ _ ?_ (fun hHeld => ?_)
            · exact ⟨cell_on bw1 hHeld.1, cell_on bw1 hHeld.2.1, cell_on bw1 hHeld.2.2.1, cell_on bw1 hHeld.2.2.2.1, cell_on bw1 hHeld.2.2.2.2.1, cell_on bw1 hHeld.2.2.2.2.2.1, cell_on bw1 hHeld.2.2.2.2.2.2.1, cell_on bw1 hHeld.2.2.2.2.2.2.2.1, also hHeld.2.2.2.2.2.2.2.2 bw1⟩
            clear hK Kc
            have zbw1 := bw1.size
            replace x_t := x_t.on bw1
            replace x_d := x_d.on bw1
            replace BB := also BB bw1
            refine ty (i := 5) (v := ?ve0115) rfl ?hye0115 ?_
            case hye0115 => (intro w hSw; (try dsimp only at hSw); go_simp <;> with_reducible rfl)
            simp only [Act.put, ps1, ps2, ps3]
            refine wpAnyH_done (by kernel_rfl) ?_ _
            go_wp2
            go_ret
            exact ⟨rfl, BB⟩
  · skip
    simp only [hab, if_true] at hr
    cases hmc : ltQ (b1, b2) (c1, c2)
    · simp only [hmc, if_false, Bool.false_eq_true] at hr
      obtain ⟨W, hW, bW, x_t, x_d, sW⟩ := bs_62 w (.int .i64 a1) (.int .i64 a2) (.int .i64 b1) (.int .i64 b2) (.int .i64 c1) (.int .i64 c2) (.int .i64 d1) (.int .i64 d2) 52 31
      have zbW := bW.size
      have BB := bW
      go_enter Try.func28, Try.ntmps28
      go_wp2
      rw [← hW]
      clear hW
      go_loopw [5, 9] (fun l i wr => ((i = .int .i64 0 ∧ l = .int .i64 0) ∨ (i = .int .i64 1 ∧ l = .int .i64 0) ∨ (i = .int .i64 2 ∧ l = .int .i64 1) ∨ (i = .int .i64 3 ∧ l = .int .i64 1)) ∧ B6 wr w.heap.size (.int .i64 a1) (.int .i64 a2) (.int .i64 b1) (.int .i64 b2) (.int .i64 c1) (.int .i64 c2) ∧ Bx wr (w.heap.size + 1) (.int .i64 d1) (.int .i64 d2) ∧ Below w.heap.size w wr) (fun _ i _ => 3 - (intOf i).toNat)
      case atStart => exact ⟨Or.inl ⟨rfl, rfl⟩, x_t, x_d, BB⟩
      case round =>
        obtain ⟨hki, xt, xd, bel⟩ := hrel
        clear x_t x_d BB
        rcases hki with ⟨rfl, rfl⟩ | ⟨rfl, rfl⟩ | ⟨rfl, rfl⟩ | ⟨rfl, rfl⟩
        · skip
          have x_t := xt
          have x_d := xd
          have BB := bel
          clear xt xd bel
          have zt := b6_lt x_t
          have zd := bx_lt x_d
          have EI := idxP0 a1 a2 b1 b2 c1 c2
          obtain ⟨g, hg⟩ : ∃ g, g = cmpP a1 a2 a1 a2 := ⟨_, rfl⟩
          have pg : (0 < g) = False := by rw [hg]; exact eq_false (cmp_self _ _)
          have Gg : Hid _ := hg
          clear hg
          obtain ⟨V, hV, bV, x_p, sV⟩ := bs_2 wr (.int .i64 a1) (.int .i64 a2) 31
          have zbV := bV.size
          replace x_t := x_t.on bV
          replace x_d := x_d.on bV
          replace BB := also BB bV
          go_wp2
          rw [← hV]
          clear hV
          have dd1 : Below V.heap.size V V.drew := (Below.refl _ _).drew
          have zdd1 := dd1.size
          replace x_t := x_t.on dd1
          replace x_d := x_d.on dd1
          replace BB := also BB dd1
          replace x_p := x_p.on dd1
          refine wp_region_held_drew (S := (fun w' => w'.cell? ⟨wr.heap.size, 0, none⟩ = some (.int .i64 a1) ∧ w'.cell? ⟨wr.heap.size, 1, none⟩ = some (.int .i64 a2) ∧ w'.cell? ⟨w.heap.size, 0, none⟩ = some (.int .i64 a1) ∧ w'.cell? ⟨w.heap.size, 1, none⟩ = some (.int .i64 a2) ∧ w'.cell? ⟨w.heap.size, 2, none⟩ = some (.int .i64 b1) ∧ w'.cell? ⟨w.heap.size, 3, none⟩ = some (.int .i64 b2) ∧ w'.cell? ⟨w.heap.size, 4, none⟩ = some (.int .i64 c1) ∧ w'.cell? ⟨w.heap.size, 5, none⟩ = some (.int .i64 c2) ∧ Below w.heap.size w w')) (by kernel_rfl) ?_ (fun hHeld => ?_)
          · exact ⟨x_p.c0, x_p.c1, x_t.c0, x_t.c1, x_t.c2, x_t.c3, x_t.c4, x_t.c5, BB⟩
          refine ty (i := 0) (v := ?vs1000) rfl ?hys1000 ?_
          case hys1000 => (intro w hSw; (try dsimp only at hSw); go_simp <;> with_reducible rfl)
          simp only [Act.put, ps1, ps2, ps3]
          refine ty (i := 1) (v := ?vs1001) rfl ?hys1001 ?_
          case hys1001 => (intro w hSw; (try dsimp only at hSw); go_simp <;> with_reducible rfl)
          simp only [Act.put, ps1, ps2, ps3]
          refine ty (i := 2) (v := ?vs1002) rfl ?hys1002 ?_
          case hys1002 => (intro w hSw; (try dsimp only at hSw); go_simp <;> with_reducible rfl)
          simp only [Act.put, ps1, ps2, ps3]
          refine ty (i := 3) (v := ?vs1003) rfl ?hys1003 ?_
          case hys1003 => (intro w hSw; (try dsimp only at hSw); go_simp <;> with_reducible rfl)
          simp only [Act.put, ps1, ps2, ps3]
          refine take_call (i := 4) rfl (by kernel_rfl) (fun Kc hK => ?_)
          go_simp
          (go_at_call 49; refine (lCmp a1 a2 a1 a2 _ Gg.out).mono ?_; rintro e w1 ⟨rfl, bw1⟩)
          refine hK.out _ _ ?_ (fun hHeld => ?_)
          · exact ⟨cell_on bw1 hHeld.1, cell_on bw1 hHeld.2.1, cell_on bw1 hHeld.2.2.1, cell_on bw1 hHeld.2.2.2.1, cell_on bw1 hHeld.2.2.2.2.1, cell_on bw1 hHeld.2.2.2.2.2.1, cell_on bw1 hHeld.2.2.2.2.2.2.1, cell_on bw1 hHeld.2.2.2.2.2.2.2.1, also hHeld.2.2.2.2.2.2.2.2 bw1⟩
          clear hK Kc
          have zbw1 := bw1.size
          replace x_t := x_t.on bw1
          replace x_d := x_d.on bw1
          replace BB := also BB bw1
          replace x_p := x_p.on bw1
          refine ty (i := 5) (v := ?vs1005) rfl ?hys1005 ?_
          case hys1005 => (intro w hSw; (try dsimp only at hSw); go_simp <;> with_reducible rfl)
          simp only [Act.put, ps1, ps2, ps3]
          refine wpAnyH_done (by kernel_rfl) ?_ _
          go_wp2
          go_roundw
          case rel => exact ⟨Or.inr (Or.inl ⟨rfl, rfl⟩), x_t, x_d, BB⟩
          case measure => simp [intOf]
        · skip
          have x_t := xt
          have x_d := xd
          have BB := bel
          clear xt xd bel
          have zt := b6_lt x_t
          have zd := bx_lt x_d
          have EI := idxP1 a1 a2 b1 b2 c1 c2
          obtain ⟨g, hg⟩ : ∃ g, g = cmpP b1 b2 a1 a2 := ⟨_, rfl⟩
          have pg : (0 < g) = True := by rw [hg]; exact eq_true (cmp_yes hab)
          have Gg : Hid _ := hg
          clear hg
          obtain ⟨V, hV, bV, x_p, sV⟩ := bs_2 wr (.int .i64 b1) (.int .i64 b2) 31
          have zbV := bV.size
          replace x_t := x_t.on bV
          replace x_d := x_d.on bV
          replace BB := also BB bV
          go_wp2
          rw [← hV]
          clear hV
          have dd1 : Below V.heap.size V V.drew := (Below.refl _ _).drew
          have zdd1 := dd1.size
          replace x_t := x_t.on dd1
          replace x_d := x_d.on dd1
          replace BB := also BB dd1
          replace x_p := x_p.on dd1
          refine wp_region_held_drew (S := (fun w' => w'.cell? ⟨wr.heap.size, 0, none⟩ = some (.int .i64 b1) ∧ w'.cell? ⟨wr.heap.size, 1, none⟩ = some (.int .i64 b2) ∧ w'.cell? ⟨w.heap.size, 0, none⟩ = some (.int .i64 a1) ∧ w'.cell? ⟨w.heap.size, 1, none⟩ = some (.int .i64 a2) ∧ w'.cell? ⟨w.heap.size, 2, none⟩ = some (.int .i64 b1) ∧ w'.cell? ⟨w.heap.size, 3, none⟩ = some (.int .i64 b2) ∧ w'.cell? ⟨w.heap.size, 4, none⟩ = some (.int .i64 c1) ∧ w'.cell? ⟨w.heap.size, 5, none⟩ = some (.int .i64 c2) ∧ Below w.heap.size w w')) (by kernel_rfl) ?_ (fun hHeld => ?_)
          · exact ⟨x_p.c0, x_p.c1, x_t.c0, x_t.c1, x_t.c2, x_t.c3, x_t.c4, x_t.c5, BB⟩
          refine ty (i := 0) (v := ?vs1010) rfl ?hys1010 ?_
          case hys1010 => (intro w hSw; (try dsimp only at hSw); go_simp <;> with_reducible rfl)
          simp only [Act.put, ps1, ps2, ps3]
          refine ty (i := 1) (v := ?vs1011) rfl ?hys1011 ?_
          case hys1011 => (intro w hSw; (try dsimp only at hSw); go_simp <;> with_reducible rfl)
          simp only [Act.put, ps1, ps2, ps3]
          refine ty (i := 2) (v := ?vs1012) rfl ?hys1012 ?_
          case hys1012 => (intro w hSw; (try dsimp only at hSw); go_simp <;> with_reducible rfl)
          simp only [Act.put, ps1, ps2, ps3]
          refine ty (i := 3) (v := ?vs1013) rfl ?hys1013 ?_
          case hys1013 => (intro w hSw; (try dsimp only at hSw); go_simp <;> with_reducible rfl)
          simp only [Act.put, ps1, ps2, ps3]
          refine take_call (i := 4) rfl (by kernel_rfl) (fun Kc hK => ?_)
          go_simp
          (go_at_call 49; refine (lCmp b1 b2 a1 a2 _ Gg.out).mono ?_; rintro e w1 ⟨rfl, bw1⟩)
          refine hK.out _ _ ?_ (fun hHeld => ?_)
          · exact ⟨cell_on bw1 hHeld.1, cell_on bw1 hHeld.2.1, cell_on bw1 hHeld.2.2.1, cell_on bw1 hHeld.2.2.2.1, cell_on bw1 hHeld.2.2.2.2.1, cell_on bw1 hHeld.2.2.2.2.2.1, cell_on bw1 hHeld.2.2.2.2.2.2.1, cell_on bw1 hHeld.2.2.2.2.2.2.2.1, also hHeld.2.2.2.2.2.2.2.2 bw1⟩
          clear hK Kc
          have zbw1 := bw1.size
          replace x_t := x_t.on bw1
          replace x_d := x_d.on bw1
          replace BB := also BB bw1
          replace x_p := x_p.on bw1
          refine ty (i := 5) (v := ?vs1015) rfl ?hys1015 ?_
          case hys1015 => (intro w hSw; (try dsimp only at hSw); go_simp <;> with_reducible rfl)
          simp only [Act.put, ps1, ps2, ps3]
          refine wpAnyH_done (by kernel_rfl) ?_ _
          go_wp2
          go_roundw
          case rel => exact ⟨Or.inr (Or.inr (Or.inl ⟨rfl, rfl⟩)), x_t, x_d, BB⟩
          case measure => simp [intOf]
        · skip
          have x_t := xt
          have x_d := xd
          have BB := bel
          clear xt xd bel
          have zt := b6_lt x_t
          have zd := bx_lt x_d
          have EI := idxP2 a1 a2 b1 b2 c1 c2
          obtain ⟨g, hg⟩ : ∃ g, g = cmpP c1 c2 b1 b2 := ⟨_, rfl⟩
          have pg : (0 < g) = False := by rw [hg]; exact eq_false (cmp_not hmc)
          have Gg : Hid _ := hg
          clear hg
          obtain ⟨V, hV, bV, x_p, sV⟩ := bs_2 wr (.int .i64 c1) (.int .i64 c2) 31
          have zbV := bV.size
          replace x_t := x_t.on bV
          replace x_d := x_d.on bV
          replace BB := also BB bV
          go_wp2
          rw [← hV]
          clear hV
          have dd1 : Below V.heap.size V V.drew := (Below.refl _ _).drew
          have zdd1 := dd1.size
          replace x_t := x_t.on dd1
          replace x_d := x_d.on dd1
          replace BB := also BB dd1
          replace x_p := x_p.on dd1
          refine wp_region_held_drew (S := (fun w' => w'.cell? ⟨wr.heap.size, 0, none⟩ = some (.int .i64 c1) ∧ w'.cell? ⟨wr.heap.size, 1, none⟩ = some (.int .i64 c2) ∧ w'.cell? ⟨w.heap.size, 0, none⟩ = some (.int .i64 a1) ∧ w'.cell? ⟨w.heap.size, 1, none⟩ = some (.int .i64 a2) ∧ w'.cell? ⟨w.heap.size, 2, none⟩ = some (.int .i64 b1) ∧ w'.cell? ⟨w.heap.size, 3, none⟩ = some (.int .i64 b2) ∧ w'.cell? ⟨w.heap.size, 4, none⟩ = some (.int .i64 c1) ∧ w'.cell? ⟨w.heap.size, 5, none⟩ = some (.int .i64 c2) ∧ Below w.heap.size w w')) (by kernel_rfl) ?_ (fun hHeld => ?_)
          · exact ⟨x_p.c0, x_p.c1, x_t.c0, x_t.c1, x_t.c2, x_t.c3, x_t.c4, x_t.c5, BB⟩
          refine ty (i := 0) (v := ?vs1020) rfl ?hys1020 ?_
          case hys1020 => (intro w hSw; (try dsimp only at hSw); go_simp <;> with_reducible rfl)
          simp only [Act.put, ps1, ps2, ps3]
          refine ty (i := 1) (v := ?vs1021) rfl ?hys1021 ?_
          case hys1021 => (intro w hSw; (try dsimp only at hSw); go_simp <;> with_reducible rfl)
          simp only [Act.put, ps1, ps2, ps3]
          refine ty (i := 2) (v := ?vs1022) rfl ?hys1022 ?_
          case hys1022 => (intro w hSw; (try dsimp only at hSw); go_simp <;> with_reducible rfl)
          simp only [Act.put, ps1, ps2, ps3]
          refine ty (i := 3) (v := ?vs1023) rfl ?hys1023 ?_
          case hys1023 => (intro w hSw; (try dsimp only at hSw); go_simp <;> with_reducible rfl)
          simp only [Act.put, ps1, ps2, ps3]
          refine take_call (i := 4) rfl (by kernel_rfl) (fun Kc hK => ?_)
          go_simp
          (go_at_call 49; refine (lCmp c1 c2 b1 b2 _ Gg.out).mono ?_; rintro e w1 ⟨rfl, bw1⟩)
          refine hK.out _ _ ?_ (fun hHeld => ?_)
          · exact ⟨cell_on bw1 hHeld.1, cell_on bw1 hHeld.2.1, cell_on bw1 hHeld.2.2.1, cell_on bw1 hHeld.2.2.2.1, cell_on bw1 hHeld.2.2.2.2.1, cell_on bw1 hHeld.2.2.2.2.2.1, cell_on bw1 hHeld.2.2.2.2.2.2.1, cell_on bw1 hHeld.2.2.2.2.2.2.2.1, also hHeld.2.2.2.2.2.2.2.2 bw1⟩
          clear hK Kc
          have zbw1 := bw1.size
          replace x_t := x_t.on bw1
          replace x_d := x_d.on bw1
          replace BB := also BB bw1
          replace x_p := x_p.on bw1
          refine ty (i := 5) (v := ?vs1025) rfl ?hys1025 ?_
          case hys1025 => (intro w hSw; (try dsimp only at hSw); go_simp <;> with_reducible rfl)
          simp only [Act.put, ps1, ps2, ps3]
          refine wpAnyH_done (by kernel_rfl) ?_ _
          go_wp2
          go_roundw
          case rel => exact ⟨Or.inr (Or.inr (Or.inr (⟨rfl, rfl⟩))), x_t, x_d, BB⟩
          case measure => simp [intOf]
        · skip
          have x_t := xt
          have x_d := xd
          have BB := bel
          clear xt xd bel
          have zt := b6_lt x_t
          have zd := bx_lt x_d
          cases hD : ltQ (b1, b2) (d1, d2)
          · skip
            have hl : r = decide ((arP a1 a2 d1 d2 c1 c2).sign = 1) := by rw [hr, hD]; rfl
            obtain ⟨s, hs⟩ : ∃ s, s = (arP a1 a2 d1 d2 c1 c2).sign := ⟨_, rfl⟩
            rw [← hs] at hl
            have HS : Hid _ := hs
            have HL : Hid _ := hl
            clear hs hl hr
            obtain ⟨g, hg⟩ : ∃ g, g = cmpP d1 d2 b1 b2 := ⟨_, rfl⟩
            have pg : (0 < g) = False := by rw [hg]; exact eq_false (cmp_not hD)
            have Gg : Hid _ := hg
            clear hg
            go_wp2
            have dd1 : Below wr.heap.size wr wr.drew := (Below.refl _ _).drew
            have zdd1 := dd1.size
            replace x_t := x_t.on dd1
            replace x_d := x_d.on dd1
            replace BB := also BB dd1
            refine wp_region_held_drew (S := (fun w' => w'.cell? ⟨w.heap.size + 1, 0, none⟩ = some (.int .i64 d1) ∧ w'.cell? ⟨w.heap.size + 1, 1, none⟩ = some (.int .i64 d2) ∧ w'.cell? ⟨w.heap.size, 0, none⟩ = some (.int .i64 a1) ∧ w'.cell? ⟨w.heap.size, 1, none⟩ = some (.int .i64 a2) ∧ w'.cell? ⟨w.heap.size, 2, none⟩ = some (.int .i64 b1) ∧ w'.cell? ⟨w.heap.size, 3, none⟩ = some (.int .i64 b2) ∧ w'.cell? ⟨w.heap.size, 4, none⟩ = some (.int .i64 c1) ∧ w'.cell? ⟨w.heap.size, 5, none⟩ = some (.int .i64 c2) ∧ Below w.heap.size w w')) (by kernel_rfl) ?_ (fun hHeld => ?_)
            · exact ⟨x_d.c0, x_d.c1, x_t.c0, x_t.c1, x_t.c2, x_t.c3, x_t.c4, x_t.c5, BB⟩
            refine ty (i := 0) (v := ?ve1000) rfl ?hye1000 ?_
            case hye1000 => (intro w hSw; (try dsimp only at hSw); go_simp <;> with_reducible rfl)
            simp only [Act.put, ps1, ps2, ps3]
            refine ty (i := 1) (v := ?ve1001) rfl ?hye1001 ?_
            case hye1001 => (intro w hSw; (try dsimp only at hSw); go_simp <;> with_reducible rfl)
            simp only [Act.put, ps1, ps2, ps3]
            refine ty (i := 2) (v := ?ve1002) rfl ?hye1002 ?_
            case hye1002 => (intro w hSw; (try dsimp only at hSw); go_simp <;> with_reducible rfl)
            simp only [Act.put, ps1, ps2, ps3]
            refine ty (i := 3) (v := ?ve1003) rfl ?hye1003 ?_
            case hye1003 => (intro w hSw; (try dsimp only at hSw); go_simp <;> with_reducible rfl)
            simp only [Act.put, ps1, ps2, ps3]
            refine take_call (i := 4) rfl (by kernel_rfl) (fun Kc hK => ?_)
            go_simp
            (go_at_call 49; refine (lCmp d1 d2 b1 b2 _ Gg.out).mono ?_; rintro e w1 ⟨rfl, bw1⟩)
            refine hK.out _ _ ?_ (fun hHeld => ?_)
            · exact ⟨cell_on bw1 hHeld.1, cell_on bw1 hHeld.2.1, cell_on bw1 hHeld.2.2.1, cell_on bw1 hHeld.2.2.2.1, cell_on bw1 hHeld.2.2.2.2.1, cell_on bw1 hHeld.2.2.2.2.2.1, cell_on bw1 hHeld.2.2.2.2.2.2.1, cell_on bw1 hHeld.2.2.2.2.2.2.2.1, also hHeld.2.2.2.2.2.2.2.2 bw1⟩
            clear hK Kc
            have zbw1 := bw1.size
            replace x_t := x_t.on bw1
            replace x_d := x_d.on bw1
            replace BB := also BB bw1
            refine ty (i := 5) (v := ?ve1005) rfl ?hye1005 ?_
            case hye1005 => (intro w hSw; (try dsimp only at hSw); go_simp <;> with_reducible rfl)
            simp only [Act.put, ps1, ps2, ps3]
            refine wpAnyH_done (by kernel_rfl) ?_ _
            have ⟨x_t_0, x_t_1, x_t_2, x_t_3, x_t_4, x_t_5, x_t_6, x_t_7, x_t_8, x_t_9, x_t_10, x_t_11⟩ := x_t
            have ⟨x_d_0, x_d_1, x_d_2, x_d_3⟩ := x_d
            go_wp2_with (go_at_call 16; fail)
            have B2 : Below w.heap.size w ((w1.setCell ⟨w.heap.size, 2, none⟩ (.int .i64 d1)).setCell ⟨w.heap.size, 3, none⟩ (.int .i64 d2)) := (BB.setCell (Nat.le_refl _) _).setCell (Nat.le_refl _) _
            refine (pOrient a1 a2 d1 d2 c1 c2 _ HS.out).mono ?_
            rintro e w2 ⟨rfl, b2⟩
            go_wp2
            go_ret
            exact ⟨by rw [HL.out]; rfl, also B2 b2⟩
          · skip
            obtain rfl : r = false := by rw [hr, hD]; rfl
            clear hr
            obtain ⟨g, hg⟩ : ∃ g, g = cmpP d1 d2 b1 b2 := ⟨_, rfl⟩
            have pg : (0 < g) = True := by rw [hg]; exact eq_true (cmp_yes hD)
            have Gg : Hid _ := hg
            clear hg
            go_wp2
            have dd1 : Below wr.heap.size wr wr.drew := (Below.refl _ _).drew
            have zdd1 := dd1.size
            replace x_t := x_t.on dd1
            replace x_d := x_d.on dd1
            replace BB := also BB dd1
            refine wp_region_held_drew (S := (fun w' => w'.cell? ⟨w.heap.size + 1, 0, none⟩ = some (.int .i64 d1) ∧ w'.cell? ⟨w.heap.size + 1, 1, none⟩ = some (.int .i64 d2) ∧ w'.cell? ⟨w.heap.size, 0, none⟩ = some (.int .i64 a1) ∧ w'.cell? ⟨w.heap.size, 1, none⟩ = some (.int .i64 a2) ∧ w'.cell? ⟨w.heap.size, 2, none⟩ = some (.int .i64 b1) ∧ w'.cell? ⟨w.heap.size, 3, none⟩ = some (.int .i64 b2) ∧ w'.cell? ⟨w.heap.size, 4, none⟩ = some (.int .i64 c1) ∧ w'.cell? ⟨w.heap.size, 5, none⟩ = some (.int .i64 c2) ∧ Below w.heap.size w w')) (by kernel_rfl) ?_ (fun hHeld => ?_)
            · exact ⟨x_d.c0, x_d.c1, x_t.c0, x_t.c1, x_t.c2, x_t.c3, x_t.c4, x_t.c5, BB⟩
            refine ty (i := 0) (v := ?ve1010) rfl ?hye1010 ?_
            case hye1010 => (intro w hSw; (try dsimp only at hSw); go_simp <;> with_reducible rfl)
            simp only [Act.put, ps1, ps2, ps3]
            refine ty (i := 1) (v := ?ve1011) rfl ?hye1011 ?_
            case hye1011 => (intro w hSw; (try dsimp only at hSw); go_simp <;> with_reducible rfl)
            simp only [Act.put, ps1, ps2, ps3]
            refine ty (i := 2) (v := ?ve1012) rfl ?hye1012 ?_
            case hye1012 => (intro w hSw; (try dsimp only at hSw); go_simp <;> with_reducible rfl)
            simp only [Act.put, ps1, ps2, ps3]
            refine ty (i := 3) (v := ?ve1013) rfl ?hye1013 ?_
            case hye1013 => (intro w hSw; (try dsimp only at hSw); go_simp <;> with_reducible rfl)
            simp only [Act.put, ps1, ps2, ps3]
            refine take_call (i := 4) rfl (by kernel_rfl) (fun Kc hK => ?_)
            go_simp
            (go_at_call 49; refine (lCmp d1 d2 b1 b2 _ Gg.out).mono ?_; rintro e w1 ⟨rfl, bw1⟩)
            refine hK.out _ _ ?_ (fun hHeld => ?_)
            · exact ⟨cell_on bw1 hHeld.1, cell_on bw1 hHeld.2.1, cell_on bw1 hHeld.2.2.1, cell_on bw1 hHeld.2.2.2.1, cell_on bw1 hHeld.2.2.2.2.1, cell_on bw1 hHeld.2.2.2.2.2.1, cell_on bw1 hHeld.2.2.2.2.2.2.1, cell_on bw1 hHeld.2.2.2.2.2.2.2.1, also hHeld.2.2.2.2.2.2.2.2 bw1⟩
            clear hK Kc
            have zbw1 := bw1.size
            replace x_t := x_t.on bw1
            replace x_d := x_d.on bw1
            replace BB := also BB bw1
            refine ty (i := 5) (v := ?ve1015) rfl ?hye1015 ?_
            case hye1015 => (intro w hSw; (try dsimp only at hSw); go_simp <;> with_reducible rfl)
            simp only [Act.put, ps1, ps2, ps3]
            refine wpAnyH_done (by kernel_rfl) ?_ _
            go_wp2
            go_ret
            exact ⟨rfl, BB⟩
    · simp only [hmc, if_true] at hr
      obtain ⟨W, hW, bW, x_t, x_d, sW⟩ := bs_62 w (.int .i64 a1) (.int .i64 a2) (.int .i64 b1) (.int .i64 b2) (.int .i64 c1) (.int .i64 c2) (.int .i64 d1) (.int .i64 d2) 52 31
      have zbW := bW.size
      have BB := bW
      go_enter Try.func28, Try.ntmps28
      go_wp2
      rw [← hW]
      clear hW
      go_loopw [5, 9] (fun l i wr => ((i = .int .i64 0 ∧ l = .int .i64 0) ∨ (i = .int .i64 1 ∧ l = .int .i64 0) ∨ (i = .int .i64 2 ∧ l = .int .i64 1) ∨ (i = .int .i64 3 ∧ l = .int .i64 2)) ∧ B6 wr w.heap.size (.int .i64 a1) (.int .i64 a2) (.int .i64 b1) (.int .i64 b2) (.int .i64 c1) (.int .i64 c2) ∧ Bx wr (w.heap.size + 1) (.int .i64 d1) (.int .i64 d2) ∧ Below w.heap.size w wr) (fun _ i _ => 3 - (intOf i).toNat)
      case atStart => exact ⟨Or.inl ⟨rfl, rfl⟩, x_t, x_d, BB⟩
      case round =>
        obtain ⟨hki, xt, xd, bel⟩ := hrel
        clear x_t x_d BB
        rcases hki with ⟨rfl, rfl⟩ | ⟨rfl, rfl⟩ | ⟨rfl, rfl⟩ | ⟨rfl, rfl⟩
        · skip
          have x_t := xt
          have x_d := xd
          have BB := bel
          clear xt xd bel
          have zt := b6_lt x_t
          have zd := bx_lt x_d
          have EI := idxP0 a1 a2 b1 b2 c1 c2
          obtain ⟨g, hg⟩ : ∃ g, g = cmpP a1 a2 a1 a2 := ⟨_, rfl⟩
          have pg : (0 < g) = False := by rw [hg]; exact eq_false (cmp_self _ _)
          have Gg : Hid _ := hg
          clear hg
          obtain ⟨V, hV, bV, x_p, sV⟩ := bs_2 wr (.int .i64 a1) (.int .i64 a2) 31
          have zbV := bV.size
          replace x_t := x_t.on bV
          replace x_d := x_d.on bV
          replace BB := also BB bV
          go_wp2
          rw [← hV]
          clear hV
          have dd1 : Below V.heap.size V V.drew := (Below.refl _ _).drew
          have zdd1 := dd1.size
          replace x_t := x_t.on dd1
          replace x_d := x_d.on dd1
          replace BB := also BB dd1
          replace x_p := x_p.on dd1
          refine wp_region_held_drew (S := (fun w' => w'.cell? ⟨wr.heap.size, 0, none⟩ = some (.int .i64 a1) ∧ w'.cell? ⟨wr.heap.size, 1, none⟩ = some (.int .i64 a2) ∧ w'.cell? ⟨w.heap.size, 0, none⟩ = some (.int .i64 a1) ∧ w'.cell? ⟨w.heap.size, 1, none⟩ = some (.int .i64 a2) ∧ w'.cell? ⟨w.heap.size, 2, none⟩ = some (.int .i64 b1) ∧ w'.cell? ⟨w.heap.size, 3, none⟩ = some (.int .i64 b2) ∧ w'.cell? ⟨w.heap.size, 4, none⟩ = some (.int .i64 c1) ∧ w'.cell? ⟨w.heap.size, 5, none⟩ = some (.int .i64 c2) ∧ Below w.heap.size w w')) (by kernel_rfl) ?_ (fun hHeld => ?_)
          · exact ⟨x_p.c0, x_p.c1, x_t.c0, x_t.c1, x_t.c2, x_t.c3, x_t.c4, x_t.c5, BB⟩
          refine ty (i := 0) (v := ?vs1100) rfl ?hys1100 ?_
          case hys1100 => (intro w hSw; (try dsimp only at hSw); go_simp <;> with_reducible rfl)
          simp only [Act.put, ps1, ps2, ps3]
          refine ty (i := 1) (v := ?vs1101) rfl ?hys1101 ?_
          case hys1101 => (intro w hSw; (try dsimp only at hSw); go_simp <;> with_reducible rfl)
          simp only [Act.put, ps1, ps2, ps3]
          refine ty (i := 2) (v := ?vs1102) rfl ?hys1102 ?_
          case hys1102 => (intro w hSw; (try dsimp only at hSw); go_simp <;> with_reducible rfl)
          simp only [Act.put, ps1, ps2, ps3]
          refine ty (i := 3) (v := ?vs1103) rfl ?hys1103 ?_
          case hys1103 => (intro w hSw; (try dsimp only at hSw); go_simp <;> with_reducible rfl)
          simp only [Act.put, ps1, ps2, ps3]
          refine take_call (i := 4) rfl (by kernel_rfl) (fun Kc hK => ?_)
          go_simp
          (go_at_call 49; refine (lCmp a1 a2 a1 a2 _ Gg.out).mono ?_; rintro e w1 ⟨rfl, bw1⟩)
          refine hK.out _ _ ?_ (fun hHeld => ?_)
          · exact ⟨cell_on bw1 hHeld.1, cell_on bw1 hHeld.2.1, cell_on bw1 hHeld.2.2.1, cell_on bw1 hHeld.2.2.2.1, cell_on bw1 hHeld.2.2.2.2.1, cell_on bw1 hHeld.2.2.2.2.2.1, cell_on bw1 hHeld.2.2.2.2.2.2.1, cell_on bw1 hHeld.2.2.2.2.2.2.2.1, also hHeld.2.2.2.2.2.2.2.2 bw1⟩
          clear hK Kc
          have zbw1 := bw1.size
          replace x_t := x_t.on bw1
          replace x_d := x_d.on bw1
          replace BB := also BB bw1
          replace x_p := x_p.on bw1
          refine ty (i := 5) (v := ?vs1105) rfl ?hys1105 ?_
          case hys1105 => (intro w hSw; (try dsimp only at hSw); go_simp <;> with_reducible rfl)
          simp only [Act.put, ps1, ps2, ps3]
          refine wpAnyH_done (by kernel_rfl) ?_ _
          go_wp2
          go_roundw
          case rel => exact ⟨Or.inr (Or.inl ⟨rfl, rfl⟩), x_t, x_d, BB⟩
          case measure => simp [intOf]
        · skip
          have x_t := xt
          have x_d := xd
          have BB := bel
          clear xt xd bel
          have zt := b6_lt x_t
          have zd := bx_lt x_d
          have EI := idxP1 a1 a2 b1 b2 c1 c2
          obtain ⟨g, hg⟩ : ∃ g, g = cmpP b1 b2 a1 a2 := ⟨_, rfl⟩
          have pg : (0 < g) = True := by rw [hg]; exact eq_true (cmp_yes hab)
          have Gg : Hid _ := hg
          clear hg
          obtain ⟨V, hV, bV, x_p, sV⟩ := bs_2 wr (.int .i64 b1) (.int .i64 b2) 31
          have zbV := bV.size
          replace x_t := x_t.on bV
          replace x_d := x_d.on bV
          replace BB := also BB bV
          go_wp2
          rw [← hV]
          clear hV
          have dd1 : Below V.heap.size V V.drew := (Below.refl _ _).drew
          have zdd1 := dd1.size
          replace x_t := x_t.on dd1
          replace x_d := x_d.on dd1
          replace BB := also BB dd1
          replace x_p := x_p.on dd1
          refine wp_region_held_drew (S := (fun w' => w'.cell? ⟨wr.heap.size, 0, none⟩ = some (.int .i64 b1) ∧ w'.cell? ⟨wr.heap.size, 1, none⟩ = some (.int .i64 b2) ∧ w'.cell? ⟨w.heap.size, 0, none⟩ = some (.int .i64 a1) ∧ w'.cell? ⟨w.heap.size, 1, none⟩ = some (.int .i64 a2) ∧ w'.cell? ⟨w.heap.size, 2, none⟩ = some (.int .i64 b1) ∧ w'.cell? ⟨w.heap.size, 3, none⟩ = some (.int .i64 b2) ∧ w'.cell? ⟨w.heap.size, 4, none⟩ = some (.int .i64 c1) ∧ w'.cell? ⟨w.heap.size, 5, none⟩ = some (.int .i64 c2) ∧ Below w.heap.size w w')) (by kernel_rfl) ?_ (fun hHeld => ?_)
          · exact ⟨x_p.c0, x_p.c1, x_t.c0, x_t.c1, x_t.c2, x_t.c3, x_t.c4, x_t.c5, BB⟩
          refine ty (i := 0) (v := ?vs1110) rfl ?hys1110 ?_
          case hys1110 => (intro w hSw; (try dsimp only at hSw); go_simp <;> with_reducible rfl)
          simp only [Act.put, ps1, ps2, ps3]
          refine ty (i := 1) (v := ?vs1111) rfl ?hys1111 ?_
          case hys1111 => (intro w hSw; (try dsimp only at hSw); go_simp <;> with_reducible rfl)
          simp only [Act.put, ps1, ps2, ps3]
          refine ty (i := 2) (v := ?vs1112) rfl ?hys1112 ?_
          case hys1112 => (intro w hSw; (try dsimp only at hSw); go_simp <;> with_reducible rfl)
          simp only [Act.put, ps1, ps2, ps3]
          refine ty (i := 3) (v := ?vs1113) rfl ?hys1113 ?_
          case hys1113 => (intro w hSw; (try dsimp only at hSw); go_simp <;> with_reducible rfl)
          simp only [Act.put, ps1, ps2, ps3]
          refine take_call (i := 4) rfl (by kernel_rfl) (fun Kc hK => ?_)
          go_simp
          (go_at_call 49; refine (lCmp b1 b2 a1 a2 _ Gg.out).mono ?_; rintro e w1 ⟨rfl, bw1⟩)
          refine hK.out _ _ ?_ (fun hHeld => ?_)
          · exact ⟨cell_on bw1 hHeld.1, cell_on bw1 hHeld.2.1, cell_on bw1 hHeld.2.2.1, cell_on bw1 hHeld.2.2.2.1, cell_on bw1 hHeld.2.2.2.2.1, cell_on bw1 hHeld.2.2.2.2.2.1, cell_on bw1 hHeld.2.2.2.2.2.2.1, cell_on bw1 hHeld.2.2.2.2.2.2.2.1, also hHeld.2.2.2.2.2.2.2.2 bw1⟩
          clear hK Kc
          have zbw1 := bw1.size
          replace x_t := x_t.on bw1
          replace x_d := x_d.on bw1
          replace BB := also BB bw1
          replace x_p := x_p.on bw1
          refine ty (i := 5) (v := ?vs1115) rfl ?hys1115 ?_
          case hys1115 => (intro w hSw; (try dsimp only at hSw); go_simp <;> with_reducible rfl)
          simp only [Act.put, ps1, ps2, ps3]
          refine wpAnyH_done (by kernel_rfl) ?_ _
          go_wp2
          go_roundw
          case rel => exact ⟨Or.inr (Or.inr (Or.inl ⟨rfl, rfl⟩)), x_t, x_d, BB⟩
          case measure => simp [intOf]
        · skip
          have x_t := xt
          have x_d := xd
          have BB := bel
          clear xt xd bel
          have zt := b6_lt x_t
          have zd := bx_lt x_d
          have EI := idxP2 a1 a2 b1 b2 c1 c2
          obtain ⟨g, hg⟩ : ∃ g, g = cmpP c1 c2 b1 b2 := ⟨_, rfl⟩
          have pg : (0 < g) = True := by rw [hg]; exact eq_true (cmp_yes hmc)
          have Gg : Hid _ := hg
          clear hg
          obtain ⟨V, hV, bV, x_p, sV⟩ := bs_2 wr (.int .i64 c1) (.int .i64 c2) 31
          have zbV := bV.size
          replace x_t := x_t.on bV
          replace x_d := x_d.on bV
          replace BB := also BB bV
          go_wp2
          rw [← hV]
          clear hV
          have dd1 : Below V.heap.size V V.drew := (Below.refl _ _).drew
          have zdd1 := dd1.size
          replace x_t := x_t.on dd1
          replace x_d := x_d.on dd1
          replace BB := also BB dd1
          replace x_p := x_p.on dd1
          refine wp_region_held_drew (S := (fun w' => w'.cell? ⟨wr.heap.size, 0, none⟩ = some (.int .i64 c1) ∧ w'.cell? ⟨wr.heap.size, 1, none⟩ = some (.int .i64 c2) ∧ w'.cell? ⟨w.heap.size, 0, none⟩ = some (.int .i64 a1) ∧ w'.cell? ⟨w.heap.size, 1, none⟩ = some (.int .i64 a2) ∧ w'.cell? ⟨w.heap.size, 2, none⟩ = some (.int .i64 b1) ∧ w'.cell? ⟨w.heap.size, 3, none⟩ = some (.int .i64 b2) ∧ w'.cell? ⟨w.heap.size, 4, none⟩ = some (.int .i64 c1) ∧ w'.cell? ⟨w.heap.size, 5, none⟩ = some (.int .i64 c2) ∧ Below w.heap.size w w')) (by kernel_rfl) ?_ (fun hHeld => ?_)
          · exact ⟨x_p.c0, x_p.c1, x_t.c0, x_t.c1, x_t.c2, x_t.c3, x_t.c4, x_t.c5, BB⟩
          refine ty (i := 0) (v := ?vs1120) rfl ?hys1120 ?_
          case hys1120 => (intro w hSw; (try dsimp only at hSw); go_simp <;> with_reducible rfl)
          simp only [Act.put, ps1, ps2, ps3]
          refine ty (i := 1) (v := ?vs1121) rfl ?hys1121 ?_
          case hys1121 => (intro w hSw; (try dsimp only at hSw); go_simp <;> with_reducible rfl)
          simp only [Act.put, ps1, ps2, ps3]
          refine ty (i := 2) (v := ?vs1122) rfl ?hys1122 ?_
          case hys1122 => (intro w hSw; (try dsimp only at hSw); go_simp <;> with_reducible rfl)
          simp only [Act.put, ps1, ps2, ps3]
          refine ty (i := 3) (v := ?vs1123) rfl ?hys1123 ?_
          case hys1123 => (intro w hSw; (try dsimp only at hSw); go_simp <;> with_reducible rfl)
          simp only [Act.put, ps1, ps2, ps3]
          refine take_call (i := 4) rfl (by kernel_rfl) (fun Kc hK => ?_)
          go_simp
          (go_at_call 49; refine (lCmp c1 c2 b1 b2 _ Gg.out).mono ?_; rintro e w1 ⟨rfl, bw1⟩)
          refine hK.out _ _ ?_ (fun hHeld => ?_)
          · exact ⟨cell_on bw1 hHeld.1, cell_on bw1 hHeld.2.1, cell_on bw1 hHeld.2.2.1, cell_on bw1 hHeld.2.2.2.1, cell_on bw1 hHeld.2.2.2.2.1, cell_on bw1 hHeld.2.2.2.2.2.1, cell_on bw1 hHeld.2.2.2.2.2.2.1, cell_on bw1 hHeld.2.2.2.2.2.2.2.1, also hHeld.2.2.2.2.2.2.2.2 bw1⟩
          clear hK Kc
          have zbw1 := bw1.size
          replace x_t := x_t.on bw1
          replace x_d := x_d.on bw1
          replace BB := also BB bw1
          replace x_p := x_p.on bw1
          refine ty (i := 5) (v := ?vs1125) rfl ?hys1125 ?_
          case hys1125 => (intro w hSw; (try dsimp only at hSw); go_simp <;> with_reducible rfl)
          simp only [Act.put, ps1, ps2, ps3]
          refine wpAnyH_done (by kernel_rfl) ?_ _
          go_wp2
          go_roundw
          case rel => exact ⟨Or.inr (Or.inr (Or.inr (⟨rfl, rfl⟩))), x_t, x_d, BB⟩
          case measure => simp [intOf]
        · skip
          have x_t := xt
          have x_d := xd
          have BB := bel
          clear xt xd bel
          have zt := b6_lt x_t
          have zd := bx_lt x_d
          cases hD : ltQ (c1, c2) (d1, d2)
          · skip
            have hl : r = decide ((arP a1 a2 b1 b2 d1 d2).sign = 1) := by rw [hr, hD]; rfl
            obtain ⟨s, hs⟩ : ∃ s, s = (arP a1 a2 b1 b2 d1 d2).sign := ⟨_, rfl⟩
            rw [← hs] at hl
            have HS : Hid _ := hs
            have HL : Hid _ := hl
            clear hs hl hr
            obtain ⟨g, hg⟩ : ∃ g, g = cmpP d1 d2 c1 c2 := ⟨_, rfl⟩
            have pg : (0 < g) = False := by rw [hg]; exact eq_false (cmp_not hD)
            have Gg : Hid _ := hg
            clear hg
            go_wp2
            have dd1 : Below wr.heap.size wr wr.drew := (Below.refl _ _).drew
            have zdd1 := dd1.size
            replace x_t := x_t.on dd1
            replace x_d := x_d.on dd1
            replace BB := also BB dd1
            refine wp_region_held_drew (S := (fun w' => w'.cell? ⟨w.heap.size + 1, 0, none⟩ = some (.int .i64 d1) ∧ w'.cell? ⟨w.heap.size + 1, 1, none⟩ = some (.int .i64 d2) ∧ w'.cell? ⟨w.heap.size, 0, none⟩ = some (.int .i64 a1) ∧ w'.cell? ⟨w.heap.size, 1, none⟩ = some (.int .i64 a2) ∧ w'.cell? ⟨w.heap.size, 2, none⟩ = some (.int .i64 b1) ∧ w'.cell? ⟨w.heap.size, 3, none⟩ = some (.int .i64 b2) ∧ w'.cell? ⟨w.heap.size, 4, none⟩ = some (.int .i64 c1) ∧ w'.cell? ⟨w.heap.size, 5, none⟩ = some (.int .i64 c2) ∧ Below w.heap.size w w')) (by kernel_rfl) ?_ (fun hHeld => ?_)
            · exact ⟨x_d.c0, x_d.c1, x_t.c0, x_t.c1, x_t.c2, x_t.c3, x_t.c4, x_t.c5, BB⟩
            refine ty (i := 0) (v := ?ve1100) rfl ?hye1100 ?_
            case hye1100 => (intro w hSw; (try dsimp only at hSw); go_simp <;> with_reducible rfl)
            simp only [Act.put, ps1, ps2, ps3]
            refine ty (i := 1) (v := ?ve1101) rfl ?hye1101 ?_
            case hye1101 => (intro w hSw; (try dsimp only at hSw); go_simp <;> with_reducible rfl)
            simp only [Act.put, ps1, ps2, ps3]
            refine ty (i := 2) (v := ?ve1102) rfl ?hye1102 ?_
            case hye1102 => (intro w hSw; (try dsimp only at hSw); go_simp <;> with_reducible rfl)
            simp only [Act.put, ps1, ps2, ps3]
            refine ty (i := 3) (v := ?ve1103) rfl ?hye1103 ?_
            case hye1103 => (intro w hSw; (try dsimp only at hSw); go_simp <;> with_reducible rfl)
            simp only [Act.put, ps1, ps2, ps3]
            refine take_call (i := 4) rfl (by kernel_rfl) (fun Kc hK => ?_)
            go_simp
            (go_at_call 49; refine (lCmp d1 d2 c1 c2 _ Gg.out).mono ?_; rintro e w1 ⟨rfl, bw1⟩)
            refine hK.out _ _ ?_ (fun hHeld => ?_)
            · exact ⟨cell_on bw1 hHeld.1, cell_on bw1 hHeld.2.1, cell_on bw1 hHeld.2.2.1, cell_on bw1 hHeld.2.2.2.1, cell_on bw1 hHeld.2.2.2.2.1, cell_on bw1 hHeld.2.2.2.2.2.1, cell_on bw1 hHeld.2.2.2.2.2.2.1, cell_on bw1 hHeld.2.2.2.2.2.2.2.1, also hHeld.2.2.2.2.2.2.2.2 bw1⟩
            clear hK Kc
            have zbw1 := bw1.size
            replace x_t := x_t.on bw1
            replace x_d := x_d.on bw1
            replace BB := also BB bw1
            refine ty (i := 5) (v := ?ve1105) rfl ?hye1105 ?_
            case hye1105 => (intro w hSw; (try dsimp only at hSw); go_simp <;> with_reducible rfl)
            simp only [Act.put, ps1, ps2, ps3]
            refine wpAnyH_done (by kernel_rfl) ?_ _
            have ⟨x_t_0, x_t_1, x_t_2, x_t_3, x_t_4, x_t_5, x_t_6, x_t_7, x_t_8, x_t_9, x_t_10, x_t_11⟩ := x_t
            have ⟨x_d_0, x_d_1, x_d_2, x_d_3⟩ := x_d
            go_wp2_with (go_at_call 16; fail)
            have B2 : Below w.heap.size w ((w1.setCell ⟨w.heap.size, 4, none⟩ (.int .i64 d1)).setCell ⟨w.heap.size, 5, none⟩ (.int .i64 d2)) := (BB.setCell (Nat.le_refl _) _).setCell (Nat.le_refl _) _
            refine (pOrient a1 a2 b1 b2 d1 d2 _ HS.out).mono ?_
            rintro e w2 ⟨rfl, b2⟩
            go_wp2
            go_ret
            exact ⟨by rw [HL.out]; rfl, also B2 b2⟩
          · skip
            obtain rfl : r = false := by rw [hr, hD]; rfl
            clear hr
            obtain ⟨g, hg⟩ : ∃ g, g = cmpP d1 d2 c1 c2 := ⟨_, rfl⟩
            have pg : (0 < g) = True := by rw [hg]; exact eq_true (cmp_yes hD)
            have Gg : Hid _ := hg
            clear hg
            go_wp2
            have dd1 : Below wr.heap.size wr wr.drew := (Below.refl _ _).drew
            have zdd1 := dd1.size
            replace x_t := x_t.on dd1
            replace x_d := x_d.on dd1
            replace BB := also BB dd1
            refine wp_region_held_drew (S := (fun w' => w'.cell? ⟨w.heap.size + 1, 0, none⟩ = some (.int .i64 d1) ∧ w'.cell? ⟨w.heap.size + 1, 1, none⟩ = some (.int .i64 d2) ∧ w'.cell? ⟨w.heap.size, 0, none⟩ = some (.int .i64 a1) ∧ w'.cell? ⟨w.heap.size, 1, none⟩ = some (.int .i64 a2) ∧ w'.cell? ⟨w.heap.size, 2, none⟩ = some (.int .i64 b1) ∧ w'.cell? ⟨w.heap.size, 3, none⟩ = some (.int .i64 b2) ∧ w'.cell? ⟨w.heap.size, 4, none⟩ = some (.int .i64 c1) ∧ w'.cell? ⟨w.heap.size, 5, none⟩ = some (.int .i64 c2) ∧ Below w.heap.size w w')) (by kernel_rfl) ?_ (fun hHeld => ?_)
            · exact ⟨x_d.c0, x_d.c1, x_t.c0, x_t.c1, x_t.c2, x_t.c3, x_t.c4, x_t.c5, BB⟩
            refine ty (i := 0) (v := ?ve1110) rfl ?hye1110 ?_
            case hye1110 => (intro w hSw; (try dsimp only at hSw); go_simp <;> with_reducible rfl)
            simp only [Act.put, ps1, ps2, ps3]
            refine ty (i := 1) (v := ?ve1111) rfl ?hye1111 ?_
            case hye1111 => (intro w hSw; (try dsimp only at hSw); go_simp <;> with_reducible rfl)
            simp only [Act.put, ps1, ps2, ps3]
            refine ty (i := 2) (v := ?ve1112) rfl ?hye1112 ?_
            case hye1112 => (intro w hSw; (try dsimp only at hSw); go_simp <;> with_reducible rfl)
            simp only [Act.put, ps1, ps2, ps3]
            refine ty (i := 3) (v := ?ve1113) rfl ?hye1113 ?_
            case hye1113 => (intro w hSw; (try dsimp only at hSw); go_simp <;> with_reducible rfl)
            simp only [Act.put, ps1, ps2, ps3]
            refine take_call (i := 4) rfl (by kernel_rfl) (fun Kc hK => ?_)
            go_simp
            (go_at_call 49; refine (lCmp d1 d2 c1 c2 _ Gg.out).mono ?_; rintro e w1 ⟨rfl, bw1⟩)
            refine hK.out _ _ ?_ (fun hHeld => ?_)
            · exact ⟨cell_on bw1 hHeld.1, cell_on bw1 hHeld.2.1, cell_on bw1 hHeld.2.2.1, cell_on bw1 hHeld.2.2.2.1, cell_on bw1 hHeld.2.2.2.2.1, cell_on bw1 hHeld.2.2.2.2.2.1, cell_on bw1 hHeld.2.2.2.2.2.2.1, cell_on bw1 hHeld.2.2.2.2.2.2.2.1, also hHeld.2.2.2.2.2.2.2.2 bw1⟩
            clear hK Kc
            have zbw1 := bw1.size
            replace x_t := x_t.on bw1
            replace x_d := x_d.on bw1
            replace BB := also BB bw1
            refine ty (i := 5) (v := ?ve1115) rfl ?hye1115 ?_
            case hye1115 => (intro w hSw; (try dsimp only at hSw); go_simp <;> with_reducible rfl)
            simp only [Act.put, ps1, ps2, ps3]
            refine wpAnyH_done (by kernel_rfl) ?_ _
            go_wp2
            go_ret
            exact ⟨rfl, BB⟩
end Go.Proofs.Ytkmgndaholglhaa
