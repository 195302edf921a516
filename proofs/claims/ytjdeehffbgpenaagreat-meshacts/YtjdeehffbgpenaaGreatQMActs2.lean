/-
  Joined texts of this law, part 2:
  What zelligeref11's Across answers of an edge that begins at corner 0.
-/
import Derived.Test.YtjdeehffbgpenaaGreatQMActs1
namespace Go.Proofs.YtjdeehffbgpenaaGreat
open Go.RowKit
set_option linter.unusedVariables false


set_option maxRecDepth 100000 in
set_option maxHeartbeats 4000000 in
theorem across_0 (p : Nat) (S : Ms) (f i : Int) (w : World) (h : MeLook p S w) (hC : S.C.length ≤ 1000) (hco : ∀ c ∈ S.C, offB c.t) (idx : Nat) (c0 : Ce) (hi : fAt Ce.no f S.C 0 = (idx : Int)) (hx : S.C[idx]? = some c0) (hcn : nx (corner i) = 0) :
    Calls Tryz.prog 25 #[ptR p, .int .i64 f, .int .i64 i] w (AcrPost c0.t 0 (acr c0.t 0 S.C) w) := by
  have HL : Hid _ := h
  have HI : Hid ((idx : Int) = _) := hi.symm
  have HX0 : Hid _ := hx
  have hct := hco c0 (List.mem_of_getElem? hx)
  have hlt0 := (List.getElem?_eq_some_iff.1 hx).1
  have hd : decide ((idx : Int) < 0) = false := decide_eq_false (by omega)
  obtain ⟨⟨hm1, hm2⟩, hm3⟩ := corner_at i
  obtain ⟨m, hm⟩ : ∃ m, m = Int.tmod i 3 := ⟨_, rfl⟩
  rw [← hm] at hm1 hm2 hm3
  have hm' := hm.symm
  obtain ⟨cn, hcn'⟩ : ∃ cn, cn = corner i := ⟨_, rfl⟩
  rw [← hcn'] at hcn hm3
  have hc3 : cn < 3 := by rw [hcn']; unfold corner; omega
  have hm4 : Int.tmod ((cn : Int) + 1) 3 = 0 := by rw [Int.tmod_eq_emod_of_nonneg (by omega)]; unfold nx at hcn; omega
  have hm5 : ((cn : Int) + 1) % 3 = 0 := by unfold nx at hcn; omega
  have hm6 : (m + 3) % 3 = (cn : Int) := by rw [← Int.tmod_eq_emod_of_nonneg (by omega)]; exact hm3
  clear h hi hx hm hcn hcn'
  obtain ⟨W0, hW0⟩ : ∃ W, W = w.alloc (.cells ([.int .i64 0, .int .i64 0] : List Value).toArray 48) := ⟨_, rfl⟩
  have B0 : Below w.heap.size w W0 := by rw [hW0]; exact (Below.refl _ _).alloc (Nat.le_refl _) _
  have z0 : W0.heap.size = w.heap.size + 1 := by rw [hW0]; simp
  have R0 : Row W0 w.heap.size [.int .i64 0, .int .i64 0] := by rw [hW0]; exact Row.new w _ _
  have hW0' : w.alloc (.cells #[.int .i64 0, .int .i64 0] 48) = W0 := hW0.symm
  clear hW0
  go_enter Tryz.func25, Tryz.ntmps25
  go_wp2_with (go_at_call 19; fail)
  refine (mrFaceAt p S f W0 (HL.out.below B0) hC HI.out).mono ?_
  rintro e w1 ⟨rfl, b1⟩
  have L1 := (HL.out.below B0).below b1
  have R1 := R0.below b1 (by omega)
  have z1 := b1.size
  obtain ⟨g1, cp1, x1, x2, x3, hrow1, hc1, hbl1, H1⟩ := L1.face HX0.out
  have g1_ := H1 1 _ rfl
  have g2_ := H1 2 _ rfl
  have g3_ := H1 3 _ rfl
  have g4_ := H1 4 _ rfl
  have g5_ := H1 5 _ rfl
  have g6_ := H1 6 _ rfl
  have g7_ := H1 7 _ rfl
  have g8_ := H1 8 _ rfl
  have g9_ := H1 9 _ rfl
  have m1 := hrow1.cell 4 _ rfl
  obtain ⟨nn, hnn⟩ : ∃ nn, nn = S.C.length := ⟨_, rfl⟩
  have HNN : Hid _ := hnn
  rw [← hnn] at m1 hc1 hlt0 hC
  obtain ⟨t, ht⟩ : ∃ t, t = c0.t := ⟨_, rfl⟩
  have hW0'' := hW0'
  clear hW0' hW0''
  obtain ⟨W2, hW2⟩ : ∃ W, W = w1.alloc (.cells (trC c0.t).toArray 51) := ⟨_, rfl⟩
  have B2 : Below w1.heap.size w1 W2 := by rw [hW2]; exact (Below.refl _ _).alloc (Nat.le_refl _) _
  have z2 : W2.heap.size = w1.heap.size + 1 := by rw [hW2]; simp
  have T2 : Row W2 w1.heap.size (trC c0.t) := by rw [hW2]; exact Row.new w1 _ _
  have R2 := R1.below B2 (by omega)
  have L2 : Hid _ := L1.below B2
  have hW2' : w1.alloc (.cells #[.int .i64 c0.t.v0, .int .i64 c0.t.v1, .int .i64 c0.t.v2, .int .i64 c0.t.x0, .int .i64 c0.t.y0, .int .i64 c0.t.x1, .int .i64 c0.t.y1, .int .i64 c0.t.x2, .int .i64 c0.t.y2] 51) = W2 := hW2.symm
  have BW : Below w.heap.size w W2 := (B0.trans (b1.mono (by omega))).trans (B2.mono (by omega))
  clear hW2 hrow1 H1 L1 R1 R0 hnn ht
  go_wp2
  clear hW2' g1_ g2_ g3_ g4_ g5_ g6_ g7_ g8_ g9_ m1
  go_loopw [13] (fun q wr => ∃ k : Nat, k ≤ S.C.length ∧ q = .int .i64 (k : Int) ∧ acr c0.t 0 S.C = acr c0.t 0 (S.C.drop k) ∧ Below W2.heap.size W2 wr) (fun q _ => S.C.length - (RowKit.intOf q).toNat)
  case atStart => exact ⟨0, by omega, rfl, by simp, Below.refl _ _⟩
  case round =>
    obtain ⟨k, hk, rfl, hac, bel⟩ := hrel
    have zr := bel.size
    by_cases hlt : k < S.C.length
    · obtain ⟨c, hx⟩ : ∃ c, S.C[k]? = some c := ⟨S.C[k], List.getElem?_eq_getElem hlt⟩
      have hcm := hco c (List.mem_of_getElem? hx)
      have HAC : Hid _ := hac
      have HX : Hid _ := hx
      obtain ⟨y1, y2, ya, yca, yb, ycb, hrow⟩ := (L2.out.below bel).row
      have m2 := hrow.cell 4 _ rfl
      rw [← HNN.out] at m2 hlt
      clear hac hrow hx hk
      go_wp2
      go_loopw [14] (fun q wr' => ∃ j : Nat, j ≤ 3 ∧ q = .int .i64 (j : Int) ∧ (∀ j', j' < j → opp c0.t 0 c.t j' = false) ∧ Below W2.heap.size W2 wr') (fun q _ => 3 - (RowKit.intOf q).toNat)
      case atStart => exact ⟨0, by omega, rfl, (fun j' h => by omega), bel⟩
      case round =>
        obtain ⟨j, hj, rfl, hno, bel2⟩ := hrel
        have zr2 := bel2.size
        have HNo : Hid _ := hno
        clear m2
        by_cases hj3 : j < 3
        · obtain ⟨g8, cp8, x4, x5, x6, hrow8w, hc8, hbw8, H8w⟩ := HL.out.face HX.out
          have BR : Below w.heap.size w wr := BW.trans (bel2.mono (by omega))
          have zBR := BR.size
          have hpw := hrow8w.lt
          have H8 : ∀ j u, (ceC c)[j]? = some u → wr.cell? ⟨g8, k * 10 + j, none⟩ = some u := fun j u hj => (BR.cell (p := ⟨g8, k * 10 + j, none⟩) hbw8).trans (H8w j u hj)
          have hrow8 := hrow8w.below BR hpw
          have hbl8 : g8 < wr.heap.size := by omega
          clear H8w hrow8w
          have k0 : wr.cell? ⟨g8, k * 10, none⟩ = some (.int .i64 c.no) := H8 0 _ rfl
          have k1 := H8 1 _ rfl
          have k2 := H8 2 _ rfl
          have k3 := H8 3 _ rfl
          have k4 := H8 4 _ rfl
          have k5 := H8 5 _ rfl
          have k6 := H8 6 _ rfl
          have k7 := H8 7 _ rfl
          have k8 := H8 8 _ rfl
          have k9 := H8 9 _ rfl
          have hp8 := hrow8.lt
          have m8 := hrow8.cell 4 _ rfl
          rw [← HNN.out] at m8 hc8
          have T8 := T2.below bel2 (by omega)
          have R8 := R2.below bel2 (by omega)
          obtain ⟨W3, hW3⟩ : ∃ W, W = wr.alloc (.cells (trC c.t).toArray 51) := ⟨_, rfl⟩
          have B3 : Below wr.heap.size wr W3 := by rw [hW3]; exact (Below.refl _ _).alloc (Nat.le_refl _) _
          have z3 : W3.heap.size = wr.heap.size + 1 := by rw [hW3]; simp
          have U3 : Row W3 wr.heap.size (trC c.t) := by rw [hW3]; exact Row.new wr _ _
          have T3 := T8.below B3 (by omega)
          have R3 := R8.below B3 (by omega)
          have hW3' : wr.alloc (.cells #[.int .i64 c.t.v0, .int .i64 c.t.v1, .int .i64 c.t.v2, .int .i64 c.t.x0, .int .i64 c.t.y0, .int .i64 c.t.x1, .int .i64 c.t.y1, .int .i64 c.t.x2, .int .i64 c.t.y2] 51) = W3 := hW3.symm
          have t3_0 := T3.cell 0 _ rfl
          have u3_0 := U3.cell 0 _ rfl
          have t3_1 := T3.cell 1 _ rfl
          have u3_1 := U3.cell 1 _ rfl
          have t3_2 := T3.cell 2 _ rfl
          have u3_2 := U3.cell 2 _ rfl
          have t3_3 := T3.cell 3 _ rfl
          have u3_3 := U3.cell 3 _ rfl
          have t3_4 := T3.cell 4 _ rfl
          have u3_4 := U3.cell 4 _ rfl
          have t3_5 := T3.cell 5 _ rfl
          have u3_5 := U3.cell 5 _ rfl
          have t3_6 := T3.cell 6 _ rfl
          have u3_6 := U3.cell 6 _ rfl
          have t3_7 := T3.cell 7 _ rfl
          have u3_7 := U3.cell 7 _ rfl
          have t3_8 := T3.cell 8 _ rfl
          have u3_8 := U3.cell 8 _ rfl
          have m3 := (B3.cell (p := ⟨p, 4, none⟩) hp8).trans m8
          have k03 := (B3.cell (p := ⟨g8, k * 10, none⟩) hbl8).trans k0
          clear hW3 H8 hrow8 hno T8 R8
          rcases (by omega : j = 0 ∨ j = 1 ∨ j = 2) with rfl | rfl | rfl
          · obtain ⟨r, hr⟩ : ∃ r, r = opp c0.t 0 c.t 0 := ⟨_, rfl⟩
            have HJ : Hid _ := hr
            clear hr
            go_wp2_with (go_at_call 55; fail)
            refine (twin_00r c0.t c.t W3 hct hcm HJ.out).mono ?_
            rintro e w9 ⟨rfl, b9⟩
            have z9 := b9.size
            have BB : Below W2.heap.size W2 w9 := (bel2.trans (B3.mono (by omega))).trans (b9.mono (by omega))
            have T9 := T3.below b9 (by omega)
            have U9 := U3.below b9 (by omega)
            have R9 := R3.below b9 (by omega)
            have hp9 : p < W3.heap.size := by omega
            have hg9 : g8 < W3.heap.size := by omega
            have m9 := (b9.cell (p := ⟨p, 4, none⟩) hp9).trans m3
            have k09 := (b9.cell (p := ⟨g8, k * 10, none⟩) hg9).trans k03
            clear t3_0 u3_0 t3_1 u3_1 t3_2 u3_2 t3_3 u3_3 t3_4 u3_4 t3_5 u3_5 t3_6 u3_6 t3_7 u3_7 t3_8 u3_8 m3 k03 k0 k1 k2 k3 k4 k5 k6 k7 k8 k9 m8 hW3' T3 U3 R3
            cases r with
            | true =>
              have HF : Hid (acr c0.t 0 S.C = some (c, 0)) := by unfold Hid; rw [HAC.out]; exact acr_found HX.out (by decide) HNo.out HJ.out.symm
              have t9x := T9.cell 5 _ rfl
              have t9y := T9.cell 6 _ rfl
              obtain ⟨W5, hW5⟩ : ∃ W, W = w9.alloc (.cells ([.int .i64 c0.t.x1, .int .i64 c0.t.y1] : List Value).toArray 48) := ⟨_, rfl⟩
              have B5 : Below w9.heap.size w9 W5 := by rw [hW5]; exact (Below.refl _ _).alloc (Nat.le_refl _) _
              have z5 : W5.heap.size = w9.heap.size + 1 := by rw [hW5]; simp
              have O5 : Row W5 w9.heap.size [.int .i64 c0.t.x1, .int .i64 c0.t.y1] := by rw [hW5]; exact Row.new w9 _ _
              have hW5' : w9.alloc (.cells #[.int .i64 c0.t.x1, .int .i64 c0.t.y1] 48) = W5 := hW5.symm
              have U5 := U9.below B5 (by omega)
              have R5 := R9.below B5 (by omega)
              have ox := O5.cell 0 _ rfl
              have oy := O5.cell 1 _ rfl
              have ux := U5.cell 3 _ rfl
              have uy := U5.cell 4 _ rfl
              have m5 := (B5.cell (p := ⟨p, 4, none⟩) (Nat.lt_of_lt_of_le hp9 z9)).trans m9
              have k05 := (B5.cell (p := ⟨g8, k * 10, none⟩) (Nat.lt_of_lt_of_le hg9 z9)).trans k09
              have wj : (IntKind.i64.wrap 2).tmod 3 = 2 := by decide
              have r0 := R5.cell 0 _ rfl
              have r1 := R5.cell 1 _ rfl
              have f0 := R5.free 0 (by simp)
              have f1 := R5.free 1 (by simp)
              have qct := hct.all
              have qcm := hcm.all
              obtain ⟨dx, gdx⟩ : ∃ dx, dx = c0.t.x1 - c.t.x0 := ⟨_, rfl⟩
              have vdx : IntKind.i64.wrap (c0.t.x1 - c.t.x0) = dx := by rw [wrap_i64, gdx]; unfold wrap64; omega
              have Gdx : Hid _ := gdx
              clear gdx
              obtain ⟨dy, gdy⟩ : ∃ dy, dy = c0.t.y1 - c.t.y0 := ⟨_, rfl⟩
              have vdy : IntKind.i64.wrap (c0.t.y1 - c.t.y0) = dy := by rw [wrap_i64, gdy]; unfold wrap64; omega
              have Gdy : Hid _ := gdy
              clear gdy
              clear hW5 qct qcm 
              go_wp2
              refine wp_region_held_drew (S := fun w' => w'.cell? ⟨p, 4, none⟩ = some (.slice (some ⟨g8, 0, none⟩) nn cp8) ∧ w'.cell? ⟨g8, k * 10, none⟩ = some (.int .i64 c.no) ∧ w'.cell? ⟨w9.heap.size, 0, none⟩ = some (.int .i64 c0.t.x1) ∧ w'.cell? ⟨w9.heap.size, 1, none⟩ = some (.int .i64 c0.t.y1) ∧ w'.cell? ⟨wr.heap.size, 3, none⟩ = some (.int .i64 c.t.x0) ∧ w'.cell? ⟨wr.heap.size, 4, none⟩ = some (.int .i64 c.t.y0)) (by kernel_rfl) ?_ (fun hHeld => ?_)
              · exact ⟨m5, k05, ox, oy, ux, uy⟩
              refine ty (i := 0) (v := ?vac000) rfl ?hyac000 ?_
              case hyac000 => (intro w hSw; (try dsimp only at hSw); go_simp <;> with_reducible rfl)
              simp only [Act.put, ps1, ps2, ps3]
              refine ty (i := 1) (v := ?vac001) rfl ?hyac001 ?_
              case hyac001 => (intro w hSw; (try dsimp only at hSw); go_simp <;> with_reducible rfl)
              simp only [Act.put, ps1, ps2, ps3]
              refine ty (i := 2) (v := ?vac002) rfl ?hyac002 ?_
              case hyac002 => (intro w hSw; (try dsimp only at hSw); go_simp <;> with_reducible rfl)
              simp only [Act.put, ps1, ps2, ps3]
              refine ty (i := 3) (v := ?vac003) rfl ?hyac003 ?_
              case hyac003 => (intro w hSw; (try dsimp only at hSw); go_simp <;> with_reducible rfl)
              simp only [Act.put, ps1, ps2, ps3]
              refine ty (i := 4) (v := ?vac004) rfl ?hyac004 ?_
              case hyac004 => (intro w hSw; (try dsimp only at hSw); go_simp <;> with_reducible rfl)
              simp only [Act.put, ps1, ps2, ps3]
              refine ty (i := 5) (v := ?vac005) rfl ?hyac005 ?_
              case hyac005 => (intro w hSw; (try dsimp only at hSw); go_simp <;> with_reducible rfl)
              simp only [Act.put, ps1, ps2, ps3]
              refine ty (i := 6) (v := ?vac006) rfl ?hyac006 ?_
              case hyac006 => (intro w hSw; (try dsimp only at hSw); go_simp <;> with_reducible rfl)
              simp only [Act.put, ps1, ps2, ps3]
              refine ty (i := 7) (v := ?vac007) rfl ?hyac007 ?_
              case hyac007 => (intro w hSw; (try dsimp only at hSw); go_simp <;> with_reducible rfl)
              simp only [Act.put, ps1, ps2, ps3]
              refine ty (i := 8) (v := ?vac008) rfl ?hyac008 ?_
              case hyac008 => (intro w hSw; (try dsimp only at hSw); go_simp <;> with_reducible rfl)
              simp only [Act.put, ps1, ps2, ps3]
              refine ty (i := 9) (v := ?vac009) rfl ?hyac009 ?_
              case hyac009 => (intro w hSw; (try dsimp only at hSw); go_simp <;> with_reducible rfl)
              simp only [Act.put, ps1, ps2, ps3]
              refine ty (i := 10) (v := ?vac0010) rfl ?hyac0010 ?_
              case hyac0010 => (intro w hSw; (try dsimp only at hSw); go_simp <;> with_reducible rfl)
              simp only [Act.put, ps1, ps2, ps3]
              refine ty (i := 11) (v := ?vac0011) rfl ?hyac0011 ?_
              case hyac0011 => (intro w hSw; (try dsimp only at hSw); go_simp <;> with_reducible rfl)
              simp only [Act.put, ps1, ps2, ps3]
              refine ty (i := 12) (v := ?vac0012) rfl ?hyac0012 ?_
              case hyac0012 => (intro w hSw; (try dsimp only at hSw); go_simp <;> with_reducible rfl)
              simp only [Act.put, ps1, ps2, ps3]
              refine ty (i := 13) (v := ?vac0013) rfl ?hyac0013 ?_
              case hyac0013 => (intro w hSw; (try dsimp only at hSw); go_simp <;> with_reducible rfl)
              simp only [Act.put, ps1, ps2, ps3]
              refine ty (i := 14) (v := ?vac0014) rfl ?hyac0014 ?_
              case hyac0014 => (intro w hSw; (try dsimp only at hSw); go_simp <;> with_reducible rfl)
              simp only [Act.put, ps1, ps2, ps3]
              refine ty (i := 15) (v := ?vac0015) rfl ?hyac0015 ?_
              case hyac0015 => (intro w hSw; (try dsimp only at hSw); go_simp <;> with_reducible rfl)
              simp only [Act.put, ps1, ps2, ps3]
              refine ty (i := 16) (v := ?vac0016) rfl ?hyac0016 ?_
              case hyac0016 => (intro w hSw; (try dsimp only at hSw); go_simp <;> with_reducible rfl)
              simp only [Act.put, ps1, ps2, ps3]
              refine ty (i := 17) (v := ?vac0017) rfl ?hyac0017 ?_
              case hyac0017 => (intro w hSw; (try dsimp only at hSw); go_simp <;> with_reducible rfl)
              simp only [Act.put, ps1, ps2, ps3]
              refine ty (i := 18) (v := ?vac0018) rfl ?hyac0018 ?_
              case hyac0018 => (intro w hSw; (try dsimp only at hSw); go_simp <;> with_reducible rfl)
              simp only [Act.put, ps1, ps2, ps3]
              refine ty (i := 19) (v := ?vac0019) rfl ?hyac0019 ?_
              case hyac0019 => (intro w hSw; (try dsimp only at hSw); go_simp <;> with_reducible rfl)
              simp only [Act.put, ps1, ps2, ps3]
              refine ty (i := 20) (v := ?vac0020) rfl ?hyac0020 ?_
              case hyac0020 => (intro w hSw; (try dsimp only at hSw); go_simp <;> with_reducible rfl)
              simp only [Act.put, ps1, ps2, ps3]
              refine ty (i := 21) (v := ?vac0021) rfl ?hyac0021 ?_
              case hyac0021 => (intro w hSw; (try dsimp only at hSw); go_simp <;> with_reducible rfl)
              simp only [Act.put, ps1, ps2, ps3]
              refine ty (i := 22) (v := ?vac0022) rfl ?hyac0022 ?_
              case hyac0022 => (intro w hSw; (try dsimp only at hSw); go_simp <;> with_reducible rfl)
              simp only [Act.put, ps1, ps2, ps3]
              refine ty (i := 23) (v := ?vac0023) rfl ?hyac0023 ?_
              case hyac0023 => (intro w hSw; (try dsimp only at hSw); go_simp <;> with_reducible rfl)
              simp only [Act.put, ps1, ps2, ps3]
              refine ty (i := 24) (v := ?vac0024) rfl ?hyac0024 ?_
              case hyac0024 => (intro w hSw; (try dsimp only at hSw); go_simp <;> with_reducible rfl)
              simp only [Act.put, ps1, ps2, ps3]
              refine ty (i := 25) (v := ?vac0025) rfl ?hyac0025 ?_
              case hyac0025 => (intro w hSw; (try dsimp only at hSw); go_simp <;> with_reducible rfl)
              simp only [Act.put, ps1, ps2, ps3]
              refine ty (i := 26) (v := ?vac0026) rfl ?hyac0026 ?_
              case hyac0026 => (intro w hSw; (try dsimp only at hSw); go_simp <;> with_reducible rfl)
              simp only [Act.put, ps1, ps2, ps3]
              refine ty (i := 27) (v := ?vac0027) rfl ?hyac0027 ?_
              case hyac0027 => (intro w hSw; (try dsimp only at hSw); go_simp <;> with_reducible rfl)
              simp only [Act.put, ps1, ps2, ps3]
              refine ty (i := 28) (v := ?vac0028) rfl ?hyac0028 ?_
              case hyac0028 => (intro w hSw; (try dsimp only at hSw); go_simp <;> with_reducible rfl)
              simp only [Act.put, ps1, ps2, ps3]
              refine ty (i := 29) (v := ?vac0029) rfl ?hyac0029 ?_
              case hyac0029 => (intro w hSw; (try dsimp only at hSw); go_simp <;> with_reducible rfl)
              simp only [Act.put, ps1, ps2, ps3]
              refine take_call (i := 30) rfl (by kernel_rfl) (fun Kc hK => ?_)
              go_simp
              refine hK.out _ _ ?_ (fun hHeld => ?_)
              · exact ⟨(World.cell?_setCell_other _ _ _ _ (by intro q; simp only [Addr.mk.injEq] at q; omega)).trans ((World.cell?_setCell_other _ _ _ _ (by intro q; simp only [Addr.mk.injEq] at q; omega)).trans m5), (World.cell?_setCell_other _ _ _ _ (by intro q; simp only [Addr.mk.injEq] at q; omega)).trans ((World.cell?_setCell_other _ _ _ _ (by intro q; simp only [Addr.mk.injEq] at q; omega)).trans k05), (World.cell?_setCell_other _ _ _ _ (by intro q; simp only [Addr.mk.injEq] at q; omega)).trans ((World.cell?_setCell_other _ _ _ _ (by intro q; simp only [Addr.mk.injEq] at q; omega)).trans ox), (World.cell?_setCell_other _ _ _ _ (by intro q; simp only [Addr.mk.injEq] at q; omega)).trans ((World.cell?_setCell_other _ _ _ _ (by intro q; simp only [Addr.mk.injEq] at q; omega)).trans oy), (World.cell?_setCell_other _ _ _ _ (by intro q; simp only [Addr.mk.injEq] at q; omega)).trans ((World.cell?_setCell_other _ _ _ _ (by intro q; simp only [Addr.mk.injEq] at q; omega)).trans ux), (World.cell?_setCell_other _ _ _ _ (by intro q; simp only [Addr.mk.injEq] at q; omega)).trans ((World.cell?_setCell_other _ _ _ _ (by intro q; simp only [Addr.mk.injEq] at q; omega)).trans uy)⟩
              clear hK Kc
              refine ty (i := 31) (v := ?vac0031) rfl ?hyac0031 ?_
              case hyac0031 => (intro w hSw; (try dsimp only at hSw); go_simp <;> with_reducible rfl)
              simp only [Act.put, ps1, ps2, ps3]
              refine wpAnyH_done (by kernel_rfl) ?_ _
              have rC := (R5.set 0 (.int .i64 dx) (by simp)).set 1 (.int .i64 dy) (by simp)
              have rc0 := rC.cell 0 _ rfl
              have rc1 := rC.cell 1 _ rfl
              go_wp2
              have BF : Below w.heap.size w W5 := (BW.trans (BB.mono (by omega))).trans (B5.mono (by omega))
              refine bodyPost_ret (v := .tuple #[.int .i64 c.no, .int .i64 2, .agg #[.int .i64 dx, .int .i64 dy], .bool true]) (by simp [results, Tryz.results25, go_sem, *]) rfl ⟨?_, below_put2 BF.drew (by omega) _ _⟩
              rw [HF.out, Gdx.out, Gdy.out]
              rfl
            | false =>
              go_wp2
              go_roundw
              case rel => exact ⟨1, by omega, by simp, (fun j' h' => if e : j' = 0 then by rw [e]; exact HJ.out.symm else HNo.out j' (by omega)), BB⟩
              case measure => simp [RowKit.intOf]
          · obtain ⟨r, hr⟩ : ∃ r, r = opp c0.t 0 c.t 1 := ⟨_, rfl⟩
            have HJ : Hid _ := hr
            clear hr
            go_wp2_with (go_at_call 55; fail)
            refine (twin_01r c0.t c.t W3 hct hcm HJ.out).mono ?_
            rintro e w9 ⟨rfl, b9⟩
            have z9 := b9.size
            have BB : Below W2.heap.size W2 w9 := (bel2.trans (B3.mono (by omega))).trans (b9.mono (by omega))
            have T9 := T3.below b9 (by omega)
            have U9 := U3.below b9 (by omega)
            have R9 := R3.below b9 (by omega)
            have hp9 : p < W3.heap.size := by omega
            have hg9 : g8 < W3.heap.size := by omega
            have m9 := (b9.cell (p := ⟨p, 4, none⟩) hp9).trans m3
            have k09 := (b9.cell (p := ⟨g8, k * 10, none⟩) hg9).trans k03
            clear t3_0 u3_0 t3_1 u3_1 t3_2 u3_2 t3_3 u3_3 t3_4 u3_4 t3_5 u3_5 t3_6 u3_6 t3_7 u3_7 t3_8 u3_8 m3 k03 k0 k1 k2 k3 k4 k5 k6 k7 k8 k9 m8 hW3' T3 U3 R3
            cases r with
            | true =>
              have HF : Hid (acr c0.t 0 S.C = some (c, 1)) := by unfold Hid; rw [HAC.out]; exact acr_found HX.out (by decide) HNo.out HJ.out.symm
              have t9x := T9.cell 5 _ rfl
              have t9y := T9.cell 6 _ rfl
              obtain ⟨W5, hW5⟩ : ∃ W, W = w9.alloc (.cells ([.int .i64 c0.t.x1, .int .i64 c0.t.y1] : List Value).toArray 48) := ⟨_, rfl⟩
              have B5 : Below w9.heap.size w9 W5 := by rw [hW5]; exact (Below.refl _ _).alloc (Nat.le_refl _) _
              have z5 : W5.heap.size = w9.heap.size + 1 := by rw [hW5]; simp
              have O5 : Row W5 w9.heap.size [.int .i64 c0.t.x1, .int .i64 c0.t.y1] := by rw [hW5]; exact Row.new w9 _ _
              have hW5' : w9.alloc (.cells #[.int .i64 c0.t.x1, .int .i64 c0.t.y1] 48) = W5 := hW5.symm
              have U5 := U9.below B5 (by omega)
              have R5 := R9.below B5 (by omega)
              have ox := O5.cell 0 _ rfl
              have oy := O5.cell 1 _ rfl
              have ux := U5.cell 5 _ rfl
              have uy := U5.cell 6 _ rfl
              have m5 := (B5.cell (p := ⟨p, 4, none⟩) (Nat.lt_of_lt_of_le hp9 z9)).trans m9
              have k05 := (B5.cell (p := ⟨g8, k * 10, none⟩) (Nat.lt_of_lt_of_le hg9 z9)).trans k09
              have wj : (IntKind.i64.wrap 3).tmod 3 = 0 := by decide
              have r0 := R5.cell 0 _ rfl
              have r1 := R5.cell 1 _ rfl
              have f0 := R5.free 0 (by simp)
              have f1 := R5.free 1 (by simp)
              have qct := hct.all
              have qcm := hcm.all
              obtain ⟨dx, gdx⟩ : ∃ dx, dx = c0.t.x1 - c.t.x1 := ⟨_, rfl⟩
              have vdx : IntKind.i64.wrap (c0.t.x1 - c.t.x1) = dx := by rw [wrap_i64, gdx]; unfold wrap64; omega
              have Gdx : Hid _ := gdx
              clear gdx
              obtain ⟨dy, gdy⟩ : ∃ dy, dy = c0.t.y1 - c.t.y1 := ⟨_, rfl⟩
              have vdy : IntKind.i64.wrap (c0.t.y1 - c.t.y1) = dy := by rw [wrap_i64, gdy]; unfold wrap64; omega
              have Gdy : Hid _ := gdy
              clear gdy
              clear hW5 qct qcm 
              go_wp2
              refine wp_region_held_drew (S := fun w' => w'.cell? ⟨p, 4, none⟩ = some (.slice (some ⟨g8, 0, none⟩) nn cp8) ∧ w'.cell? ⟨g8, k * 10, none⟩ = some (.int .i64 c.no) ∧ w'.cell? ⟨w9.heap.size, 0, none⟩ = some (.int .i64 c0.t.x1) ∧ w'.cell? ⟨w9.heap.size, 1, none⟩ = some (.int .i64 c0.t.y1) ∧ w'.cell? ⟨wr.heap.size, 5, none⟩ = some (.int .i64 c.t.x1) ∧ w'.cell? ⟨wr.heap.size, 6, none⟩ = some (.int .i64 c.t.y1)) (by kernel_rfl) ?_ (fun hHeld => ?_)
              · exact ⟨m5, k05, ox, oy, ux, uy⟩
              refine ty (i := 0) (v := ?vac010) rfl ?hyac010 ?_
              case hyac010 => (intro w hSw; (try dsimp only at hSw); go_simp <;> with_reducible rfl)
              simp only [Act.put, ps1, ps2, ps3]
              refine ty (i := 1) (v := ?vac011) rfl ?hyac011 ?_
              case hyac011 => (intro w hSw; (try dsimp only at hSw); go_simp <;> with_reducible rfl)
              simp only [Act.put, ps1, ps2, ps3]
              refine ty (i := 2) (v := ?vac012) rfl ?hyac012 ?_
              case hyac012 => (intro w hSw; (try dsimp only at hSw); go_simp <;> with_reducible rfl)
              simp only [Act.put, ps1, ps2, ps3]
              refine ty (i := 3) (v := ?vac013) rfl ?hyac013 ?_
              case hyac013 => (intro w hSw; (try dsimp only at hSw); go_simp <;> with_reducible rfl)
              simp only [Act.put, ps1, ps2, ps3]
              refine ty (i := 4) (v := ?vac014) rfl ?hyac014 ?_
              case hyac014 => (intro w hSw; (try dsimp only at hSw); go_simp <;> with_reducible rfl)
              simp only [Act.put, ps1, ps2, ps3]
              refine ty (i := 5) (v := ?vac015) rfl ?hyac015 ?_
              case hyac015 => (intro w hSw; (try dsimp only at hSw); go_simp <;> with_reducible rfl)
              simp only [Act.put, ps1, ps2, ps3]
              refine ty (i := 6) (v := ?vac016) rfl ?hyac016 ?_
              case hyac016 => (intro w hSw; (try dsimp only at hSw); go_simp <;> with_reducible rfl)
              simp only [Act.put, ps1, ps2, ps3]
              refine ty (i := 7) (v := ?vac017) rfl ?hyac017 ?_
              case hyac017 => (intro w hSw; (try dsimp only at hSw); go_simp <;> with_reducible rfl)
              simp only [Act.put, ps1, ps2, ps3]
              refine ty (i := 8) (v := ?vac018) rfl ?hyac018 ?_
              case hyac018 => (intro w hSw; (try dsimp only at hSw); go_simp <;> with_reducible rfl)
              simp only [Act.put, ps1, ps2, ps3]
              refine ty (i := 9) (v := ?vac019) rfl ?hyac019 ?_
              case hyac019 => (intro w hSw; (try dsimp only at hSw); go_simp <;> with_reducible rfl)
              simp only [Act.put, ps1, ps2, ps3]
              refine ty (i := 10) (v := ?vac0110) rfl ?hyac0110 ?_
              case hyac0110 => (intro w hSw; (try dsimp only at hSw); go_simp <;> with_reducible rfl)
              simp only [Act.put, ps1, ps2, ps3]
              refine ty (i := 11) (v := ?vac0111) rfl ?hyac0111 ?_
              case hyac0111 => (intro w hSw; (try dsimp only at hSw); go_simp <;> with_reducible rfl)
              simp only [Act.put, ps1, ps2, ps3]
              refine ty (i := 12) (v := ?vac0112) rfl ?hyac0112 ?_
              case hyac0112 => (intro w hSw; (try dsimp only at hSw); go_simp <;> with_reducible rfl)
              simp only [Act.put, ps1, ps2, ps3]
              refine ty (i := 13) (v := ?vac0113) rfl ?hyac0113 ?_
              case hyac0113 => (intro w hSw; (try dsimp only at hSw); go_simp <;> with_reducible rfl)
              simp only [Act.put, ps1, ps2, ps3]
              refine ty (i := 14) (v := ?vac0114) rfl ?hyac0114 ?_
              case hyac0114 => (intro w hSw; (try dsimp only at hSw); go_simp <;> with_reducible rfl)
              simp only [Act.put, ps1, ps2, ps3]
              refine ty (i := 15) (v := ?vac0115) rfl ?hyac0115 ?_
              case hyac0115 => (intro w hSw; (try dsimp only at hSw); go_simp <;> with_reducible rfl)
              simp only [Act.put, ps1, ps2, ps3]
              refine ty (i := 16) (v := ?vac0116) rfl ?hyac0116 ?_
              case hyac0116 => (intro w hSw; (try dsimp only at hSw); go_simp <;> with_reducible rfl)
              simp only [Act.put, ps1, ps2, ps3]
              refine ty (i := 17) (v := ?vac0117) rfl ?hyac0117 ?_
              case hyac0117 => (intro w hSw; (try dsimp only at hSw); go_simp <;> with_reducible rfl)
              simp only [Act.put, ps1, ps2, ps3]
              refine ty (i := 18) (v := ?vac0118) rfl ?hyac0118 ?_
              case hyac0118 => (intro w hSw; (try dsimp only at hSw); go_simp <;> with_reducible rfl)
              simp only [Act.put, ps1, ps2, ps3]
              refine ty (i := 19) (v := ?vac0119) rfl ?hyac0119 ?_
              case hyac0119 => (intro w hSw; (try dsimp only at hSw); go_simp <;> with_reducible rfl)
              simp only [Act.put, ps1, ps2, ps3]
              refine ty (i := 20) (v := ?vac0120) rfl ?hyac0120 ?_
              case hyac0120 => (intro w hSw; (try dsimp only at hSw); go_simp <;> with_reducible rfl)
              simp only [Act.put, ps1, ps2, ps3]
              refine ty (i := 21) (v := ?vac0121) rfl ?hyac0121 ?_
              case hyac0121 => (intro w hSw; (try dsimp only at hSw); go_simp <;> with_reducible rfl)
              simp only [Act.put, ps1, ps2, ps3]
              refine ty (i := 22) (v := ?vac0122) rfl ?hyac0122 ?_
              case hyac0122 => (intro w hSw; (try dsimp only at hSw); go_simp <;> with_reducible rfl)
              simp only [Act.put, ps1, ps2, ps3]
              refine ty (i := 23) (v := ?vac0123) rfl ?hyac0123 ?_
              case hyac0123 => (intro w hSw; (try dsimp only at hSw); go_simp <;> with_reducible rfl)
              simp only [Act.put, ps1, ps2, ps3]
              refine ty (i := 24) (v := ?vac0124) rfl ?hyac0124 ?_
              case hyac0124 => (intro w hSw; (try dsimp only at hSw); go_simp <;> with_reducible rfl)
              simp only [Act.put, ps1, ps2, ps3]
              refine ty (i := 25) (v := ?vac0125) rfl ?hyac0125 ?_
              case hyac0125 => (intro w hSw; (try dsimp only at hSw); go_simp <;> with_reducible rfl)
              simp only [Act.put, ps1, ps2, ps3]
              refine ty (i := 26) (v := ?vac0126) rfl ?hyac0126 ?_
              case hyac0126 => (intro w hSw; (try dsimp only at hSw); go_simp <;> with_reducible rfl)
              simp only [Act.put, ps1, ps2, ps3]
              refine ty (i := 27) (v := ?vac0127) rfl ?hyac0127 ?_
              case hyac0127 => (intro w hSw; (try dsimp only at hSw); go_simp <;> with_reducible rfl)
              simp only [Act.put, ps1, ps2, ps3]
              refine ty (i := 28) (v := ?vac0128) rfl ?hyac0128 ?_
              case hyac0128 => (intro w hSw; (try dsimp only at hSw); go_simp <;> with_reducible rfl)
              simp only [Act.put, ps1, ps2, ps3]
              refine ty (i := 29) (v := ?vac0129) rfl ?hyac0129 ?_
              case hyac0129 => (intro w hSw; (try dsimp only at hSw); go_simp <;> with_reducible rfl)
              simp only [Act.put, ps1, ps2, ps3]
              refine take_call (i := 30) rfl (by kernel_rfl) (fun Kc hK => ?_)
              go_simp
              refine hK.out _ _ ?_ (fun hHeld => ?_)
              · exact ⟨(World.cell?_setCell_other _ _ _ _ (by intro q; simp only [Addr.mk.injEq] at q; omega)).trans ((World.cell?_setCell_other _ _ _ _ (by intro q; simp only [Addr.mk.injEq] at q; omega)).trans m5), (World.cell?_setCell_other _ _ _ _ (by intro q; simp only [Addr.mk.injEq] at q; omega)).trans ((World.cell?_setCell_other _ _ _ _ (by intro q; simp only [Addr.mk.injEq] at q; omega)).trans k05), (World.cell?_setCell_other _ _ _ _ (by intro q; simp only [Addr.mk.injEq] at q; omega)).trans ((World.cell?_setCell_other _ _ _ _ (by intro q; simp only [Addr.mk.injEq] at q; omega)).trans ox), (World.cell?_setCell_other _ _ _ _ (by intro q; simp only [Addr.mk.injEq] at q; omega)).trans ((World.cell?_setCell_other _ _ _ _ (by intro q; simp only [Addr.mk.injEq] at q; omega)).trans oy), (World.cell?_setCell_other _ _ _ _ (by intro q; simp only [Addr.mk.injEq] at q; omega)).trans ((World.cell?_setCell_other _ _ _ _ (by intro q; simp only [Addr.mk.injEq] at q; omega)).trans ux), (World.cell?_setCell_other _ _ _ _ (by intro q; simp only [Addr.mk.injEq] at q; omega)).trans ((World.cell?_setCell_other _ _ _ _ (by intro q; simp only [Addr.mk.injEq] at q; omega)).trans uy)⟩
              clear hK Kc
              refine ty (i := 31) (v := ?vac0131) rfl ?hyac0131 ?_
              case hyac0131 => (intro w hSw; (try dsimp only at hSw); go_simp <;> with_reducible rfl)
              simp only [Act.put, ps1, ps2, ps3]
              refine wpAnyH_done (by kernel_rfl) ?_ _
              have rC := (R5.set 0 (.int .i64 dx) (by simp)).set 1 (.int .i64 dy) (by simp)
              have rc0 := rC.cell 0 _ rfl
              have rc1 := rC.cell 1 _ rfl
              go_wp2
              have BF : Below w.heap.size w W5 := (BW.trans (BB.mono (by omega))).trans (B5.mono (by omega))
              refine bodyPost_ret (v := .tuple #[.int .i64 c.no, .int .i64 0, .agg #[.int .i64 dx, .int .i64 dy], .bool true]) (by simp [results, Tryz.results25, go_sem, *]) rfl ⟨?_, below_put2 BF.drew (by omega) _ _⟩
              rw [HF.out, Gdx.out, Gdy.out]
              rfl
            | false =>
              go_wp2
              go_roundw
              case rel => exact ⟨2, by omega, by simp, (fun j' h' => if e : j' = 1 then by rw [e]; exact HJ.out.symm else HNo.out j' (by omega)), BB⟩
              case measure => simp [RowKit.intOf]
          · obtain ⟨r, hr⟩ : ∃ r, r = opp c0.t 0 c.t 2 := ⟨_, rfl⟩
            have HJ : Hid _ := hr
            clear hr
            go_wp2_with (go_at_call 55; fail)
            refine (twin_02r c0.t c.t W3 hct hcm HJ.out).mono ?_
            rintro e w9 ⟨rfl, b9⟩
            have z9 := b9.size
            have BB : Below W2.heap.size W2 w9 := (bel2.trans (B3.mono (by omega))).trans (b9.mono (by omega))
            have T9 := T3.below b9 (by omega)
            have U9 := U3.below b9 (by omega)
            have R9 := R3.below b9 (by omega)
            have hp9 : p < W3.heap.size := by omega
            have hg9 : g8 < W3.heap.size := by omega
            have m9 := (b9.cell (p := ⟨p, 4, none⟩) hp9).trans m3
            have k09 := (b9.cell (p := ⟨g8, k * 10, none⟩) hg9).trans k03
            clear t3_0 u3_0 t3_1 u3_1 t3_2 u3_2 t3_3 u3_3 t3_4 u3_4 t3_5 u3_5 t3_6 u3_6 t3_7 u3_7 t3_8 u3_8 m3 k03 k0 k1 k2 k3 k4 k5 k6 k7 k8 k9 m8 hW3' T3 U3 R3
            cases r with
            | true =>
              have HF : Hid (acr c0.t 0 S.C = some (c, 2)) := by unfold Hid; rw [HAC.out]; exact acr_found HX.out (by decide) HNo.out HJ.out.symm
              have t9x := T9.cell 5 _ rfl
              have t9y := T9.cell 6 _ rfl
              obtain ⟨W5, hW5⟩ : ∃ W, W = w9.alloc (.cells ([.int .i64 c0.t.x1, .int .i64 c0.t.y1] : List Value).toArray 48) := ⟨_, rfl⟩
              have B5 : Below w9.heap.size w9 W5 := by rw [hW5]; exact (Below.refl _ _).alloc (Nat.le_refl _) _
              have z5 : W5.heap.size = w9.heap.size + 1 := by rw [hW5]; simp
              have O5 : Row W5 w9.heap.size [.int .i64 c0.t.x1, .int .i64 c0.t.y1] := by rw [hW5]; exact Row.new w9 _ _
              have hW5' : w9.alloc (.cells #[.int .i64 c0.t.x1, .int .i64 c0.t.y1] 48) = W5 := hW5.symm
              have U5 := U9.below B5 (by omega)
              have R5 := R9.below B5 (by omega)
              have ox := O5.cell 0 _ rfl
              have oy := O5.cell 1 _ rfl
              have ux := U5.cell 7 _ rfl
              have uy := U5.cell 8 _ rfl
              have m5 := (B5.cell (p := ⟨p, 4, none⟩) (Nat.lt_of_lt_of_le hp9 z9)).trans m9
              have k05 := (B5.cell (p := ⟨g8, k * 10, none⟩) (Nat.lt_of_lt_of_le hg9 z9)).trans k09
              have wj : (IntKind.i64.wrap 4).tmod 3 = 1 := by decide
              have r0 := R5.cell 0 _ rfl
              have r1 := R5.cell 1 _ rfl
              have f0 := R5.free 0 (by simp)
              have f1 := R5.free 1 (by simp)
              have qct := hct.all
              have qcm := hcm.all
              obtain ⟨dx, gdx⟩ : ∃ dx, dx = c0.t.x1 - c.t.x2 := ⟨_, rfl⟩
              have vdx : IntKind.i64.wrap (c0.t.x1 - c.t.x2) = dx := by rw [wrap_i64, gdx]; unfold wrap64; omega
              have Gdx : Hid _ := gdx
              clear gdx
              obtain ⟨dy, gdy⟩ : ∃ dy, dy = c0.t.y1 - c.t.y2 := ⟨_, rfl⟩
              have vdy : IntKind.i64.wrap (c0.t.y1 - c.t.y2) = dy := by rw [wrap_i64, gdy]; unfold wrap64; omega
              have Gdy : Hid _ := gdy
              clear gdy
              clear hW5 qct qcm 
              go_wp2
              refine wp_region_held_drew (S := fun w' => w'.cell? ⟨p, 4, none⟩ = some (.slice (some ⟨g8, 0, none⟩) nn cp8) ∧ w'.cell? ⟨g8, k * 10, none⟩ = some (.int .i64 c.no) ∧ w'.cell? ⟨w9.heap.size, 0, none⟩ = some (.int .i64 c0.t.x1) ∧ w'.cell? ⟨w9.heap.size, 1, none⟩ = some (.int .i64 c0.t.y1) ∧ w'.cell? ⟨wr.heap.size, 7, none⟩ = some (.int .i64 c.t.x2) ∧ w'.cell? ⟨wr.heap.size, 8, none⟩ = some (.int .i64 c.t.y2)) (by kernel_rfl) ?_ (fun hHeld => ?_)
              · exact ⟨m5, k05, ox, oy, ux, uy⟩
              refine ty (i := 0) (v := ?vac020) rfl ?hyac020 ?_
              case hyac020 => (intro w hSw; (try dsimp only at hSw); go_simp <;> with_reducible rfl)
              simp only [Act.put, ps1, ps2, ps3]
              refine ty (i := 1) (v := ?vac021) rfl ?hyac021 ?_
              case hyac021 => (intro w hSw; (try dsimp only at hSw); go_simp <;> with_reducible rfl)
              simp only [Act.put, ps1, ps2, ps3]
              refine ty (i := 2) (v := ?vac022) rfl ?hyac022 ?_
              case hyac022 => (intro w hSw; (try dsimp only at hSw); go_simp <;> with_reducible rfl)
              simp only [Act.put, ps1, ps2, ps3]
              refine ty (i := 3) (v := ?vac023) rfl ?hyac023 ?_
              case hyac023 => (intro w hSw; (try dsimp only at hSw); go_simp <;> with_reducible rfl)
              simp only [Act.put, ps1, ps2, ps3]
              refine ty (i := 4) (v := ?vac024) rfl ?hyac024 ?_
              case hyac024 => (intro w hSw; (try dsimp only at hSw); go_simp <;> with_reducible rfl)
              simp only [Act.put, ps1, ps2, ps3]
              refine ty (i := 5) (v := ?vac025) rfl ?hyac025 ?_
              case hyac025 => (intro w hSw; (try dsimp only at hSw); go_simp <;> with_reducible rfl)
              simp only [Act.put, ps1, ps2, ps3]
              refine ty (i := 6) (v := ?vac026) rfl ?hyac026 ?_
              case hyac026 => (intro w hSw; (try dsimp only at hSw); go_simp <;> with_reducible rfl)
              simp only [Act.put, ps1, ps2, ps3]
              refine ty (i := 7) (v := ?vac027) rfl ?hyac027 ?_
              case hyac027 => (intro w hSw; (try dsimp only at hSw); go_simp <;> with_reducible rfl)
              simp only [Act.put, ps1, ps2, ps3]
              refine ty (i := 8) (v := ?vac028) rfl ?hyac028 ?_
              case hyac028 => (intro w hSw; (try dsimp only at hSw); go_simp <;> with_reducible rfl)
              simp only [Act.put, ps1, ps2, ps3]
              refine ty (i := 9) (v := ?vac029) rfl ?hyac029 ?_
              case hyac029 => (intro w hSw; (try dsimp only at hSw); go_simp <;> with_reducible rfl)
              simp only [Act.put, ps1, ps2, ps3]
              refine ty (i := 10) (v := ?vac0210) rfl ?hyac0210 ?_
              case hyac0210 => (intro w hSw; (try dsimp only at hSw); go_simp <;> with_reducible rfl)
              simp only [Act.put, ps1, ps2, ps3]
              refine ty (i := 11) (v := ?vac0211) rfl ?hyac0211 ?_
              case hyac0211 => (intro w hSw; (try dsimp only at hSw); go_simp <;> with_reducible rfl)
              simp only [Act.put, ps1, ps2, ps3]
              refine ty (i := 12) (v := ?vac0212) rfl ?hyac0212 ?_
              case hyac0212 => (intro w hSw; (try dsimp only at hSw); go_simp <;> with_reducible rfl)
              simp only [Act.put, ps1, ps2, ps3]
              refine ty (i := 13) (v := ?vac0213) rfl ?hyac0213 ?_
              case hyac0213 => (intro w hSw; (try dsimp only at hSw); go_simp <;> with_reducible rfl)
              simp only [Act.put, ps1, ps2, ps3]
              refine ty (i := 14) (v := ?vac0214) rfl ?hyac0214 ?_
              case hyac0214 => (intro w hSw; (try dsimp only at hSw); go_simp <;> with_reducible rfl)
              simp only [Act.put, ps1, ps2, ps3]
              refine ty (i := 15) (v := ?vac0215) rfl ?hyac0215 ?_
              case hyac0215 => (intro w hSw; (try dsimp only at hSw); go_simp <;> with_reducible rfl)
              simp only [Act.put, ps1, ps2, ps3]
              refine ty (i := 16) (v := ?vac0216) rfl ?hyac0216 ?_
              case hyac0216 => (intro w hSw; (try dsimp only at hSw); go_simp <;> with_reducible rfl)
              simp only [Act.put, ps1, ps2, ps3]
              refine ty (i := 17) (v := ?vac0217) rfl ?hyac0217 ?_
              case hyac0217 => (intro w hSw; (try dsimp only at hSw); go_simp <;> with_reducible rfl)
              simp only [Act.put, ps1, ps2, ps3]
              refine ty (i := 18) (v := ?vac0218) rfl ?hyac0218 ?_
              case hyac0218 => (intro w hSw; (try dsimp only at hSw); go_simp <;> with_reducible rfl)
              simp only [Act.put, ps1, ps2, ps3]
              refine ty (i := 19) (v := ?vac0219) rfl ?hyac0219 ?_
              case hyac0219 => (intro w hSw; (try dsimp only at hSw); go_simp <;> with_reducible rfl)
              simp only [Act.put, ps1, ps2, ps3]
              refine ty (i := 20) (v := ?vac0220) rfl ?hyac0220 ?_
              case hyac0220 => (intro w hSw; (try dsimp only at hSw); go_simp <;> with_reducible rfl)
              simp only [Act.put, ps1, ps2, ps3]
              refine ty (i := 21) (v := ?vac0221) rfl ?hyac0221 ?_
              case hyac0221 => (intro w hSw; (try dsimp only at hSw); go_simp <;> with_reducible rfl)
              simp only [Act.put, ps1, ps2, ps3]
              refine ty (i := 22) (v := ?vac0222) rfl ?hyac0222 ?_
              case hyac0222 => (intro w hSw; (try dsimp only at hSw); go_simp <;> with_reducible rfl)
              simp only [Act.put, ps1, ps2, ps3]
              refine ty (i := 23) (v := ?vac0223) rfl ?hyac0223 ?_
              case hyac0223 => (intro w hSw; (try dsimp only at hSw); go_simp <;> with_reducible rfl)
              simp only [Act.put, ps1, ps2, ps3]
              refine ty (i := 24) (v := ?vac0224) rfl ?hyac0224 ?_
              case hyac0224 => (intro w hSw; (try dsimp only at hSw); go_simp <;> with_reducible rfl)
              simp only [Act.put, ps1, ps2, ps3]
              refine ty (i := 25) (v := ?vac0225) rfl ?hyac0225 ?_
              case hyac0225 => (intro w hSw; (try dsimp only at hSw); go_simp <;> with_reducible rfl)
              simp only [Act.put, ps1, ps2, ps3]
              refine ty (i := 26) (v := ?vac0226) rfl ?hyac0226 ?_
              case hyac0226 => (intro w hSw; (try dsimp only at hSw); go_simp <;> with_reducible rfl)
              simp only [Act.put, ps1, ps2, ps3]
              refine ty (i := 27) (v := ?vac0227) rfl ?hyac0227 ?_
              case hyac0227 => (intro w hSw; (try dsimp only at hSw); go_simp <;> with_reducible rfl)
              simp only [Act.put, ps1, ps2, ps3]
              refine ty (i := 28) (v := ?vac0228) rfl ?hyac0228 ?_
              case hyac0228 => (intro w hSw; (try dsimp only at hSw); go_simp <;> with_reducible rfl)
              simp only [Act.put, ps1, ps2, ps3]
              refine ty (i := 29) (v := ?vac0229) rfl ?hyac0229 ?_
              case hyac0229 => (intro w hSw; (try dsimp only at hSw); go_simp <;> with_reducible rfl)
              simp only [Act.put, ps1, ps2, ps3]
              refine take_call (i := 30) rfl (by kernel_rfl) (fun Kc hK => ?_)
              go_simp
              refine hK.out _ _ ?_ (fun hHeld => ?_)
              · exact ⟨(World.cell?_setCell_other _ _ _ _ (by intro q; simp only [Addr.mk.injEq] at q; omega)).trans ((World.cell?_setCell_other _ _ _ _ (by intro q; simp only [Addr.mk.injEq] at q; omega)).trans m5), (World.cell?_setCell_other _ _ _ _ (by intro q; simp only [Addr.mk.injEq] at q; omega)).trans ((World.cell?_setCell_other _ _ _ _ (by intro q; simp only [Addr.mk.injEq] at q; omega)).trans k05), (World.cell?_setCell_other _ _ _ _ (by intro q; simp only [Addr.mk.injEq] at q; omega)).trans ((World.cell?_setCell_other _ _ _ _ (by intro q; simp only [Addr.mk.injEq] at q; omega)).trans ox), (World.cell?_setCell_other _ _ _ _ (by intro q; simp only [Addr.mk.injEq] at q; omega)).trans ((World.cell?_setCell_other _ _ _ _ (by intro q; simp only [Addr.mk.injEq] at q; omega)).trans oy), (World.cell?_setCell_other _ _ _ _ (by intro q; simp only [Addr.mk.injEq] at q; omega)).trans ((World.cell?_setCell_other _ _ _ _ (by intro q; simp only [Addr.mk.injEq] at q; omega)).trans ux), (World.cell?_setCell_other _ _ _ _ (by intro q; simp only [Addr.mk.injEq] at q; omega)).trans ((World.cell?_setCell_other _ _ _ _ (by intro q; simp only [Addr.mk.injEq] at q; omega)).trans uy)⟩
              clear hK Kc
              refine ty (i := 31) (v := ?vac0231) rfl ?hyac0231 ?_
              case hyac0231 => (intro w hSw; (try dsimp only at hSw); go_simp <;> with_reducible rfl)
              simp only [Act.put, ps1, ps2, ps3]
              refine wpAnyH_done (by kernel_rfl) ?_ _
              have rC := (R5.set 0 (.int .i64 dx) (by simp)).set 1 (.int .i64 dy) (by simp)
              have rc0 := rC.cell 0 _ rfl
              have rc1 := rC.cell 1 _ rfl
              go_wp2
              have BF : Below w.heap.size w W5 := (BW.trans (BB.mono (by omega))).trans (B5.mono (by omega))
              refine bodyPost_ret (v := .tuple #[.int .i64 c.no, .int .i64 1, .agg #[.int .i64 dx, .int .i64 dy], .bool true]) (by simp [results, Tryz.results25, go_sem, *]) rfl ⟨?_, below_put2 BF.drew (by omega) _ _⟩
              rw [HF.out, Gdx.out, Gdy.out]
              rfl
            | false =>
              go_wp2
              go_roundw
              case rel => exact ⟨3, by omega, by simp, (fun j' h' => if e : j' = 2 then by rw [e]; exact HJ.out.symm else HNo.out j' (by omega)), BB⟩
              case measure => simp [RowKit.intOf]
        · obtain rfl : j = 3 := by omega
          have HT : Hid (acr c0.t 0 S.C = acr c0.t 0 (S.C.drop (k + 1))) := by unfold Hid; rw [HAC.out]; exact acr_on HX.out hno
          clear hno
          go_wp2
          go_roundw
          case rel => exact ⟨k + 1, by have := HNN.out; omega, by simp, HT.out, bel2⟩
          case measure => have := HNN.out; simp [RowKit.intOf]; omega
    · obtain rfl : k = S.C.length := by omega
      have HT : Hid (acr c0.t 0 S.C = none) := by unfold Hid; rw [hac, List.drop_length]; rfl
      obtain ⟨y1, y2, ya, yca, yb, ycb, hrow⟩ := (L2.out.below bel).row
      have m2 := hrow.cell 4 _ rfl
      rw [← HNN.out] at m2 ⊢
      have R8 := R2.below bel (by omega)
      have r0 := R8.cell 0 _ rfl
      have r1 := R8.cell 1 _ rfl
      have f0 := R8.free 0 (by simp)
      have f1 := R8.free 1 (by simp)
      have rC := (R8.set 0 (.int .i64 0) (by simp)).set 1 (.int .i64 0) (by simp)
      have rc0 := rC.cell 0 _ rfl
      have rc1 := rC.cell 1 _ rfl
      clear hac hrow
      go_wp2
      refine bodyPost_ret (v := .tuple #[.int .i64 (-1), .int .i64 0, .agg #[.int .i64 0, .int .i64 0], .bool false]) (by simp [results, Tryz.results25, go_sem, *]) rfl ⟨?_, below_put2 (BW.trans (bel.mono (by omega))) (by omega) _ _⟩
      rw [HT.out]
      rfl
end Go.Proofs.YtjdeehffbgpenaaGreat
