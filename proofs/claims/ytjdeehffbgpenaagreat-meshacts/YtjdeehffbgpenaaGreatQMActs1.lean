/-
  Joined texts of this law, part 1:
  Vertices, faces and faces with their numbers that are the same are equal.
  What zelligeref11's New, Dump and Same do.
  What zelligeref11's Twin answers, corner 0, the other way round.
  What zelligeref11's Twin answers, corner 1, the other way round.
  What zelligeref11's Twin answers, corner 2, the other way round.
  What zelligeref11's Across answers, in numbers.
-/
import Derived.Test.YtjdeehffbgpenaaGreatP16
import Derived.ChangeKeysEq
namespace Go.Proofs.YtjdeehffbgpenaaGreat
open Go.RowKit
set_option linter.unusedVariables false

theorem eq_3 (d : Nat) (a b c a' b' c' : Int) (w : World) : (Op.equalIn (d + 2) 46 (.agg #[.int .i64 a, .int .i64 b, .int .i64 c]) (.agg #[.int .i64 a', .int .i64 b', .int .i64 c'])).run Tryz.prog w = .ok (a == a' && (b == b' && c == c')) w := by
  obtain ⟨i, hi⟩ := Option.isSome_iff_exists.1 (show (Tryz.prog.info? 3).isSome = true by kernel_rfl)
  have hc : Tryz.prog.cellsOf 3 = 1 := by kernel_rfl
  rw [run_equalIn_array w (d + 1) _ _ Tryz.underlying46 hi, hc]
  simp [Op.eqItems, List.range, List.range.loop, go_sem, Tryz.underlying3]
  by_cases e0 : a = a' <;> by_cases e1 : b = b' <;> by_cases e2 : c = c' <;> simp [e0, e1, e2]
theorem eq_off (d : Nat) (a b : Int) (w : World) : (Op.equalIn (d + 2) 48 (.agg #[.int .i64 a, .int .i64 b]) (.agg #[.int .i64 a, .int .i64 b])).run Tryz.prog w = .ok true w := by
  simp [go_sem, Tryz.underlying48, Tryz.underlying3]
theorem eq_3off (d : Nat) (a b c e f g : Int) (w : World) : (Op.equalIn (d + 3) 49 (.agg #[.int .i64 a, .int .i64 b, .int .i64 c, .int .i64 e, .int .i64 f, .int .i64 g]) (.agg #[.int .i64 a, .int .i64 b, .int .i64 c, .int .i64 e, .int .i64 f, .int .i64 g])).run Tryz.prog w = .ok true w := by
  obtain ⟨i, hi⟩ := Option.isSome_iff_exists.1 (show (Tryz.prog.info? 48).isSome = true by kernel_rfl)
  have hc : Tryz.prog.cellsOf 48 = 2 := by kernel_rfl
  rw [run_equalIn_array w (d + 2) _ _ Tryz.underlying49 hi, hc]
  simp [Op.eqItems, List.range, List.range.loop, go_sem, eq_off]
theorem eq_3' (d : Nat) (a b c : Int) (w : World) : (Op.equalIn (d + 3) 46 (.agg #[.int .i64 a, .int .i64 b, .int .i64 c]) (.agg #[.int .i64 a, .int .i64 b, .int .i64 c])).run Tryz.prog w = .ok true w := by
  have := eq_3 (d + 1) a b c a b c w
  simpa using this
theorem eq_tri (d : Nat) (t : Tr) (w : World) : (Op.equalIn (d + 4) 51 (trV t) (trV t)).run Tryz.prog w = .ok true w := by
  simp [go_sem, Tryz.underlying51, eq_3', eq_3off]
abbrev ceV (c : Ce) : Value := .agg #[.int .i64 c.no, .int .i64 c.t.v0, .int .i64 c.t.v1, .int .i64 c.t.v2, .int .i64 c.t.x0, .int .i64 c.t.y0, .int .i64 c.t.x1, .int .i64 c.t.y1, .int .i64 c.t.x2, .int .i64 c.t.y2]
theorem eq_cell (d : Nat) (c : Ce) (w : World) : (Op.equalIn (d + 5) 65 (ceV c) (ceV c)).run Tryz.prog w = .ok true w := by
  simp [go_sem, Tryz.underlying65, Tryz.underlying3, eq_tri]
theorem eq_cell0 (c : Ce) (w : World) : (Op.equalIn 10000 65 (ceV c) (ceV c)).run Tryz.prog w = .ok true w := eq_cell 9995 c w
end Go.Proofs.YtjdeehffbgpenaaGreat

namespace Go.Proofs.YtjdeehffbgpenaaGreat
open Go.RowKit
set_option linter.unusedVariables false

theorem DumpIs.below {w w' : World} {n : Int} {V : List Vt} {C : List Ce} {a b : Option Addr} {ca cb : Nat} (h : DumpIs w n V C a ca b cb) (hb : Below w.heap.size w w') : DumpIs w' n V C a ca b cb := by
  obtain ⟨base, h1, h2⟩ := h.ex
  exact ⟨base, h1.below hb, h2.below hb⟩
set_option maxRecDepth 100000 in
theorem mrDump (p : Nat) (S : Ms) (w : World) (h : MeLook p S w) : Calls Tryz.prog 10 #[ptR p] w (GotDump w S) := by
  obtain ⟨x, y, base, a, ca, b, cb, hrow, ha, hb⟩ := h.ex
  have hpl := hrow.lt
  have HA : Hid _ := ha
  have HB : Hid _ := hb
  have q0 := hrow.cell 0 _ rfl
  have q3 := hrow.cell 3 _ rfl
  have q4 := hrow.cell 4 _ rfl
  obtain ⟨W, hW⟩ : ∃ W, W = w.alloc (.cells ([.int .i64 0, .slice none 0 0, .slice none 0 0] : List Value).toArray 32) := ⟨_, rfl⟩
  have BW : Below w.heap.size w W := by rw [hW]; exact (Below.refl _ _).alloc (Nat.le_refl _) _
  have zW : W.heap.size = w.heap.size + 1 := by rw [hW]; simp
  have R0 : Row W w.heap.size [.int .i64 0, .slice none 0 0, .slice none 0 0] := by rw [hW]; exact Row.new w _ _
  have hW' : w.alloc (.cells #[.int .i64 0, .slice none 0 0, .slice none 0 0] 32) = W := hW.symm
  have q0 := (BW.cell (p := ⟨p, 0, none⟩) hpl).trans q0
  have q3 := (BW.cell (p := ⟨p, 3, none⟩) hpl).trans q3
  have q4 := (BW.cell (p := ⟨p, 4, none⟩) hpl).trans q4
  have r0 := R0.cell 0 _ rfl
  have r1 := R0.cell 1 _ rfl
  have r2 := R0.cell 2 _ rfl
  have f0 := R0.free 0 (by simp)
  have f1 := R0.free 1 (by simp)
  have f2 := R0.free 2 (by simp)
  obtain ⟨nv, hnv⟩ : ∃ nv, nv = S.V.length := ⟨_, rfl⟩
  obtain ⟨nc, hnc⟩ : ∃ nc, nc = S.C.length := ⟨_, rfl⟩
  obtain ⟨sd, hsd⟩ : ∃ sd, sd = S.n := ⟨_, rfl⟩
  rw [← hsd] at q0
  rw [← hnv] at q3
  rw [← hnc] at q4
  have HNV : Hid _ := hnv
  have HNC : Hid _ := hnc
  have HSD : Hid _ := hsd
  clear hrow h ha hb hW hnv hnc hsd
  go_enter Tryz.func10, Tryz.ntmps10
  go_wp2
  refine regionL 13 (S := fun w' => w'.cell? ⟨p, 0, none⟩ = some (.int .i64 sd) ∧ w'.cell? ⟨p, 3, none⟩ = some (.slice a nv ca) ∧ w'.cell? ⟨p, 4, none⟩ = some (.slice b nc cb)) (by kernel_rfl) ?_ (fun hHeld => ?_)
  · exact ⟨q0, q3, q4⟩
  refine tyL (i := 0) (v := ?vdu0) rfl ?hydu0 ?_
  case hydu0 => (intro w hSw; (try dsimp only at hSw); go_simp <;> with_reducible rfl)
  simp only [Act.put, ps1, ps2, ps3]
  refine tyL (i := 1) (v := ?vdu1) rfl ?hydu1 ?_
  case hydu1 => (intro w hSw; (try dsimp only at hSw); go_simp <;> with_reducible rfl)
  simp only [Act.put, ps1, ps2, ps3]
  refine tyL (i := 2) (v := ?vdu2) rfl ?hydu2 ?_
  case hydu2 => (intro w hSw; (try dsimp only at hSw); go_simp <;> with_reducible rfl)
  simp only [Act.put, ps1, ps2, ps3]
  refine tyL (i := 3) (v := ?vdu3) rfl ?hydu3 ?_
  case hydu3 => (intro w hSw; (try dsimp only at hSw); go_simp <;> with_reducible rfl)
  simp only [Act.put, ps1, ps2, ps3]
  refine tyL (i := 4) (v := ?vdu4) rfl ?hydu4 ?_
  case hydu4 => (intro w hSw; (try dsimp only at hSw); go_simp <;> with_reducible rfl)
  simp only [Act.put, ps1, ps2, ps3]
  refine tyL (i := 5) (v := ?vdu5) rfl ?hydu5 ?_
  case hydu5 => (intro w hSw; (try dsimp only at hSw); go_simp <;> with_reducible rfl)
  simp only [Act.put, ps1, ps2, ps3]
  refine tyL (i := 6) (v := ?vdu6) rfl ?hydu6 ?_
  case hydu6 => (intro w hSw; (try dsimp only at hSw); go_simp <;> with_reducible rfl)
  simp only [Act.put, ps1, ps2, ps3]
  refine tyL (i := 7) (v := ?vdu7) rfl ?hydu7 ?_
  case hydu7 => (intro w hSw; (try dsimp only at hSw); go_simp <;> with_reducible rfl)
  simp only [Act.put, ps1, ps2, ps3]
  refine tyL (i := 8) (v := ?vdu8) rfl ?hydu8 ?_
  case hydu8 => (intro w hSw; (try dsimp only at hSw); go_simp <;> with_reducible rfl)
  simp only [Act.put, ps1, ps2, ps3]
  refine tyL (i := 9) (v := ?vdu9) rfl ?hydu9 ?_
  case hydu9 => (intro w hSw; (try dsimp only at hSw); go_simp <;> with_reducible rfl)
  simp only [Act.put, ps1, ps2, ps3]
  refine tyL (i := 10) (v := ?vdu10) rfl ?hydu10 ?_
  case hydu10 => (intro w hSw; (try dsimp only at hSw); go_simp <;> with_reducible rfl)
  simp only [Act.put, ps1, ps2, ps3]
  refine tyL (i := 11) (v := ?vdu11) rfl ?hydu11 ?_
  case hydu11 => (intro w hSw; (try dsimp only at hSw); go_simp <;> with_reducible rfl)
  simp only [Act.put, ps1, ps2, ps3]
  refine tyL (i := 12) (v := ?vdu12) rfl ?hydu12 ?_
  case hydu12 => (intro w hSw; (try dsimp only at hSw); go_simp <;> with_reducible rfl)
  simp only [Act.put, ps1, ps2, ps3]
  refine takeL_last rfl (by kernel_rfl) (fun Kc hK => ?_)
  go_simp
  refine hK.out _ _ ?_
  clear hK Kc
  refine anyL_done (by kernel_rfl) ?_ _
  have rC := ((R0.set 0 (.int .i64 sd) (by simp)).set 1 (.slice a nv ca) (by simp)).set 2 (.slice b nc cb) (by simp)
  have c0 := rC.cell 0 _ rfl
  have c1 := rC.cell 1 _ rfl
  have c2 := rC.cell 2 _ rfl
  clear hW'
  go_wp2
  have BF : Below w.heap.size w ((((W.drew).setCell ⟨w.heap.size, 0, none⟩ (.int .i64 sd)).setCell ⟨w.heap.size, 1, none⟩ (.slice a nv ca)).setCell ⟨w.heap.size, 2, none⟩ (.slice b nc cb)) := ((BW.drew.setCell (Nat.le_refl _) _).setCell (Nat.le_refl _) _).setCell (Nat.le_refl _) _
  refine bodyPost_ret (v := .agg #[.int .i64 sd, .slice a nv ca, .slice b nc cb]) (by simp [results, Tryz.results10, go_sem, *]) rfl ?_
  rw [HSD.out, HNV.out, HNC.out] at BF ⊢
  exact ⟨a, ca, b, cb, rfl, ⟨base, OwnS.below HA.out BF, OwnS.below HB.out BF⟩, BF⟩
theorem OwnS.elem {w : World} {base cap s : Nat} {T : TypeId} {a : Option Addr} {α : Type} {f : α → List Value} {L : List α} (hf : ∀ x, (f x).length = s) (h : OwnS w base T s a L.length cap (flat f L)) {k : Nat} {x : α} (hk : L[k]? = some x) : ∃ b, a = some ⟨b, 0, none⟩ ∧ b < w.heap.size ∧ ∀ j u, (f x)[j]? = some u → w.cell? ⟨b, k * s + j, none⟩ = some u := by
  obtain ⟨g, rfl, hg, _, hseg⟩ := h.at (by have := (List.getElem?_eq_some_iff.1 hk).1; omega)
  refine ⟨g, rfl, hg, fun j u hj => ?_⟩
  have := hseg.cell _ u (flat_at hf hk hj)
  rw [Nat.zero_add] at this
  exact this
set_option maxRecDepth 100000 in
set_option maxHeartbeats 2000000 in
theorem mrSame (n : Int) (V : List Vt) (C : List Ce) (a b : Option Addr) (ca cb : Nat) (a' b' : Option Addr) (ca' cb' : Nat) (w : World) (h1 : DumpIs w n V C a ca b cb) (h2 : DumpIs w n V C a' ca' b' cb') (hV : V.length ≤ 1000) (hC : C.length ≤ 1000) :
    Calls Tryz.prog 8 #[.agg #[.int .i64 n, .slice a V.length ca, .slice b C.length cb], .agg #[.int .i64 n, .slice a' V.length ca', .slice b' C.length cb']] w fun e w' => e = .returned (.bool true) ∧ Below w.heap.size w w' := by
  obtain ⟨base1, ha1, hb1⟩ := h1.ex
  obtain ⟨base2, ha2, hb2⟩ := h2.ex
  have HA1 : Hid _ := ha1
  have HB1 : Hid _ := hb1
  have HA2 : Hid _ := ha2
  have HB2 : Hid _ := hb2
  obtain ⟨W, hW⟩ : ∃ W, W = (w.alloc (.cells ([.int .i64 n, .slice a V.length ca, .slice b C.length cb] : List Value).toArray 32)).alloc (.cells ([.int .i64 n, .slice a' V.length ca', .slice b' C.length cb'] : List Value).toArray 32) := ⟨_, rfl⟩
  have BW : Below w.heap.size w W := by rw [hW]; exact ((Below.refl _ _).alloc (Nat.le_refl _) _).alloc (by simp) _
  have zW : W.heap.size = w.heap.size + 2 := by rw [hW]; simp
  have R0 : Row W w.heap.size [.int .i64 n, .slice a V.length ca, .slice b C.length cb] := by rw [hW]; exact (Row.new w _ _).alloc _ (by simp)
  have R1 : Row W (w.heap.size + 1) [.int .i64 n, .slice a' V.length ca', .slice b' C.length cb'] := by rw [hW]; have := Row.new (w.alloc (.cells ([.int .i64 n, .slice a V.length ca, .slice b C.length cb] : List Value).toArray 32)) [.int .i64 n, .slice a' V.length ca', .slice b' C.length cb'] 32; simpa using this
  obtain ⟨nv, hnv⟩ : ∃ nv, nv = V.length := ⟨_, rfl⟩
  obtain ⟨nc, hnc⟩ : ∃ nc, nc = C.length := ⟨_, rfl⟩
  rw [← hnv, ← hnc] at R0 R1
  have hW' : (w.alloc (.cells #[.int .i64 n, .slice a nv ca, .slice b nc cb] 32)).alloc (.cells #[.int .i64 n, .slice a' nv ca', .slice b' nc cb'] 32) = W := by rw [hnv, hnc, hW]
  rw [← hnv, ← hnc]
  have HNV : Hid _ := hnv
  have HNC : Hid _ := hnc
  have q0 := R0.cell 0 _ rfl
  have q1 := R0.cell 1 _ rfl
  have q2 := R0.cell 2 _ rfl
  have p0 := R1.cell 0 _ rfl
  have p1 := R1.cell 1 _ rfl
  have p2 := R1.cell 2 _ rfl
  have hnn : (n != n) = false := by simp
  have hvv : ((nv : Int) != (nv : Int)) = false := by simp
  have hcc : ((nc : Int) != (nc : Int)) = false := by simp
  have hVn : nv ≤ 1000 := by omega
  have hCn : nc ≤ 1000 := by omega
  clear h1 h2 hW hnv hnc hV hC ha1 hb1 ha2 hb2
  go_enter Tryz.func8, Tryz.ntmps8
  go_wp2
  clear hW' q0 q1 q2 p0 p1 p2
  go_loopw [5] (fun i wr => ∃ k : Nat, k ≤ nv ∧ i = .int .i64 (k : Int) ∧ Below W.heap.size W wr) (fun i _ => nv - (RowKit.intOf i).toNat)
  case atStart => exact ⟨0, by omega, rfl, Below.refl _ _⟩
  case round =>
    obtain ⟨k, hk, rfl, bel⟩ := hrel
    have R0' := R0.below bel (by omega)
    have R1' := R1.below bel (by omega)
    have q1 := R0'.cell 1 _ rfl
    have p1 := R1'.cell 1 _ rfl
    by_cases hlt : k < nv
    · have hkV : k < V.length := by have := HNV.out; omega
      obtain ⟨v, hx⟩ : ∃ v, V[k]? = some v := ⟨V[k], List.getElem?_eq_getElem hkV⟩
      have BR : Below w.heap.size w wr := BW.trans (bel.mono (by omega))
      obtain ⟨g, rfl, hg, Hg⟩ := OwnS.elem vtC_len HA1.out hx
      obtain ⟨g', rfl, hg', Hg'⟩ := OwnS.elem vtC_len HA2.out hx
      have rm := OwnS.room HA1.out
      have rm' := OwnS.room HA2.out
      rw [← HNV.out] at rm rm'
      have c0 : wr.cell? ⟨g, k * 4, none⟩ = some (.int .i64 v.no) := (BR.cell (p := ⟨g, k * 4, none⟩) hg).trans (Hg 0 _ rfl)
      have c1 := (BR.cell (p := ⟨g, k * 4 + 1, none⟩) hg).trans (Hg 1 _ rfl)
      have c2 := (BR.cell (p := ⟨g, k * 4 + 2, none⟩) hg).trans (Hg 2 _ rfl)
      have c3 := (BR.cell (p := ⟨g, k * 4 + 3, none⟩) hg).trans (Hg 3 _ rfl)
      have d0 : wr.cell? ⟨g', k * 4, none⟩ = some (.int .i64 v.no) := (BR.cell (p := ⟨g', k * 4, none⟩) hg').trans (Hg' 0 _ rfl)
      have d1 := (BR.cell (p := ⟨g', k * 4 + 1, none⟩) hg').trans (Hg' 1 _ rfl)
      have d2 := (BR.cell (p := ⟨g', k * 4 + 2, none⟩) hg').trans (Hg' 2 _ rfl)
      have d3 := (BR.cell (p := ⟨g', k * 4 + 3, none⟩) hg').trans (Hg' 3 _ rfl)
      clear hx Hg Hg'
      go_wp2
      go_quiet (fail)
      go_wp2
      go_roundw
      case rel => exact ⟨k + 1, by omega, by simp, bel.trans ⟨rfl, rfl, rfl, Nat.le_refl _, fun _ _ => rfl⟩⟩
      case measure => simp [RowKit.intOf]; omega
    · obtain rfl : k = nv := by omega
      go_wp2
      clear q1 p1
      go_loopw [6] (fun i wr => ∃ k : Nat, k ≤ nc ∧ i = .int .i64 (k : Int) ∧ Below W.heap.size W wr) (fun i _ => nc - (RowKit.intOf i).toNat)
      case atStart => exact ⟨0, by omega, rfl, bel⟩
      case round =>
        clear R0' R1' bel
        obtain ⟨j, hj, rfl, bel⟩ := hrel
        have R0' := R0.below bel (by omega)
        have R1' := R1.below bel (by omega)
        have q2 := R0'.cell 2 _ rfl
        have p2 := R1'.cell 2 _ rfl
        by_cases hlt : j < nc
        · have hkC : j < C.length := by have := HNC.out; omega
          obtain ⟨v, hx⟩ : ∃ v, C[j]? = some v := ⟨C[j], List.getElem?_eq_getElem hkC⟩
          have BR : Below w.heap.size w wr := BW.trans (bel.mono (by omega))
          obtain ⟨g, rfl, hg, Hg⟩ := OwnS.elem ceC_len HB1.out hx
          obtain ⟨g', rfl, hg', Hg'⟩ := OwnS.elem ceC_len HB2.out hx
          have rm := OwnS.room HB1.out
          have rm' := OwnS.room HB2.out
          rw [← HNC.out] at rm rm'
          have c0 : wr.cell? ⟨g, j * 10, none⟩ = some (.int .i64 v.no) := (BR.cell (p := ⟨g, j * 10, none⟩) hg).trans (Hg 0 _ rfl)
          have d0 : wr.cell? ⟨g', j * 10, none⟩ = some (.int .i64 v.no) := (BR.cell (p := ⟨g', j * 10, none⟩) hg').trans (Hg' 0 _ rfl)
          have c1 := (BR.cell (p := ⟨g, j * 10 + 1, none⟩) hg).trans (Hg 1 _ rfl)
          have d1 := (BR.cell (p := ⟨g', j * 10 + 1, none⟩) hg').trans (Hg' 1 _ rfl)
          have c2 := (BR.cell (p := ⟨g, j * 10 + 2, none⟩) hg).trans (Hg 2 _ rfl)
          have d2 := (BR.cell (p := ⟨g', j * 10 + 2, none⟩) hg').trans (Hg' 2 _ rfl)
          have c3 := (BR.cell (p := ⟨g, j * 10 + 3, none⟩) hg).trans (Hg 3 _ rfl)
          have d3 := (BR.cell (p := ⟨g', j * 10 + 3, none⟩) hg').trans (Hg' 3 _ rfl)
          have c4 := (BR.cell (p := ⟨g, j * 10 + 4, none⟩) hg).trans (Hg 4 _ rfl)
          have d4 := (BR.cell (p := ⟨g', j * 10 + 4, none⟩) hg').trans (Hg' 4 _ rfl)
          have c5 := (BR.cell (p := ⟨g, j * 10 + 5, none⟩) hg).trans (Hg 5 _ rfl)
          have d5 := (BR.cell (p := ⟨g', j * 10 + 5, none⟩) hg').trans (Hg' 5 _ rfl)
          have c6 := (BR.cell (p := ⟨g, j * 10 + 6, none⟩) hg).trans (Hg 6 _ rfl)
          have d6 := (BR.cell (p := ⟨g', j * 10 + 6, none⟩) hg').trans (Hg' 6 _ rfl)
          have c7 := (BR.cell (p := ⟨g, j * 10 + 7, none⟩) hg).trans (Hg 7 _ rfl)
          have d7 := (BR.cell (p := ⟨g', j * 10 + 7, none⟩) hg').trans (Hg' 7 _ rfl)
          have c8 := (BR.cell (p := ⟨g, j * 10 + 8, none⟩) hg).trans (Hg 8 _ rfl)
          have d8 := (BR.cell (p := ⟨g', j * 10 + 8, none⟩) hg').trans (Hg' 8 _ rfl)
          have c9 := (BR.cell (p := ⟨g, j * 10 + 9, none⟩) hg).trans (Hg 9 _ rfl)
          have d9 := (BR.cell (p := ⟨g', j * 10 + 9, none⟩) hg').trans (Hg' 9 _ rfl)
          clear hx Hg Hg'
          have heq := eq_cell0 v
          go_wp2
          go_quiet (fail)
          go_wp2
          go_roundw
          case rel => exact ⟨j + 1, by omega, by simp, bel.trans ⟨rfl, rfl, rfl, Nat.le_refl _, fun _ _ => rfl⟩⟩
          case measure => simp [RowKit.intOf]; omega
        · obtain rfl : j = nc := by omega
          go_wp2
          go_ret
          exact ⟨rfl, BW.trans (bel.mono (by omega))⟩
end Go.Proofs.YtjdeehffbgpenaaGreat

namespace Go.Proofs.YtjdeehffbgpenaaGreat
open Go.RowKit
set_option linter.unusedVariables false


set_option maxRecDepth 100000 in
set_option maxHeartbeats 1000000 in
theorem twin_00r (a b : Tr) (w : World) (ha : offB a) (hb : offB b) {r : Bool} (hr : r = opp a 0 b 0) :
    Calls Tryz.prog 55 #[trV a, .int .i64 0, trV b, .int .i64 0, .bool true] w fun e w' => e = .returned (.bool r) ∧ Below w.heap.size w w' := by
  have hB : ∀ o o' n, Below w.heap.size w (((w.alloc o).alloc o').drewN n) := fun o o' n => (((Below.refl _ _).alloc (Nat.le_refl _) _).alloc (by simp) _).trans ⟨rfl, rfl, rfl, Nat.le_refl _, fun _ _ => rfl⟩
  have ha := ha.all
  have hb := hb.all
  obtain ⟨a0, a1, a2, x0, y0, x1, y1, x2, y2⟩ := a
  obtain ⟨b0, b1, b2, s0, t0, s1, t1, s2, t2⟩ := b
  simp only [] at ha hb
  have hr' : r = (decide (a0 = b1) && (decide (a1 = b0) && (decide (x1 - x0 = s0 - s1) && decide (y1 - y0 = t0 - t1)))) := by
    rw [hr]; simp [opp, nx, Tr.v, Tr.x, Tr.y]
  clear hr
  obtain ⟨dx, gdx⟩ : ∃ dx, dx = x1 - x0 := ⟨_, rfl⟩
  have vdx : IntKind.i64.wrap (x1 - x0) = dx := by rw [wrap_i64, gdx]; unfold wrap64; omega
  have udx : wrap64 (x1 - x0) = dx := by rw [gdx]; unfold wrap64; omega
  obtain ⟨ex, gex⟩ : ∃ ex, ex = s0 - s1 := ⟨_, rfl⟩
  have vex : IntKind.i64.wrap (s0 - s1) = ex := by rw [wrap_i64, gex]; unfold wrap64; omega
  have uex : wrap64 (s0 - s1) = ex := by rw [gex]; unfold wrap64; omega
  obtain ⟨dy, gdy⟩ : ∃ dy, dy = y1 - y0 := ⟨_, rfl⟩
  have vdy : IntKind.i64.wrap (y1 - y0) = dy := by rw [wrap_i64, gdy]; unfold wrap64; omega
  have udy : wrap64 (y1 - y0) = dy := by rw [gdy]; unfold wrap64; omega
  obtain ⟨ey, gey⟩ : ∃ ey, ey = t0 - t1 := ⟨_, rfl⟩
  have vey : IntKind.i64.wrap (t0 - t1) = ey := by rw [wrap_i64, gey]; unfold wrap64; omega
  have uey : wrap64 (t0 - t1) = ey := by rw [gey]; unfold wrap64; omega
  rw [← gdx, ← gex, ← gdy, ← gey] at hr'
  have HR : Hid _ := hr'
  clear hr'
  clear gdx gex gdy gey ha hb
  by_cases h0 : a0 = b1
  · have e0 : (a0 == b1) = true := by simpa using h0
    by_cases h1 : a1 = b0
    · have e1 : (a1 == b0) = true := by simpa using h1
      by_cases h2 : dx = ex
      · have e2 : (dx == ex) = true := by simpa using h2
        have e3 : (dy == ey) = r := by rw [HR.out, decide_eq_true h0, decide_eq_true h1, decide_eq_true h2]; rfl
        clear h0 h1 h2 HR
        go_enter Tryz.func55, Tryz.ntmps55
        go_wp2
        dsimp only [List.append]
        go_quiet (fail)
        go_wp2
        go_ret
        exact ⟨by rw [← e3]; rfl, hB _ _ _⟩
      · have e2 : (dx == ex) = false := by simpa using h2
        obtain rfl : r = false := by rw [HR.out, decide_eq_false h2]; simp
        clear h0 h1 h2 HR
        go_enter Tryz.func55, Tryz.ntmps55
        go_wp2
        dsimp only [List.append]
        go_quiet (fail)
        go_wp2
        go_ret
        exact ⟨rfl, hB _ _ _⟩
    · have e1 : (a1 == b0) = false := by simpa using h1
      obtain rfl : r = false := by rw [HR.out, decide_eq_false h1]; simp
      clear h0 h1 HR
      go_enter Tryz.func55, Tryz.ntmps55
      go_wp2
      dsimp only [List.append]
      go_quiet (fail)
      go_wp2
      go_ret
      exact ⟨rfl, hB _ _ _⟩
  · have e0 : (a0 == b1) = false := by simpa using h0
    obtain rfl : r = false := by rw [HR.out, decide_eq_false h0]; simp
    clear h0 HR
    go_enter Tryz.func55, Tryz.ntmps55
    go_wp2
    dsimp only [List.append]
    go_quiet (fail)
    go_wp2
    go_ret
    exact ⟨rfl, hB _ _ _⟩
set_option maxRecDepth 100000 in
set_option maxHeartbeats 1000000 in
theorem twin_01r (a b : Tr) (w : World) (ha : offB a) (hb : offB b) {r : Bool} (hr : r = opp a 0 b 1) :
    Calls Tryz.prog 55 #[trV a, .int .i64 0, trV b, .int .i64 1, .bool true] w fun e w' => e = .returned (.bool r) ∧ Below w.heap.size w w' := by
  have hB : ∀ o o' n, Below w.heap.size w (((w.alloc o).alloc o').drewN n) := fun o o' n => (((Below.refl _ _).alloc (Nat.le_refl _) _).alloc (by simp) _).trans ⟨rfl, rfl, rfl, Nat.le_refl _, fun _ _ => rfl⟩
  have ha := ha.all
  have hb := hb.all
  obtain ⟨a0, a1, a2, x0, y0, x1, y1, x2, y2⟩ := a
  obtain ⟨b0, b1, b2, s0, t0, s1, t1, s2, t2⟩ := b
  simp only [] at ha hb
  have hr' : r = (decide (a0 = b2) && (decide (a1 = b1) && (decide (x1 - x0 = s1 - s2) && decide (y1 - y0 = t1 - t2)))) := by
    rw [hr]; simp [opp, nx, Tr.v, Tr.x, Tr.y]
  clear hr
  obtain ⟨dx, gdx⟩ : ∃ dx, dx = x1 - x0 := ⟨_, rfl⟩
  have vdx : IntKind.i64.wrap (x1 - x0) = dx := by rw [wrap_i64, gdx]; unfold wrap64; omega
  have udx : wrap64 (x1 - x0) = dx := by rw [gdx]; unfold wrap64; omega
  obtain ⟨ex, gex⟩ : ∃ ex, ex = s1 - s2 := ⟨_, rfl⟩
  have vex : IntKind.i64.wrap (s1 - s2) = ex := by rw [wrap_i64, gex]; unfold wrap64; omega
  have uex : wrap64 (s1 - s2) = ex := by rw [gex]; unfold wrap64; omega
  obtain ⟨dy, gdy⟩ : ∃ dy, dy = y1 - y0 := ⟨_, rfl⟩
  have vdy : IntKind.i64.wrap (y1 - y0) = dy := by rw [wrap_i64, gdy]; unfold wrap64; omega
  have udy : wrap64 (y1 - y0) = dy := by rw [gdy]; unfold wrap64; omega
  obtain ⟨ey, gey⟩ : ∃ ey, ey = t1 - t2 := ⟨_, rfl⟩
  have vey : IntKind.i64.wrap (t1 - t2) = ey := by rw [wrap_i64, gey]; unfold wrap64; omega
  have uey : wrap64 (t1 - t2) = ey := by rw [gey]; unfold wrap64; omega
  rw [← gdx, ← gex, ← gdy, ← gey] at hr'
  have HR : Hid _ := hr'
  clear hr'
  clear gdx gex gdy gey ha hb
  by_cases h0 : a0 = b2
  · have e0 : (a0 == b2) = true := by simpa using h0
    by_cases h1 : a1 = b1
    · have e1 : (a1 == b1) = true := by simpa using h1
      by_cases h2 : dx = ex
      · have e2 : (dx == ex) = true := by simpa using h2
        have e3 : (dy == ey) = r := by rw [HR.out, decide_eq_true h0, decide_eq_true h1, decide_eq_true h2]; rfl
        clear h0 h1 h2 HR
        go_enter Tryz.func55, Tryz.ntmps55
        go_wp2
        dsimp only [List.append]
        go_quiet (fail)
        go_wp2
        go_ret
        exact ⟨by rw [← e3]; rfl, hB _ _ _⟩
      · have e2 : (dx == ex) = false := by simpa using h2
        obtain rfl : r = false := by rw [HR.out, decide_eq_false h2]; simp
        clear h0 h1 h2 HR
        go_enter Tryz.func55, Tryz.ntmps55
        go_wp2
        dsimp only [List.append]
        go_quiet (fail)
        go_wp2
        go_ret
        exact ⟨rfl, hB _ _ _⟩
    · have e1 : (a1 == b1) = false := by simpa using h1
      obtain rfl : r = false := by rw [HR.out, decide_eq_false h1]; simp
      clear h0 h1 HR
      go_enter Tryz.func55, Tryz.ntmps55
      go_wp2
      dsimp only [List.append]
      go_quiet (fail)
      go_wp2
      go_ret
      exact ⟨rfl, hB _ _ _⟩
  · have e0 : (a0 == b2) = false := by simpa using h0
    obtain rfl : r = false := by rw [HR.out, decide_eq_false h0]; simp
    clear h0 HR
    go_enter Tryz.func55, Tryz.ntmps55
    go_wp2
    dsimp only [List.append]
    go_quiet (fail)
    go_wp2
    go_ret
    exact ⟨rfl, hB _ _ _⟩
set_option maxRecDepth 100000 in
set_option maxHeartbeats 1000000 in
theorem twin_02r (a b : Tr) (w : World) (ha : offB a) (hb : offB b) {r : Bool} (hr : r = opp a 0 b 2) :
    Calls Tryz.prog 55 #[trV a, .int .i64 0, trV b, .int .i64 2, .bool true] w fun e w' => e = .returned (.bool r) ∧ Below w.heap.size w w' := by
  have hB : ∀ o o' n, Below w.heap.size w (((w.alloc o).alloc o').drewN n) := fun o o' n => (((Below.refl _ _).alloc (Nat.le_refl _) _).alloc (by simp) _).trans ⟨rfl, rfl, rfl, Nat.le_refl _, fun _ _ => rfl⟩
  have ha := ha.all
  have hb := hb.all
  obtain ⟨a0, a1, a2, x0, y0, x1, y1, x2, y2⟩ := a
  obtain ⟨b0, b1, b2, s0, t0, s1, t1, s2, t2⟩ := b
  simp only [] at ha hb
  have hr' : r = (decide (a0 = b0) && (decide (a1 = b2) && (decide (x1 - x0 = s2 - s0) && decide (y1 - y0 = t2 - t0)))) := by
    rw [hr]; simp [opp, nx, Tr.v, Tr.x, Tr.y]
  clear hr
  obtain ⟨dx, gdx⟩ : ∃ dx, dx = x1 - x0 := ⟨_, rfl⟩
  have vdx : IntKind.i64.wrap (x1 - x0) = dx := by rw [wrap_i64, gdx]; unfold wrap64; omega
  have udx : wrap64 (x1 - x0) = dx := by rw [gdx]; unfold wrap64; omega
  obtain ⟨ex, gex⟩ : ∃ ex, ex = s2 - s0 := ⟨_, rfl⟩
  have vex : IntKind.i64.wrap (s2 - s0) = ex := by rw [wrap_i64, gex]; unfold wrap64; omega
  have uex : wrap64 (s2 - s0) = ex := by rw [gex]; unfold wrap64; omega
  obtain ⟨dy, gdy⟩ : ∃ dy, dy = y1 - y0 := ⟨_, rfl⟩
  have vdy : IntKind.i64.wrap (y1 - y0) = dy := by rw [wrap_i64, gdy]; unfold wrap64; omega
  have udy : wrap64 (y1 - y0) = dy := by rw [gdy]; unfold wrap64; omega
  obtain ⟨ey, gey⟩ : ∃ ey, ey = t2 - t0 := ⟨_, rfl⟩
  have vey : IntKind.i64.wrap (t2 - t0) = ey := by rw [wrap_i64, gey]; unfold wrap64; omega
  have uey : wrap64 (t2 - t0) = ey := by rw [gey]; unfold wrap64; omega
  rw [← gdx, ← gex, ← gdy, ← gey] at hr'
  have HR : Hid _ := hr'
  clear hr'
  clear gdx gex gdy gey ha hb
  by_cases h0 : a0 = b0
  · have e0 : (a0 == b0) = true := by simpa using h0
    by_cases h1 : a1 = b2
    · have e1 : (a1 == b2) = true := by simpa using h1
      by_cases h2 : dx = ex
      · have e2 : (dx == ex) = true := by simpa using h2
        have e3 : (dy == ey) = r := by rw [HR.out, decide_eq_true h0, decide_eq_true h1, decide_eq_true h2]; rfl
        clear h0 h1 h2 HR
        go_enter Tryz.func55, Tryz.ntmps55
        go_wp2
        dsimp only [List.append]
        go_quiet (fail)
        go_wp2
        go_ret
        exact ⟨by rw [← e3]; rfl, hB _ _ _⟩
      · have e2 : (dx == ex) = false := by simpa using h2
        obtain rfl : r = false := by rw [HR.out, decide_eq_false h2]; simp
        clear h0 h1 h2 HR
        go_enter Tryz.func55, Tryz.ntmps55
        go_wp2
        dsimp only [List.append]
        go_quiet (fail)
        go_wp2
        go_ret
        exact ⟨rfl, hB _ _ _⟩
    · have e1 : (a1 == b2) = false := by simpa using h1
      obtain rfl : r = false := by rw [HR.out, decide_eq_false h1]; simp
      clear h0 h1 HR
      go_enter Tryz.func55, Tryz.ntmps55
      go_wp2
      dsimp only [List.append]
      go_quiet (fail)
      go_wp2
      go_ret
      exact ⟨rfl, hB _ _ _⟩
  · have e0 : (a0 == b0) = false := by simpa using h0
    obtain rfl : r = false := by rw [HR.out, decide_eq_false h0]; simp
    clear h0 HR
    go_enter Tryz.func55, Tryz.ntmps55
    go_wp2
    dsimp only [List.append]
    go_quiet (fail)
    go_wp2
    go_ret
    exact ⟨rfl, hB _ _ _⟩
end Go.Proofs.YtjdeehffbgpenaaGreat

namespace Go.Proofs.YtjdeehffbgpenaaGreat
open Go.RowKit
set_option linter.unusedVariables false


set_option maxRecDepth 100000 in
set_option maxHeartbeats 1000000 in
theorem twin_10r (a b : Tr) (w : World) (ha : offB a) (hb : offB b) {r : Bool} (hr : r = opp a 1 b 0) :
    Calls Tryz.prog 55 #[trV a, .int .i64 1, trV b, .int .i64 0, .bool true] w fun e w' => e = .returned (.bool r) ∧ Below w.heap.size w w' := by
  have hB : ∀ o o' n, Below w.heap.size w (((w.alloc o).alloc o').drewN n) := fun o o' n => (((Below.refl _ _).alloc (Nat.le_refl _) _).alloc (by simp) _).trans ⟨rfl, rfl, rfl, Nat.le_refl _, fun _ _ => rfl⟩
  have ha := ha.all
  have hb := hb.all
  obtain ⟨a0, a1, a2, x0, y0, x1, y1, x2, y2⟩ := a
  obtain ⟨b0, b1, b2, s0, t0, s1, t1, s2, t2⟩ := b
  simp only [] at ha hb
  have hr' : r = (decide (a1 = b1) && (decide (a2 = b0) && (decide (x2 - x1 = s0 - s1) && decide (y2 - y1 = t0 - t1)))) := by
    rw [hr]; simp [opp, nx, Tr.v, Tr.x, Tr.y]
  clear hr
  obtain ⟨dx, gdx⟩ : ∃ dx, dx = x2 - x1 := ⟨_, rfl⟩
  have vdx : IntKind.i64.wrap (x2 - x1) = dx := by rw [wrap_i64, gdx]; unfold wrap64; omega
  have udx : wrap64 (x2 - x1) = dx := by rw [gdx]; unfold wrap64; omega
  obtain ⟨ex, gex⟩ : ∃ ex, ex = s0 - s1 := ⟨_, rfl⟩
  have vex : IntKind.i64.wrap (s0 - s1) = ex := by rw [wrap_i64, gex]; unfold wrap64; omega
  have uex : wrap64 (s0 - s1) = ex := by rw [gex]; unfold wrap64; omega
  obtain ⟨dy, gdy⟩ : ∃ dy, dy = y2 - y1 := ⟨_, rfl⟩
  have vdy : IntKind.i64.wrap (y2 - y1) = dy := by rw [wrap_i64, gdy]; unfold wrap64; omega
  have udy : wrap64 (y2 - y1) = dy := by rw [gdy]; unfold wrap64; omega
  obtain ⟨ey, gey⟩ : ∃ ey, ey = t0 - t1 := ⟨_, rfl⟩
  have vey : IntKind.i64.wrap (t0 - t1) = ey := by rw [wrap_i64, gey]; unfold wrap64; omega
  have uey : wrap64 (t0 - t1) = ey := by rw [gey]; unfold wrap64; omega
  rw [← gdx, ← gex, ← gdy, ← gey] at hr'
  have HR : Hid _ := hr'
  clear hr'
  clear gdx gex gdy gey ha hb
  by_cases h0 : a1 = b1
  · have e0 : (a1 == b1) = true := by simpa using h0
    by_cases h1 : a2 = b0
    · have e1 : (a2 == b0) = true := by simpa using h1
      by_cases h2 : dx = ex
      · have e2 : (dx == ex) = true := by simpa using h2
        have e3 : (dy == ey) = r := by rw [HR.out, decide_eq_true h0, decide_eq_true h1, decide_eq_true h2]; rfl
        clear h0 h1 h2 HR
        go_enter Tryz.func55, Tryz.ntmps55
        go_wp2
        dsimp only [List.append]
        go_quiet (fail)
        go_wp2
        go_ret
        exact ⟨by rw [← e3]; rfl, hB _ _ _⟩
      · have e2 : (dx == ex) = false := by simpa using h2
        obtain rfl : r = false := by rw [HR.out, decide_eq_false h2]; simp
        clear h0 h1 h2 HR
        go_enter Tryz.func55, Tryz.ntmps55
        go_wp2
        dsimp only [List.append]
        go_quiet (fail)
        go_wp2
        go_ret
        exact ⟨rfl, hB _ _ _⟩
    · have e1 : (a2 == b0) = false := by simpa using h1
      obtain rfl : r = false := by rw [HR.out, decide_eq_false h1]; simp
      clear h0 h1 HR
      go_enter Tryz.func55, Tryz.ntmps55
      go_wp2
      dsimp only [List.append]
      go_quiet (fail)
      go_wp2
      go_ret
      exact ⟨rfl, hB _ _ _⟩
  · have e0 : (a1 == b1) = false := by simpa using h0
    obtain rfl : r = false := by rw [HR.out, decide_eq_false h0]; simp
    clear h0 HR
    go_enter Tryz.func55, Tryz.ntmps55
    go_wp2
    dsimp only [List.append]
    go_quiet (fail)
    go_wp2
    go_ret
    exact ⟨rfl, hB _ _ _⟩
set_option maxRecDepth 100000 in
set_option maxHeartbeats 1000000 in
theorem twin_11r (a b : Tr) (w : World) (ha : offB a) (hb : offB b) {r : Bool} (hr : r = opp a 1 b 1) :
    Calls Tryz.prog 55 #[trV a, .int .i64 1, trV b, .int .i64 1, .bool true] w fun e w' => e = .returned (.bool r) ∧ Below w.heap.size w w' := by
  have hB : ∀ o o' n, Below w.heap.size w (((w.alloc o).alloc o').drewN n) := fun o o' n => (((Below.refl _ _).alloc (Nat.le_refl _) _).alloc (by simp) _).trans ⟨rfl, rfl, rfl, Nat.le_refl _, fun _ _ => rfl⟩
  have ha := ha.all
  have hb := hb.all
  obtain ⟨a0, a1, a2, x0, y0, x1, y1, x2, y2⟩ := a
  obtain ⟨b0, b1, b2, s0, t0, s1, t1, s2, t2⟩ := b
  simp only [] at ha hb
  have hr' : r = (decide (a1 = b2) && (decide (a2 = b1) && (decide (x2 - x1 = s1 - s2) && decide (y2 - y1 = t1 - t2)))) := by
    rw [hr]; simp [opp, nx, Tr.v, Tr.x, Tr.y]
  clear hr
  obtain ⟨dx, gdx⟩ : ∃ dx, dx = x2 - x1 := ⟨_, rfl⟩
  have vdx : IntKind.i64.wrap (x2 - x1) = dx := by rw [wrap_i64, gdx]; unfold wrap64; omega
  have udx : wrap64 (x2 - x1) = dx := by rw [gdx]; unfold wrap64; omega
  obtain ⟨ex, gex⟩ : ∃ ex, ex = s1 - s2 := ⟨_, rfl⟩
  have vex : IntKind.i64.wrap (s1 - s2) = ex := by rw [wrap_i64, gex]; unfold wrap64; omega
  have uex : wrap64 (s1 - s2) = ex := by rw [gex]; unfold wrap64; omega
  obtain ⟨dy, gdy⟩ : ∃ dy, dy = y2 - y1 := ⟨_, rfl⟩
  have vdy : IntKind.i64.wrap (y2 - y1) = dy := by rw [wrap_i64, gdy]; unfold wrap64; omega
  have udy : wrap64 (y2 - y1) = dy := by rw [gdy]; unfold wrap64; omega
  obtain ⟨ey, gey⟩ : ∃ ey, ey = t1 - t2 := ⟨_, rfl⟩
  have vey : IntKind.i64.wrap (t1 - t2) = ey := by rw [wrap_i64, gey]; unfold wrap64; omega
  have uey : wrap64 (t1 - t2) = ey := by rw [gey]; unfold wrap64; omega
  rw [← gdx, ← gex, ← gdy, ← gey] at hr'
  have HR : Hid _ := hr'
  clear hr'
  clear gdx gex gdy gey ha hb
  by_cases h0 : a1 = b2
  · have e0 : (a1 == b2) = true := by simpa using h0
    by_cases h1 : a2 = b1
    · have e1 : (a2 == b1) = true := by simpa using h1
      by_cases h2 : dx = ex
      · have e2 : (dx == ex) = true := by simpa using h2
        have e3 : (dy == ey) = r := by rw [HR.out, decide_eq_true h0, decide_eq_true h1, decide_eq_true h2]; rfl
        clear h0 h1 h2 HR
        go_enter Tryz.func55, Tryz.ntmps55
        go_wp2
        dsimp only [List.append]
        go_quiet (fail)
        go_wp2
        go_ret
        exact ⟨by rw [← e3]; rfl, hB _ _ _⟩
      · have e2 : (dx == ex) = false := by simpa using h2
        obtain rfl : r = false := by rw [HR.out, decide_eq_false h2]; simp
        clear h0 h1 h2 HR
        go_enter Tryz.func55, Tryz.ntmps55
        go_wp2
        dsimp only [List.append]
        go_quiet (fail)
        go_wp2
        go_ret
        exact ⟨rfl, hB _ _ _⟩
    · have e1 : (a2 == b1) = false := by simpa using h1
      obtain rfl : r = false := by rw [HR.out, decide_eq_false h1]; simp
      clear h0 h1 HR
      go_enter Tryz.func55, Tryz.ntmps55
      go_wp2
      dsimp only [List.append]
      go_quiet (fail)
      go_wp2
      go_ret
      exact ⟨rfl, hB _ _ _⟩
  · have e0 : (a1 == b2) = false := by simpa using h0
    obtain rfl : r = false := by rw [HR.out, decide_eq_false h0]; simp
    clear h0 HR
    go_enter Tryz.func55, Tryz.ntmps55
    go_wp2
    dsimp only [List.append]
    go_quiet (fail)
    go_wp2
    go_ret
    exact ⟨rfl, hB _ _ _⟩
set_option maxRecDepth 100000 in
set_option maxHeartbeats 1000000 in
theorem twin_12r (a b : Tr) (w : World) (ha : offB a) (hb : offB b) {r : Bool} (hr : r = opp a 1 b 2) :
    Calls Tryz.prog 55 #[trV a, .int .i64 1, trV b, .int .i64 2, .bool true] w fun e w' => e = .returned (.bool r) ∧ Below w.heap.size w w' := by
  have hB : ∀ o o' n, Below w.heap.size w (((w.alloc o).alloc o').drewN n) := fun o o' n => (((Below.refl _ _).alloc (Nat.le_refl _) _).alloc (by simp) _).trans ⟨rfl, rfl, rfl, Nat.le_refl _, fun _ _ => rfl⟩
  have ha := ha.all
  have hb := hb.all
  obtain ⟨a0, a1, a2, x0, y0, x1, y1, x2, y2⟩ := a
  obtain ⟨b0, b1, b2, s0, t0, s1, t1, s2, t2⟩ := b
  simp only [] at ha hb
  have hr' : r = (decide (a1 = b0) && (decide (a2 = b2) && (decide (x2 - x1 = s2 - s0) && decide (y2 - y1 = t2 - t0)))) := by
    rw [hr]; simp [opp, nx, Tr.v, Tr.x, Tr.y]
  clear hr
  obtain ⟨dx, gdx⟩ : ∃ dx, dx = x2 - x1 := ⟨_, rfl⟩
  have vdx : IntKind.i64.wrap (x2 - x1) = dx := by rw [wrap_i64, gdx]; unfold wrap64; omega
  have udx : wrap64 (x2 - x1) = dx := by rw [gdx]; unfold wrap64; omega
  obtain ⟨ex, gex⟩ : ∃ ex, ex = s2 - s0 := ⟨_, rfl⟩
  have vex : IntKind.i64.wrap (s2 - s0) = ex := by rw [wrap_i64, gex]; unfold wrap64; omega
  have uex : wrap64 (s2 - s0) = ex := by rw [gex]; unfold wrap64; omega
  obtain ⟨dy, gdy⟩ : ∃ dy, dy = y2 - y1 := ⟨_, rfl⟩
  have vdy : IntKind.i64.wrap (y2 - y1) = dy := by rw [wrap_i64, gdy]; unfold wrap64; omega
  have udy : wrap64 (y2 - y1) = dy := by rw [gdy]; unfold wrap64; omega
  obtain ⟨ey, gey⟩ : ∃ ey, ey = t2 - t0 := ⟨_, rfl⟩
  have vey : IntKind.i64.wrap (t2 - t0) = ey := by rw [wrap_i64, gey]; unfold wrap64; omega
  have uey : wrap64 (t2 - t0) = ey := by rw [gey]; unfold wrap64; omega
  rw [← gdx, ← gex, ← gdy, ← gey] at hr'
  have HR : Hid _ := hr'
  clear hr'
  clear gdx gex gdy gey ha hb
  by_cases h0 : a1 = b0
  · have e0 : (a1 == b0) = true := by simpa using h0
    by_cases h1 : a2 = b2
    · have e1 : (a2 == b2) = true := by simpa using h1
      by_cases h2 : dx = ex
      · have e2 : (dx == ex) = true := by simpa using h2
        have e3 : (dy == ey) = r := by rw [HR.out, decide_eq_true h0, decide_eq_true h1, decide_eq_true h2]; rfl
        clear h0 h1 h2 HR
        go_enter Tryz.func55, Tryz.ntmps55
        go_wp2
        dsimp only [List.append]
        go_quiet (fail)
        go_wp2
        go_ret
        exact ⟨by rw [← e3]; rfl, hB _ _ _⟩
      · have e2 : (dx == ex) = false := by simpa using h2
        obtain rfl : r = false := by rw [HR.out, decide_eq_false h2]; simp
        clear h0 h1 h2 HR
        go_enter Tryz.func55, Tryz.ntmps55
        go_wp2
        dsimp only [List.append]
        go_quiet (fail)
        go_wp2
        go_ret
        exact ⟨rfl, hB _ _ _⟩
    · have e1 : (a2 == b2) = false := by simpa using h1
      obtain rfl : r = false := by rw [HR.out, decide_eq_false h1]; simp
      clear h0 h1 HR
      go_enter Tryz.func55, Tryz.ntmps55
      go_wp2
      dsimp only [List.append]
      go_quiet (fail)
      go_wp2
      go_ret
      exact ⟨rfl, hB _ _ _⟩
  · have e0 : (a1 == b0) = false := by simpa using h0
    obtain rfl : r = false := by rw [HR.out, decide_eq_false h0]; simp
    clear h0 HR
    go_enter Tryz.func55, Tryz.ntmps55
    go_wp2
    dsimp only [List.append]
    go_quiet (fail)
    go_wp2
    go_ret
    exact ⟨rfl, hB _ _ _⟩
end Go.Proofs.YtjdeehffbgpenaaGreat

namespace Go.Proofs.YtjdeehffbgpenaaGreat
open Go.RowKit
set_option linter.unusedVariables false


set_option maxRecDepth 100000 in
set_option maxHeartbeats 1000000 in
theorem twin_20r (a b : Tr) (w : World) (ha : offB a) (hb : offB b) {r : Bool} (hr : r = opp a 2 b 0) :
    Calls Tryz.prog 55 #[trV a, .int .i64 2, trV b, .int .i64 0, .bool true] w fun e w' => e = .returned (.bool r) ∧ Below w.heap.size w w' := by
  have hB : ∀ o o' n, Below w.heap.size w (((w.alloc o).alloc o').drewN n) := fun o o' n => (((Below.refl _ _).alloc (Nat.le_refl _) _).alloc (by simp) _).trans ⟨rfl, rfl, rfl, Nat.le_refl _, fun _ _ => rfl⟩
  have ha := ha.all
  have hb := hb.all
  obtain ⟨a0, a1, a2, x0, y0, x1, y1, x2, y2⟩ := a
  obtain ⟨b0, b1, b2, s0, t0, s1, t1, s2, t2⟩ := b
  simp only [] at ha hb
  have hr' : r = (decide (a2 = b1) && (decide (a0 = b0) && (decide (x0 - x2 = s0 - s1) && decide (y0 - y2 = t0 - t1)))) := by
    rw [hr]; simp [opp, nx, Tr.v, Tr.x, Tr.y]
  clear hr
  obtain ⟨dx, gdx⟩ : ∃ dx, dx = x0 - x2 := ⟨_, rfl⟩
  have vdx : IntKind.i64.wrap (x0 - x2) = dx := by rw [wrap_i64, gdx]; unfold wrap64; omega
  have udx : wrap64 (x0 - x2) = dx := by rw [gdx]; unfold wrap64; omega
  obtain ⟨ex, gex⟩ : ∃ ex, ex = s0 - s1 := ⟨_, rfl⟩
  have vex : IntKind.i64.wrap (s0 - s1) = ex := by rw [wrap_i64, gex]; unfold wrap64; omega
  have uex : wrap64 (s0 - s1) = ex := by rw [gex]; unfold wrap64; omega
  obtain ⟨dy, gdy⟩ : ∃ dy, dy = y0 - y2 := ⟨_, rfl⟩
  have vdy : IntKind.i64.wrap (y0 - y2) = dy := by rw [wrap_i64, gdy]; unfold wrap64; omega
  have udy : wrap64 (y0 - y2) = dy := by rw [gdy]; unfold wrap64; omega
  obtain ⟨ey, gey⟩ : ∃ ey, ey = t0 - t1 := ⟨_, rfl⟩
  have vey : IntKind.i64.wrap (t0 - t1) = ey := by rw [wrap_i64, gey]; unfold wrap64; omega
  have uey : wrap64 (t0 - t1) = ey := by rw [gey]; unfold wrap64; omega
  rw [← gdx, ← gex, ← gdy, ← gey] at hr'
  have HR : Hid _ := hr'
  clear hr'
  clear gdx gex gdy gey ha hb
  by_cases h0 : a2 = b1
  · have e0 : (a2 == b1) = true := by simpa using h0
    by_cases h1 : a0 = b0
    · have e1 : (a0 == b0) = true := by simpa using h1
      by_cases h2 : dx = ex
      · have e2 : (dx == ex) = true := by simpa using h2
        have e3 : (dy == ey) = r := by rw [HR.out, decide_eq_true h0, decide_eq_true h1, decide_eq_true h2]; rfl
        clear h0 h1 h2 HR
        go_enter Tryz.func55, Tryz.ntmps55
        go_wp2
        dsimp only [List.append]
        go_quiet (fail)
        go_wp2
        go_ret
        exact ⟨by rw [← e3]; rfl, hB _ _ _⟩
      · have e2 : (dx == ex) = false := by simpa using h2
        obtain rfl : r = false := by rw [HR.out, decide_eq_false h2]; simp
        clear h0 h1 h2 HR
        go_enter Tryz.func55, Tryz.ntmps55
        go_wp2
        dsimp only [List.append]
        go_quiet (fail)
        go_wp2
        go_ret
        exact ⟨rfl, hB _ _ _⟩
    · have e1 : (a0 == b0) = false := by simpa using h1
      obtain rfl : r = false := by rw [HR.out, decide_eq_false h1]; simp
      clear h0 h1 HR
      go_enter Tryz.func55, Tryz.ntmps55
      go_wp2
      dsimp only [List.append]
      go_quiet (fail)
      go_wp2
      go_ret
      exact ⟨rfl, hB _ _ _⟩
  · have e0 : (a2 == b1) = false := by simpa using h0
    obtain rfl : r = false := by rw [HR.out, decide_eq_false h0]; simp
    clear h0 HR
    go_enter Tryz.func55, Tryz.ntmps55
    go_wp2
    dsimp only [List.append]
    go_quiet (fail)
    go_wp2
    go_ret
    exact ⟨rfl, hB _ _ _⟩
set_option maxRecDepth 100000 in
set_option maxHeartbeats 1000000 in
theorem twin_21r (a b : Tr) (w : World) (ha : offB a) (hb : offB b) {r : Bool} (hr : r = opp a 2 b 1) :
    Calls Tryz.prog 55 #[trV a, .int .i64 2, trV b, .int .i64 1, .bool true] w fun e w' => e = .returned (.bool r) ∧ Below w.heap.size w w' := by
  have hB : ∀ o o' n, Below w.heap.size w (((w.alloc o).alloc o').drewN n) := fun o o' n => (((Below.refl _ _).alloc (Nat.le_refl _) _).alloc (by simp) _).trans ⟨rfl, rfl, rfl, Nat.le_refl _, fun _ _ => rfl⟩
  have ha := ha.all
  have hb := hb.all
  obtain ⟨a0, a1, a2, x0, y0, x1, y1, x2, y2⟩ := a
  obtain ⟨b0, b1, b2, s0, t0, s1, t1, s2, t2⟩ := b
  simp only [] at ha hb
  have hr' : r = (decide (a2 = b2) && (decide (a0 = b1) && (decide (x0 - x2 = s1 - s2) && decide (y0 - y2 = t1 - t2)))) := by
    rw [hr]; simp [opp, nx, Tr.v, Tr.x, Tr.y]
  clear hr
  obtain ⟨dx, gdx⟩ : ∃ dx, dx = x0 - x2 := ⟨_, rfl⟩
  have vdx : IntKind.i64.wrap (x0 - x2) = dx := by rw [wrap_i64, gdx]; unfold wrap64; omega
  have udx : wrap64 (x0 - x2) = dx := by rw [gdx]; unfold wrap64; omega
  obtain ⟨ex, gex⟩ : ∃ ex, ex = s1 - s2 := ⟨_, rfl⟩
  have vex : IntKind.i64.wrap (s1 - s2) = ex := by rw [wrap_i64, gex]; unfold wrap64; omega
  have uex : wrap64 (s1 - s2) = ex := by rw [gex]; unfold wrap64; omega
  obtain ⟨dy, gdy⟩ : ∃ dy, dy = y0 - y2 := ⟨_, rfl⟩
  have vdy : IntKind.i64.wrap (y0 - y2) = dy := by rw [wrap_i64, gdy]; unfold wrap64; omega
  have udy : wrap64 (y0 - y2) = dy := by rw [gdy]; unfold wrap64; omega
  obtain ⟨ey, gey⟩ : ∃ ey, ey = t1 - t2 := ⟨_, rfl⟩
  have vey : IntKind.i64.wrap (t1 - t2) = ey := by rw [wrap_i64, gey]; unfold wrap64; omega
  have uey : wrap64 (t1 - t2) = ey := by rw [gey]; unfold wrap64; omega
  rw [← gdx, ← gex, ← gdy, ← gey] at hr'
  have HR : Hid _ := hr'
  clear hr'
  clear gdx gex gdy gey ha hb
  by_cases h0 : a2 = b2
  · have e0 : (a2 == b2) = true := by simpa using h0
    by_cases h1 : a0 = b1
    · have e1 : (a0 == b1) = true := by simpa using h1
      by_cases h2 : dx = ex
      · have e2 : (dx == ex) = true := by simpa using h2
        have e3 : (dy == ey) = r := by rw [HR.out, decide_eq_true h0, decide_eq_true h1, decide_eq_true h2]; rfl
        clear h0 h1 h2 HR
        go_enter Tryz.func55, Tryz.ntmps55
        go_wp2
        dsimp only [List.append]
        go_quiet (fail)
        go_wp2
        go_ret
        exact ⟨by rw [← e3]; rfl, hB _ _ _⟩
      · have e2 : (dx == ex) = false := by simpa using h2
        obtain rfl : r = false := by rw [HR.out, decide_eq_false h2]; simp
        clear h0 h1 h2 HR
        go_enter Tryz.func55, Tryz.ntmps55
        go_wp2
        dsimp only [List.append]
        go_quiet (fail)
        go_wp2
        go_ret
        exact ⟨rfl, hB _ _ _⟩
    · have e1 : (a0 == b1) = false := by simpa using h1
      obtain rfl : r = false := by rw [HR.out, decide_eq_false h1]; simp
      clear h0 h1 HR
      go_enter Tryz.func55, Tryz.ntmps55
      go_wp2
      dsimp only [List.append]
      go_quiet (fail)
      go_wp2
      go_ret
      exact ⟨rfl, hB _ _ _⟩
  · have e0 : (a2 == b2) = false := by simpa using h0
    obtain rfl : r = false := by rw [HR.out, decide_eq_false h0]; simp
    clear h0 HR
    go_enter Tryz.func55, Tryz.ntmps55
    go_wp2
    dsimp only [List.append]
    go_quiet (fail)
    go_wp2
    go_ret
    exact ⟨rfl, hB _ _ _⟩
set_option maxRecDepth 100000 in
set_option maxHeartbeats 1000000 in
theorem twin_22r (a b : Tr) (w : World) (ha : offB a) (hb : offB b) {r : Bool} (hr : r = opp a 2 b 2) :
    Calls Tryz.prog 55 #[trV a, .int .i64 2, trV b, .int .i64 2, .bool true] w fun e w' => e = .returned (.bool r) ∧ Below w.heap.size w w' := by
  have hB : ∀ o o' n, Below w.heap.size w (((w.alloc o).alloc o').drewN n) := fun o o' n => (((Below.refl _ _).alloc (Nat.le_refl _) _).alloc (by simp) _).trans ⟨rfl, rfl, rfl, Nat.le_refl _, fun _ _ => rfl⟩
  have ha := ha.all
  have hb := hb.all
  obtain ⟨a0, a1, a2, x0, y0, x1, y1, x2, y2⟩ := a
  obtain ⟨b0, b1, b2, s0, t0, s1, t1, s2, t2⟩ := b
  simp only [] at ha hb
  have hr' : r = (decide (a2 = b0) && (decide (a0 = b2) && (decide (x0 - x2 = s2 - s0) && decide (y0 - y2 = t2 - t0)))) := by
    rw [hr]; simp [opp, nx, Tr.v, Tr.x, Tr.y]
  clear hr
  obtain ⟨dx, gdx⟩ : ∃ dx, dx = x0 - x2 := ⟨_, rfl⟩
  have vdx : IntKind.i64.wrap (x0 - x2) = dx := by rw [wrap_i64, gdx]; unfold wrap64; omega
  have udx : wrap64 (x0 - x2) = dx := by rw [gdx]; unfold wrap64; omega
  obtain ⟨ex, gex⟩ : ∃ ex, ex = s2 - s0 := ⟨_, rfl⟩
  have vex : IntKind.i64.wrap (s2 - s0) = ex := by rw [wrap_i64, gex]; unfold wrap64; omega
  have uex : wrap64 (s2 - s0) = ex := by rw [gex]; unfold wrap64; omega
  obtain ⟨dy, gdy⟩ : ∃ dy, dy = y0 - y2 := ⟨_, rfl⟩
  have vdy : IntKind.i64.wrap (y0 - y2) = dy := by rw [wrap_i64, gdy]; unfold wrap64; omega
  have udy : wrap64 (y0 - y2) = dy := by rw [gdy]; unfold wrap64; omega
  obtain ⟨ey, gey⟩ : ∃ ey, ey = t2 - t0 := ⟨_, rfl⟩
  have vey : IntKind.i64.wrap (t2 - t0) = ey := by rw [wrap_i64, gey]; unfold wrap64; omega
  have uey : wrap64 (t2 - t0) = ey := by rw [gey]; unfold wrap64; omega
  rw [← gdx, ← gex, ← gdy, ← gey] at hr'
  have HR : Hid _ := hr'
  clear hr'
  clear gdx gex gdy gey ha hb
  by_cases h0 : a2 = b0
  · have e0 : (a2 == b0) = true := by simpa using h0
    by_cases h1 : a0 = b2
    · have e1 : (a0 == b2) = true := by simpa using h1
      by_cases h2 : dx = ex
      · have e2 : (dx == ex) = true := by simpa using h2
        have e3 : (dy == ey) = r := by rw [HR.out, decide_eq_true h0, decide_eq_true h1, decide_eq_true h2]; rfl
        clear h0 h1 h2 HR
        go_enter Tryz.func55, Tryz.ntmps55
        go_wp2
        dsimp only [List.append]
        go_quiet (fail)
        go_wp2
        go_ret
        exact ⟨by rw [← e3]; rfl, hB _ _ _⟩
      · have e2 : (dx == ex) = false := by simpa using h2
        obtain rfl : r = false := by rw [HR.out, decide_eq_false h2]; simp
        clear h0 h1 h2 HR
        go_enter Tryz.func55, Tryz.ntmps55
        go_wp2
        dsimp only [List.append]
        go_quiet (fail)
        go_wp2
        go_ret
        exact ⟨rfl, hB _ _ _⟩
    · have e1 : (a0 == b2) = false := by simpa using h1
      obtain rfl : r = false := by rw [HR.out, decide_eq_false h1]; simp
      clear h0 h1 HR
      go_enter Tryz.func55, Tryz.ntmps55
      go_wp2
      dsimp only [List.append]
      go_quiet (fail)
      go_wp2
      go_ret
      exact ⟨rfl, hB _ _ _⟩
  · have e0 : (a2 == b0) = false := by simpa using h0
    obtain rfl : r = false := by rw [HR.out, decide_eq_false h0]; simp
    clear h0 HR
    go_enter Tryz.func55, Tryz.ntmps55
    go_wp2
    dsimp only [List.append]
    go_quiet (fail)
    go_wp2
    go_ret
    exact ⟨rfl, hB _ _ _⟩
end Go.Proofs.YtjdeehffbgpenaaGreat

namespace Go.Proofs.YtjdeehffbgpenaaGreat
open Go.RowKit
set_option linter.unusedVariables false


/-- What is told of the face across. -/
def AcrIs (t : Tr) (a : Nat) (r : Option (Ce × Nat)) (e : Ending) : Prop := match r with
  | none => e = .returned (.tuple #[.int .i64 (-1), .int .i64 0, .agg #[.int .i64 0, .int .i64 0], .bool false])
  | some (c, k) => e = .returned (.tuple #[.int .i64 c.no, .int .i64 (((k + 2) % 3 : Nat) : Int), .agg #[.int .i64 (t.x (nx a) - c.t.x k), .int .i64 (t.y (nx a) - c.t.y k)], .bool true])
def AcrPost (t : Tr) (a : Nat) (r : Option (Ce × Nat)) (w : World) (e : Ending) (w' : World) : Prop := AcrIs t a r e ∧ Below w.heap.size w w'
theorem acr_drop {t : Tr} {a k : Nat} {C : List Ce} {c : Ce} (h : C[k]? = some c) : acr t a (C.drop k) = if opp t a c.t 0 = true then some (c, 0) else if opp t a c.t 1 = true then some (c, 1) else if opp t a c.t 2 = true then some (c, 2) else acr t a (C.drop (k + 1)) := by
  rw [drop_at h]
  rfl
theorem acr_found {t : Tr} {a k j : Nat} {C : List Ce} {c : Ce} (h : C[k]? = some c) (hj : j < 3) (hno : ∀ j', j' < j → opp t a c.t j' = false) (hy : opp t a c.t j = true) : acr t a (C.drop k) = some (c, j) := by
  rw [acr_drop h]
  rcases (by omega : j = 0 ∨ j = 1 ∨ j = 2) with rfl | rfl | rfl
  · rw [if_pos hy]
  · rw [if_neg (by rw [hno 0 (by omega)]; exact Bool.false_ne_true), if_pos hy]
  · rw [if_neg (by rw [hno 0 (by omega)]; exact Bool.false_ne_true), if_neg (by rw [hno 1 (by omega)]; exact Bool.false_ne_true), if_pos hy]
theorem acr_on {t : Tr} {a k : Nat} {C : List Ce} {c : Ce} (h : C[k]? = some c) (hno : ∀ j', j' < 3 → opp t a c.t j' = false) : acr t a (C.drop k) = acr t a (C.drop (k + 1)) := by
  rw [acr_drop h, if_neg (by rw [hno 0 (by omega)]; exact Bool.false_ne_true), if_neg (by rw [hno 1 (by omega)]; exact Bool.false_ne_true), if_neg (by rw [hno 2 (by omega)]; exact Bool.false_ne_true)]
end Go.Proofs.YtjdeehffbgpenaaGreat
