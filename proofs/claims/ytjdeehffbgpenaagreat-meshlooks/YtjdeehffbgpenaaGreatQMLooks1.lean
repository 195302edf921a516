/-
  Joined texts of this law, part 1:
  What zelligeref10's Free does, and what its All and Ints answer.
  Vertices, faces and faces with their numbers that are the same are equal.
  Both meshes, an act at a time: the law's own 'does'.
  A slice of acts, and an array of two ints, that come as arguments, opened.
  MeshLooks, over what the program's mesh must do.
-/
import Derived.Test.YtjdeehffbgpenaaGreatP16
import Derived.ChangeKeysEq
import Derived.Deep.Slices
import Derived.ProofKit
import Derived.OpenShut
import Derived.ChangeSlices
import Derived.Lib.SmallJoins
namespace Go.Proofs.YtjdeehffbgpenaaGreat
open Go.RowKit
set_option linter.unusedVariables false

set_option maxRecDepth 100000 in
set_option maxHeartbeats 1000000 in
theorem anInts (a b : Option Addr) (l ca cb : Nat) (L : List Int) (w : World) (ha : Sl w a l ca (ints L)) (hb : Sl w b l cb (ints L)) (hl : l ≤ 1000000) :
    Calls Tryz.prog 20 #[.slice a l ca, .slice b l cb] w fun e w' => e = .returned (.bool true) ∧ Below w.heap.size w w' := by
  have hlen : L.length = l := by have := ha.len; rw [ints_length] at this; exact this
  go_enter Tryz.func20, Tryz.ntmps20
  go_wp2
  go_loopw [5] (fun i wr => ∃ k : Nat, k ≤ l ∧ i = .int .i64 (k : Int) ∧ Below w.heap.size w wr) (fun i _ => l - (RowKit.intOf i).toNat)
  case atStart => exact ⟨0, by omega, rfl, Below.refl _ _⟩
  case round =>
    obtain ⟨k, hk, rfl, bel⟩ := hrel
    by_cases hlt : k < l
    · obtain ⟨x, hx⟩ : ∃ x, L[k]? = some x := ⟨L[k], List.getElem?_eq_getElem (by omega)⟩
      obtain ⟨b1, o1, rfl, hb1, hs1⟩ := (ha.below bel).at (by omega)
      obtain ⟨b2, o2, rfl, hb2, hs2⟩ := (hb.below bel).at (by omega)
      have r1 := ha.room
      have r2 := hb.room
      have q1 := hs1.cell k _ (ints_at hx)
      have q2 := hs2.cell k _ (ints_at hx)
      have hne : (x != x) = false := by simp
      clear hx hs1 hs2 ha hb
      go_wp2
      go_quiet (fail)
      go_wp2
      go_roundw
      case rel => exact ⟨k + 1, by omega, by simp, ⟨bel.os, bel.tape, bel.output, bel.size, bel.block⟩⟩
      case measure => simp [RowKit.intOf]; omega
    · go_wp2
      go_ret
      exact ⟨rfl, bel⟩
end Go.Proofs.YtjdeehffbgpenaaGreat

namespace Go.Proofs.YtjdeehffbgpenaaGreat
open Go.RowKit
set_option linter.unusedVariables false

theorem eq_3 (d : Nat) (a b c a' b' c' : Int) (w : World) : (Op.equalIn (d + 2) 46 (.agg #[.int .i64 a, .int .i64 b, .int .i64 c]) (.agg #[.int .i64 a', .int .i64 b', .int .i64 c'])).run Tryz.prog w = .ok (a == a' && (b == b' && c == c')) w := by
  obtain ⟨i, hi⟩ := Option.isSome_iff_exists.1 (show (Tryz.prog.info? 3).isSome = true by kernel_rfl)
  have hc : Tryz.prog.cellsOf 3 = 1 := by kernel_rfl
  rw [run_equalIn_array w (d + 1) _ _ Tryz.underlying46 hi, hc]
  simp [Op.eqItems, List.range, List.range.loop, go_sem, Tryz.underlying3]
  by_cases e0 : a = a' <;> by_cases e1 : b = b' <;> by_cases e2 : c = c' <;> simp [e0, e1, e2]
theorem eq_off (d : Nat) (a b : Int) (w : World) : (Op.equalIn (d + 2) 48 (.agg #[.int .i64 a, .int .i64 b]) (.agg #[.int .i64 a, .int .i64 b])).run Tryz.prog w = .ok true w := by
  simp [go_sem, Tryz.underlying48, Tryz.underlying3]
theorem eq_3off (d : Nat) (a b c e f g : Int) (w : World) : (Op.equalIn (d + 3) 49 (.agg #[.int .i64 a, .int .i64 b, .int .i64 c, .int .i64 e, .int .i64 f, .int .i64 g]) (.agg #[.int .i64 a, .int .i64 b, .int .i64 c, .int .i64 e, .int .i64 f, .int .i64 g])).run Tryz.prog w = .ok true w := by
  obtain ⟨i, hi⟩ := Option.isSome_iff_exists.1 (show (Tryz.prog.info? 48).isSome = true by kernel_rfl)
  have hc : Tryz.prog.cellsOf 48 = 2 := by kernel_rfl
  rw [run_equalIn_array w (d + 2) _ _ Tryz.underlying49 hi, hc]
  simp [Op.eqItems, List.range, List.range.loop, go_sem, eq_off]
theorem eq_3' (d : Nat) (a b c : Int) (w : World) : (Op.equalIn (d + 3) 46 (.agg #[.int .i64 a, .int .i64 b, .int .i64 c]) (.agg #[.int .i64 a, .int .i64 b, .int .i64 c])).run Tryz.prog w = .ok true w := by
  have := eq_3 (d + 1) a b c a b c w
  simpa using this
theorem eq_tri (d : Nat) (t : Tr) (w : World) : (Op.equalIn (d + 4) 51 (trV t) (trV t)).run Tryz.prog w = .ok true w := by
  simp [go_sem, Tryz.underlying51, eq_3', eq_3off]
theorem eq_tri0 (t : Tr) (w : World) : (Op.equalIn 10000 51 (trV t) (trV t)).run Tryz.prog w = .ok true w := eq_tri 9996 t w
end Go.Proofs.YtjdeehffbgpenaaGreat

namespace Go.Proofs.YtjdeehffbgpenaaGreat
open Go.RowKit
set_option linter.unusedVariables false

theorem tr64_of {S : Ms} {m : Nat} (h : MsOk S m) : ∀ c ∈ S.C, Tr64 c.t := fun c hc => ⟨fun i => (h.f64 c hc i).1, fun i => (h.f64 c hc i).2.1, fun i => (h.f64 c hc i).2.2⟩
end Go.Proofs.YtjdeehffbgpenaaGreat

namespace Go.Proofs.YtjdeehffbgpenaaGreat
open Go.ChangeShapes Go.WideShapes Go.ChangeAt Go.RowKit
set_option linter.unusedVariables false
set_option linter.constructorNameAsVariable false

section
variable {H : Type} {enc : TypeId × Value → H} {W : World} {bs : Nat} {sp : Nat → Bool} {hd : Bool} {fuel : Nat} {cs : List Value} {x : DataW H × List MemPlace}
end
/-- An array of two ints. -/
theorem cells_2i : Tryz.prog.cellsOf 39 = 2 := by kernel_rfl
set_option maxRecDepth 100000 in
theorem open_int2 {H : Type} {enc : TypeId × Value → H} {w W : World} {r : Reach} {b0 bs : Nat} {sp : Nat → Bool} {hd : Bool} {v : Value} {d : DataW H} {p : List MemPlace} (hv : Value.okWide Tryz.prog w r b0 39 v) (h : DataW.Trod enc Tryz.prog W bs sp hd 39 v d p) :
    ∃ a0 a1 : Int, v = .agg #[.int .i64 a0, .int .i64 a1] ∧ d = .agg [.lit (.int .i64 a0), .lit (.int .i64 a1)] ∧ p = [] ∧ (Lit.int .i64 a0).wf = true ∧ (Lit.int .i64 a1).wf = true := by
  simp only [Value.okWide, Tryz.underlying39] at hv
  obtain ⟨cs, rfl, hsz, _⟩ := hv
  obtain ⟨c0, c1, rfl⟩ : ∃ c0 c1, cs = #[c0, c1] := by
    have h2 := hsz.trans cells_2i
    obtain ⟨l⟩ := cs
    match l, h2 with
    | [c0, c1], _ => exact ⟨c0, c1, rfl⟩
  obtain ⟨fuel, hf⟩ := h
  obtain ⟨xs, m, _, hx, _, hl, hi⟩ := DataW.trod_array Tryz.underlying39 hf
  obtain ⟨y0, y1, rfl⟩ : ∃ y0 y1, xs = [y0, y1] := by
    match xs, hl with
    | [y0, y1], _ => exact ⟨y0, y1, rfl⟩
  have i0 := hi 0 (by decide)
  have i1 := hi 1 (by decide)
  rw [cells_i] at i0 i1
  simp [Value.cells] at i0 i1
  obtain ⟨a0, e0, rfl, w0⟩ := DataW.trod_int Tryz.underlying3 i0
  obtain ⟨a1, e1, rfl, w1⟩ := DataW.trod_int Tryz.underlying3 i1
  simp at e0 e1
  subst e0 e1
  simp only [Prod.mk.injEq] at hx
  obtain ⟨rfl, rfl⟩ := hx
  exact ⟨a0, a1, rfl, rfl, rfl, w0, w1⟩
theorem shut_int2 {H : Type} {enc : TypeId × Value → H} {W : World} {bs : Nat} {sp : Nat → Bool} {hd : Bool} {a0 a1 : Int} (w0 : (Lit.int .i64 a0).wf = true) (w1 : (Lit.int .i64 a1).wf = true) :
    DataW.Trod enc Tryz.prog W bs sp hd 39 (.agg #[.int .i64 a0, .int .i64 a1]) (.agg [.lit (.int .i64 a0), .lit (.int .i64 a1)]) [] := by
  have r2 : List.range 2 = [0, 1] := rfl
  exact ⟨2, by simp [DataW.trod, Tryz.underlying39, Tryz.underlying3, cells_i, cells_2i, Value.cells, r2, w0, w1]⟩
end Go.Proofs.YtjdeehffbgpenaaGreat

namespace Go.Proofs.YtjdeehffbgpenaaGreat
open Go.RowKit
set_option linter.unusedVariables false

theorem eq_vt (v : Vt) (w : World) : (Op.equalIn 10000 43 (vtV v) (vtV v)).run Tryz.prog w = .ok true w := by
  simp [go_sem, Tryz.underlying43, Tryz.underlying41, Tryz.underlying3, Tryz.underlying2]
theorem eq_vt0 {v : Vt} (h : v = vtZero) (w : World) : (Op.equalIn 10000 43 (vtV v) (.agg #[.int .i64 0, .int .i64 0, .int .i64 0, .int .i64 0])).run Tryz.prog w = .ok true w := by
  subst h
  exact eq_vt vtZero w
theorem eq_trz {t : Tr} (h : t = trZero) (w : World) : (Op.equalIn 10000 51 (trV t) (.agg #[.int .i64 0, .int .i64 0, .int .i64 0, .int .i64 0, .int .i64 0, .int .i64 0, .int .i64 0, .int .i64 0, .int .i64 0])).run Tryz.prog w = .ok true w := by
  subst h
  exact eq_tri0 trZero w
theorem vertOf_at {S : Ms} {v : Int} {i : Nat} {a : Vt} (h : fAt Vt.no v S.V 0 = (i : Int)) (ha : S.V[i]? = some a) : vertOf S v = a := by
  unfold vertOf
  rw [find_at S.V 0 i (by omega) (by rw [h]; omega) ha]
theorem vertOf_no {S : Ms} {v : Int} (h : ∀ a ∈ S.V, a.no ≠ v) : vertOf S v = vtZero := by
  unfold vertOf
  rw [find_not h]
theorem faceOf_at {S : Ms} {v : Int} {i : Nat} {a : Ce} (h : fAt Ce.no v S.C 0 = (i : Int)) (ha : S.C[i]? = some a) : faceOf S v = a.t := by
  unfold faceOf
  rw [find_at S.C 0 i (by omega) (by rw [h]; omega) ha]
theorem faceOf_no {S : Ms} {v : Int} (h : ∀ a ∈ S.C, a.no ≠ v) : faceOf S v = trZero := by
  unfold faceOf
  rw [find_not h]

set_option maxRecDepth 100000 in
set_option maxHeartbeats 8000000 in
theorem melooks_of {MP : MeShape} (H : MeSpec MP) (side : Int) (a : Option Addr) (n c : Nat) (L : List Act) (f i : Int) (w : World) (hL : ActsAt w a n c L) (hf : In64 f) (hi : In64 i) :
    Calls Tryz.prog 4 #[.int .i64 side, .slice a n c, .agg #[.int .i64 f, .int .i64 i]] w fun e w' => e = .returned (.bool true) ∧ Below w.heap.size w w' := by
  have HH : Hid _ := H
  have HL : Hid _ := hL
  clear H hL
  obtain ⟨⟨hm1, hm2⟩, hm3⟩ := corner_at i
  obtain ⟨md, hm⟩ : ∃ m, m = Int.tmod i 3 := ⟨_, rfl⟩
  rw [← hm] at hm1 hm2 hm3
  have hm' := hm.symm
  have hm6 : (md + 3) % 3 = (corner i : Int) := by rw [← Int.tmod_eq_emod_of_nonneg (by omega)]; exact hm3
  obtain ⟨ci, hci⟩ : ∃ ci, ci = corner i := ⟨_, rfl⟩
  rw [← hci] at hm3 hm6
  have hc3 : ci < 3 := by rw [hci]; unfold corner; omega
  have HCI : Hid _ := hci
  clear hm hci
  obtain ⟨W, hW⟩ : ∃ W, W = w.alloc (.cells ([.int .i64 f, .int .i64 i] : List Value).toArray 39) := ⟨_, rfl⟩
  have BW : Below w.heap.size w W := by rw [hW]; exact (Below.refl _ _).alloc (Nat.le_refl _) _
  have zW : W.heap.size = w.heap.size + 1 := by rw [hW]; simp
  have R0 : Row W w.heap.size [.int .i64 f, .int .i64 i] := by rw [hW]; exact Row.new w _ _
  have hW' : w.alloc (.cells #[.int .i64 f, .int .i64 i] 39) = W := hW.symm
  clear hW
  go_enter Tryz.func4, Tryz.ntmps4
  go_wp2_with (go_at_call 6; fail)
  obtain ⟨g, hg⟩ : ∃ g, g = goodN side := ⟨_, rfl⟩
  have HG : Hid _ := hg
  clear hg hW'
  refine (good_of side W HG.out).mono ?_
  rintro e w1 ⟨rfl, b1⟩
  have z1 := b1.size
  have R1 := R0.below b1 (by omega)
  go_wp2_with (go_at_call 7; fail)
  refine (plays_of HH.out g (HG.out ▸ goodN_ok side) a n c L w1 ((HL.out.below BW).below b1)).mono ?_
  rintro e w2 ⟨pm, px, S, rfl, hb, _, b2⟩
  have z2 := b2.size
  have R2 := R1.below b2 (by omega)
  have r0 := R2.cell 0 _ rfl
  have r1 := R2.cell 1 _ rfl
  obtain ⟨⟨Fm, Fx, h1, h2, hd⟩, hk⟩ := hb
  have H1 : Hid _ := h1
  have H2 : Hid _ := h2
  have HK : Hid _ := hk
  clear h1 h2 hk hd
  have B2 : Below w.heap.size w w2 := (BW.trans (b1.mono (by omega))).trans (b2.mono (by omega))
  obtain ⟨lv, lc, _⟩ := HK.out.lens
  go_wp2
  go_quiet (fail)
  obtain ⟨w2d, hw2d⟩ : ∃ x, x = w2.drewN nq := ⟨_, rfl⟩
  have B2d : Below w2.heap.size w2 w2d := by rw [hw2d]; exact ⟨rfl, rfl, rfl, Nat.le_refl _, fun _ _ => rfl⟩
  rw [← hw2d]
  have M2 : Hid _ := HH.out.below H1.out B2d
  have X2 : Hid _ := H2.out.below B2d
  have z2d := B2d.size
  have B2' : Below w.heap.size w w2d := B2.trans (B2d.mono (by omega))
  clear hw2d r0 r1 R0 R1 R2
  obtain ⟨v, hvv⟩ : ∃ v, v = vertOf S f := ⟨_, rfl⟩
  obtain ⟨t, htt⟩ : ∃ t, t = faceOf S f := ⟨_, rfl⟩
  obtain ⟨bv, hbv⟩ : ∃ b, b = isV S f := ⟨_, rfl⟩
  obtain ⟨bf, hbf⟩ : ∃ b, b = isF S f := ⟨_, rfl⟩
  have HV : Hid _ := hvv
  have HT : Hid _ := htt
  have HBV : Hid _ := hbv
  have HBF : Hid _ := hbf
  clear hvv htt hbv hbf
  go_wp2_with (go_at_call 15; fail)
  refine (HH.out.vert w1.heap.size pm S 40 Fm w2d M2.out HK.out (by decide) f hf).mono ?_
  rw [← HV.out, ← HBV.out]
  rintro e w3 ⟨rfl, b3⟩
  have z3 := b3.size
  obtain ⟨u3, hu3⟩ : ∃ u, u = w3.alloc (.cells ([.int .i64 v.no, .int .i64 v.x, .int .i64 v.y, .int .i64 v.id] : List Value).toArray 43) := ⟨_, rfl⟩
  have d3 : Below w3.heap.size w3 u3 := by rw [hu3]; exact (Below.refl _ _).alloc (Nat.le_refl _) _
  have y3 : u3.heap.size = w3.heap.size + 1 := by rw [hu3]; simp
  have P3 : Row u3 w3.heap.size [.int .i64 v.no, .int .i64 v.x, .int .i64 v.y, .int .i64 v.id] := by rw [hu3]; exact Row.new w3 _ _
  have hv3 : w3.alloc (.cells #[.int .i64 v.no, .int .i64 v.x, .int .i64 v.y, .int .i64 v.id] 43) = u3 := hu3.symm
  clear hu3
  have M3 : Hid _ := HH.out.below (HH.out.below M2.out b3) d3
  have X3 : Hid _ := (X2.out.below b3).below d3
  have B3 : Below w.heap.size w u3 := (B2'.trans (b3.mono (by omega))).trans (d3.mono (by omega))
  go_wp2_with (go_at_call 16; fail)
  refine (HH.out.face w1.heap.size pm S 40 Fm u3 M3.out HK.out (by decide) f hf).mono ?_
  rw [← HT.out, ← HBF.out]
  rintro e w4 ⟨rfl, b4⟩
  have z4 := b4.size
  clear hv3
  obtain ⟨u4, hu4⟩ : ∃ u, u = w4.alloc (.cells ([.int .i64 t.v0, .int .i64 t.v1, .int .i64 t.v2, .int .i64 t.x0, .int .i64 t.y0, .int .i64 t.x1, .int .i64 t.y1, .int .i64 t.x2, .int .i64 t.y2] : List Value).toArray 51) := ⟨_, rfl⟩
  have d4 : Below w4.heap.size w4 u4 := by rw [hu4]; exact (Below.refl _ _).alloc (Nat.le_refl _) _
  have y4 : u4.heap.size = w4.heap.size + 1 := by rw [hu4]; simp
  have P4 : Row u4 w4.heap.size [.int .i64 t.v0, .int .i64 t.v1, .int .i64 t.v2, .int .i64 t.x0, .int .i64 t.y0, .int .i64 t.x1, .int .i64 t.y1, .int .i64 t.x2, .int .i64 t.y2] := by rw [hu4]; exact Row.new w4 _ _
  have hv4 : w4.alloc (.cells #[.int .i64 t.v0, .int .i64 t.v1, .int .i64 t.v2, .int .i64 t.x0, .int .i64 t.y0, .int .i64 t.x1, .int .i64 t.y1, .int .i64 t.x2, .int .i64 t.y2] 51) = u4 := hu4.symm
  clear hu4
  have M4 : Hid _ := HH.out.below (HH.out.below M3.out b4) d4
  have X4 : Hid _ := (X3.out.below b4).below d4
  have B4 : Below w.heap.size w u4 := (B3.trans (b4.mono (by omega))).trans (d4.mono (by omega))
  have V4 := (P3.below b4 (by omega)).below d4 (by omega)
  obtain ⟨pX, pY, hpx, hpc⟩ : ∃ pX pY : Int, (bf = true → pX = plX S t ci ∧ pY = plY S t ci) ∧ (bf = false → pX = 0 ∧ pY = 0) := by
    cases bf with
    | true => exact ⟨_, _, fun _ => ⟨rfl, rfl⟩, fun h => by cases h⟩
    | false => exact ⟨0, 0, (fun h => by cases h), fun _ => ⟨rfl, rfl⟩⟩
  have HPX : Hid _ := hpx
  have HPC : Hid _ := hpc
  clear hpx hpc
  have HCO : Hid (Calls Tryz.prog 17 #[ptR pm, .int .i64 f, .int .i64 i] u4 fun e w' => e = .returned (.tuple #[.agg #[.int .i64 pX, .int .i64 pY], .bool bf]) ∧ Below u4.heap.size u4 w') := by
    cases hb2 : bf with
    | true =>
      obtain ⟨e1, e2⟩ := HPX.out hb2
      rw [e1, e2, HCI.out, HT.out]
      exact HH.out.corner w1.heap.size pm S 40 Fm u4 M4.out HK.out (by decide) f i hf hi (by rw [← HBF.out, hb2])
    | false =>
      obtain ⟨e1, e2⟩ := HPC.out hb2
      rw [e1, e2]
      exact HH.out.corner0 w1.heap.size pm S 40 Fm u4 M4.out HK.out (by decide) f i hf hi (by rw [← HBF.out, hb2])
  go_wp2_with (go_at_call 17; fail)
  refine Calls.mono HCO.out ?_
  rintro e w5 ⟨rfl, b5⟩
  have z5 := b5.size
  clear hv4 HCO
  obtain ⟨u5, hu5⟩ : ∃ u, u = w5.alloc (.cells ([.int .i64 pX, .int .i64 pY] : List Value).toArray 41) := ⟨_, rfl⟩
  have d5 : Below w5.heap.size w5 u5 := by rw [hu5]; exact (Below.refl _ _).alloc (Nat.le_refl _) _
  have y5 : u5.heap.size = w5.heap.size + 1 := by rw [hu5]; simp
  have P5 : Row u5 w5.heap.size [.int .i64 pX, .int .i64 pY] := by rw [hu5]; exact Row.new w5 _ _
  have hv5 : w5.alloc (.cells #[.int .i64 pX, .int .i64 pY] 41) = u5 := hu5.symm
  clear hu5
  have M5 : Hid _ := HH.out.below (HH.out.below M4.out b5) d5
  have X5 : Hid _ := (X4.out.below b5).below d5
  have B5 : Below w.heap.size w u5 := (B4.trans (b5.mono (by omega))).trans (d5.mono (by omega))
  have V5 := (V4.below b5 (by omega)).below d5 (by omega)
  have T5 := (P4.below b5 (by omega)).below d5 (by omega)
  obtain ⟨ia, hia⟩ : ∃ ia, ia = fAt Vt.no f S.V 0 := ⟨_, rfl⟩
  obtain ⟨ja, hja⟩ : ∃ ja, ja = fAt Ce.no f S.C 0 := ⟨_, rfl⟩
  have HIA : Hid _ := hia
  have HJA : Hid _ := hja
  clear hia hja
  go_wp2_with (go_at_call 18; fail)
  refine (mrVertAt px S f u5 X5.out.look (by omega) HIA.out).mono ?_
  rintro e w6 ⟨rfl, b6⟩
  have z6 := b6.size
  clear hv5
  go_wp2_with (go_at_call 19; fail)
  refine (mrFaceAt px S f w6 (X5.out.look.below b6) (by omega) HJA.out).mono ?_
  rintro e w7 ⟨rfl, b7⟩
  have z7 := b7.size
  have M7 : Hid _ := HH.out.below (HH.out.below M5.out b6) b7
  have X7 : Hid _ := (X5.out.below b6).below b7
  have V7 := (V5.below b6 (by omega)).below b7 (by omega)
  have T7 := (T5.below b6 (by omega)).below b7 (by omega)
  have P7 := (P5.below b6 (by omega)).below b7 (by omega)
  have B7 : Below w.heap.size w w7 := (B5.trans (b6.mono (by omega))).trans (b7.mono (by omega))
  obtain ⟨Mr, hMr⟩ : ∃ Mr, Mr = around S.C f := ⟨_, rfl⟩
  have HMR : Hid _ := hMr
  have hMl : Mr.length ≤ 1000 := by rw [hMr]; unfold around; rw [List.length_map]; exact Nat.le_trans (List.length_filter_le _ _) (by omega)
  clear hMr
  have hbv2 : decide (0 ≤ ia) = bv := by rw [HBV.out, HIA.out]; rfl
  have hbf2 : decide (0 ≤ ja) = bf := by rw [HBF.out, HJA.out]; rfl
  have HB2 : Hid _ := hbv2
  have HF2 : Hid _ := hbf2
  clear P3 P4 P5 V4 V5 T5
  clear hbv2 hbf2
  rcases fAt_cases Vt.no f S.V with ⟨va, vb⟩ | ⟨vi, vx, va, vb, vc⟩
  · rcases fAt_cases Ce.no f S.C with ⟨fa, fb⟩ | ⟨fi, fx, fa, fb, fc⟩
    · skip
      have bvE : bv = false := by rw [← HB2.out, HIA.out, va]; rfl
      have bfE : bf = false := by rw [← HF2.out, HJA.out, fa]; rfl
      subst bvE
      subst bfE
      obtain rfl : ia = -1 := HIA.out.trans va
      have heqv := eq_vt0 (HV.out.trans (vertOf_no vb))
      obtain rfl : ja = -1 := HJA.out.trans fa
      have heqt := eq_trz (HT.out.trans (faceOf_no fb))
      obtain ⟨ex, ey⟩ := HPC.out rfl
      have HEX : Hid _ := ex
      have HEY : Hid _ := ey
      clear ex ey
      clear HPX HPC
      go_wp2_with (go_at_call 21; fail)
      refine (HH.out.around w1.heap.size pm S 40 Fm w7 M7.out HK.out (by decide) f hf Mr HMR.out).mono ?_
      rintro e w8 ⟨a8, c8, rfl, o8, b8⟩
      have z8 := b8.size
      go_wp2_with (go_at_call 22; fail)
      refine (mrAround px S f w8 (X7.out.look.below b8) (by omega) HMR.out).mono ?_
      rintro e w9 ⟨a9, c9, rfl, o9, b9⟩
      have z9 := b9.size
      go_wp2_with (go_at_call 20; fail)
      refine (anInts a8 a9 Mr.length c8 c9 Mr w9 (o8.below b9).sl o9.sl (by omega)).mono ?_
      rintro e w10 ⟨rfl, b10⟩
      have z10 := b10.size
      have X10 : Hid _ := ((X7.out.below b8).below b9).below b10
      have V10 := ((V7.below b8 (by omega)).below b9 (by omega)).below b10 (by omega)
      have T10 := ((T7.below b8 (by omega)).below b9 (by omega)).below b10 (by omega)
      have P10 := ((P7.below b8 (by omega)).below b9 (by omega)).below b10 (by omega)
      have B10 : Below w.heap.size w w10 := ((B7.trans (b8.mono (by omega))).trans (b9.mono (by omega))).trans (b10.mono (by omega))
      have v0_ := V10.cell 0 _ rfl
      have v1_ := V10.cell 1 _ rfl
      have v2_ := V10.cell 2 _ rfl
      have v3_ := V10.cell 3 _ rfl
      have t0_ := T10.cell 0 _ rfl
      have t1_ := T10.cell 1 _ rfl
      have t2_ := T10.cell 2 _ rfl
      have t3_ := T10.cell 3 _ rfl
      have t4_ := T10.cell 4 _ rfl
      have t5_ := T10.cell 5 _ rfl
      have t6_ := T10.cell 6 _ rfl
      have t7_ := T10.cell 7 _ rfl
      have t8_ := T10.cell 8 _ rfl
      have p0_ := P10.cell 0 _ rfl
      have p1_ := P10.cell 1 _ rfl
      clear va vb
      go_wp2
      go_quiet (fail)
      obtain ⟨w11, hw11⟩ : ∃ x, x = w10.drewN nq := ⟨_, rfl⟩
      have b11 : Below w10.heap.size w10 w11 := by rw [hw11]; exact ⟨rfl, rfl, rfl, Nat.le_refl _, fun _ _ => rfl⟩
      rw [← hw11]
      have z11 := b11.size
      clear hw11
      clear v0_ v1_ v2_ v3_ t0_ t1_ t2_ t3_ t4_ t5_ t6_ t7_ t8_ p0_ p1_ V10 V7
      have X11 : Hid _ := X10.out.below b11
      have T11 := T10.below b11 (by omega)
      have P11 := P10.below b11 (by omega)
      have B11 : Below w.heap.size w w11 := B10.trans (b11.mono (by omega))
      have hpX := HEX.out
      have hpY := HEY.out
      subst hpX
      subst hpY
      clear fa fb HEX HEY
      have t0_ := T11.cell 0 _ rfl
      have t1_ := T11.cell 1 _ rfl
      have t2_ := T11.cell 2 _ rfl
      have t3_ := T11.cell 3 _ rfl
      have t4_ := T11.cell 4 _ rfl
      have t5_ := T11.cell 5 _ rfl
      have t6_ := T11.cell 6 _ rfl
      have t7_ := T11.cell 7 _ rfl
      have t8_ := T11.cell 8 _ rfl
      have p0_ := P11.cell 0 _ rfl
      have p1_ := P11.cell 1 _ rfl
      go_wp2_with (go_at_call 14; fail)
      refine (lives11_of HH.out w11).mono ?_
      rintro e w14 ⟨rfl, b14⟩
      go_wp2
      go_ret
      exact ⟨rfl, B11.trans (b14.mono (by omega))⟩
    · skip
      have bvE : bv = false := by rw [← HB2.out, HIA.out, va]; rfl
      have bfE : bf = true := by rw [← HF2.out, HJA.out, fa]; exact decide_eq_true (by omega)
      subst bvE
      subst bfE
      obtain rfl : ia = -1 := HIA.out.trans va
      have heqv := eq_vt0 (HV.out.trans (vertOf_no vb))
      obtain rfl : ja = (fi : Int) := HJA.out.trans fa
      obtain rfl : t = fx.t := HT.out.trans (faceOf_at fa fb)
      have hfl := (List.getElem?_eq_some_iff.1 fb).1
      have fga : (0 : Int) ≤ (fi : Int) := by omega
      have fgb : decide ((fi : Int) < 0) = false := decide_eq_false (by omega)
      have fgd : decide ((0 : Int) ≤ (fi : Int)) = true := decide_eq_true fga
      have HPX' := HPX
      go_wp2_with (go_at_call 21; fail)
      refine (HH.out.around w1.heap.size pm S 40 Fm w7 M7.out HK.out (by decide) f hf Mr HMR.out).mono ?_
      rintro e w8 ⟨a8, c8, rfl, o8, b8⟩
      have z8 := b8.size
      go_wp2_with (go_at_call 22; fail)
      refine (mrAround px S f w8 (X7.out.look.below b8) (by omega) HMR.out).mono ?_
      rintro e w9 ⟨a9, c9, rfl, o9, b9⟩
      have z9 := b9.size
      go_wp2_with (go_at_call 20; fail)
      refine (anInts a8 a9 Mr.length c8 c9 Mr w9 (o8.below b9).sl o9.sl (by omega)).mono ?_
      rintro e w10 ⟨rfl, b10⟩
      have z10 := b10.size
      have X10 : Hid _ := ((X7.out.below b8).below b9).below b10
      have V10 := ((V7.below b8 (by omega)).below b9 (by omega)).below b10 (by omega)
      have T10 := ((T7.below b8 (by omega)).below b9 (by omega)).below b10 (by omega)
      have P10 := ((P7.below b8 (by omega)).below b9 (by omega)).below b10 (by omega)
      have B10 : Below w.heap.size w w10 := ((B7.trans (b8.mono (by omega))).trans (b9.mono (by omega))).trans (b10.mono (by omega))
      have v0_ := V10.cell 0 _ rfl
      have v1_ := V10.cell 1 _ rfl
      have v2_ := V10.cell 2 _ rfl
      have v3_ := V10.cell 3 _ rfl
      have t0_ := T10.cell 0 _ rfl
      have t1_ := T10.cell 1 _ rfl
      have t2_ := T10.cell 2 _ rfl
      have t3_ := T10.cell 3 _ rfl
      have t4_ := T10.cell 4 _ rfl
      have t5_ := T10.cell 5 _ rfl
      have t6_ := T10.cell 6 _ rfl
      have t7_ := T10.cell 7 _ rfl
      have t8_ := T10.cell 8 _ rfl
      have p0_ := P10.cell 0 _ rfl
      have p1_ := P10.cell 1 _ rfl
      clear va vb
      go_wp2
      go_quiet (fail)
      obtain ⟨w11, hw11⟩ : ∃ x, x = w10.drewN nq := ⟨_, rfl⟩
      have b11 : Below w10.heap.size w10 w11 := by rw [hw11]; exact ⟨rfl, rfl, rfl, Nat.le_refl _, fun _ _ => rfl⟩
      rw [← hw11]
      have z11 := b11.size
      clear hw11
      clear v0_ v1_ v2_ v3_ t0_ t1_ t2_ t3_ t4_ t5_ t6_ t7_ t8_ p0_ p1_ V10 V7
      have X11 : Hid _ := X10.out.below b11
      have T11 := T10.below b11 (by omega)
      have P11 := P10.below b11 (by omega)
      have B11 : Below w.heap.size w w11 := B10.trans (b11.mono (by omega))
      obtain ⟨gC, cpC, x4, x5, x6, hrC, hcC, hbC, HC⟩ := X11.out.look.face fb
      have mC := hrC.cell 4 _ rfl
      have hpl := hrC.lt
      have hcm := List.mem_of_getElem? fb
      have k1 := HC 1 _ rfl
      have k2 := HC 2 _ rfl
      have k3 := HC 3 _ rfl
      have k4 := HC 4 _ rfl
      have k5 := HC 5 _ rfl
      have k6 := HC 6 _ rfl
      have k7 := HC 7 _ rfl
      have k8 := HC 8 _ rfl
      have k9 := HC 9 _ rfl
      obtain ⟨nC, hnC⟩ : ∃ nC, nC = S.C.length := ⟨_, rfl⟩
      rw [← hnC] at mC hcC hfl
      have hfli : (fi : Int) < (nC : Int) := by omega
      clear hrC hnC HC fa fb fc
      go_wp2_with (go_at_call 23; fail)
      refine (mrPlace px S fx.t ci w11 hc3 X11.out.look (by omega) (n64_of HK.out) (vt64_of HK.out (by decide)) (tr64_of HK.out fx hcm) (HK.out.fi fx hcm ci hc3) (ok := true) (X := pX) (Y := pY) (HK.out.fo fx hcm ci hc3).symm (HPX.out (by simp)).1 (HPX.out (by simp)).2).mono ?_
      rintro e w12 ⟨rfl, b12⟩
      have z12 := b12.size
      obtain ⟨u12, hu12⟩ : ∃ u, u = w12.alloc (.cells ([.int .i64 pX, .int .i64 pY] : List Value).toArray 41) := ⟨_, rfl⟩
      have d12 : Below w12.heap.size w12 u12 := by rw [hu12]; exact (Below.refl _ _).alloc (Nat.le_refl _) _
      have y12 : u12.heap.size = w12.heap.size + 1 := by rw [hu12]; simp
      have P12 : Row u12 w12.heap.size [.int .i64 pX, .int .i64 pY] := by rw [hu12]; exact Row.new w12 _ _
      have hv12 : w12.alloc (.cells #[.int .i64 pX, .int .i64 pY] 41) = u12 := hu12.symm
      clear hu12
      have hgl : gC < w12.heap.size := by omega
      have hppl : px < w12.heap.size := by omega
      have T13 := (T11.below b12 (by omega)).below d12 (by omega)
      have P13 := (P11.below b12 (by omega)).below d12 (by omega)
      have mC := (d12.cell (p := ⟨px, 4, none⟩) hppl).trans ((b12.cell (p := ⟨px, 4, none⟩) hpl).trans mC)
      have k1 := (d12.cell (p := ⟨gC, fi * 10 + 1, none⟩) hgl).trans ((b12.cell (p := ⟨gC, fi * 10 + 1, none⟩) hbC).trans k1)
      have k2 := (d12.cell (p := ⟨gC, fi * 10 + 2, none⟩) hgl).trans ((b12.cell (p := ⟨gC, fi * 10 + 2, none⟩) hbC).trans k2)
      have k3 := (d12.cell (p := ⟨gC, fi * 10 + 3, none⟩) hgl).trans ((b12.cell (p := ⟨gC, fi * 10 + 3, none⟩) hbC).trans k3)
      have k4 := (d12.cell (p := ⟨gC, fi * 10 + 4, none⟩) hgl).trans ((b12.cell (p := ⟨gC, fi * 10 + 4, none⟩) hbC).trans k4)
      have k5 := (d12.cell (p := ⟨gC, fi * 10 + 5, none⟩) hgl).trans ((b12.cell (p := ⟨gC, fi * 10 + 5, none⟩) hbC).trans k5)
      have k6 := (d12.cell (p := ⟨gC, fi * 10 + 6, none⟩) hgl).trans ((b12.cell (p := ⟨gC, fi * 10 + 6, none⟩) hbC).trans k6)
      have k7 := (d12.cell (p := ⟨gC, fi * 10 + 7, none⟩) hgl).trans ((b12.cell (p := ⟨gC, fi * 10 + 7, none⟩) hbC).trans k7)
      have k8 := (d12.cell (p := ⟨gC, fi * 10 + 8, none⟩) hgl).trans ((b12.cell (p := ⟨gC, fi * 10 + 8, none⟩) hbC).trans k8)
      have k9 := (d12.cell (p := ⟨gC, fi * 10 + 9, none⟩) hgl).trans ((b12.cell (p := ⟨gC, fi * 10 + 9, none⟩) hbC).trans k9)
      have t0_ := T13.cell 0 _ rfl
      have t1_ := T13.cell 1 _ rfl
      have t2_ := T13.cell 2 _ rfl
      have t3_ := T13.cell 3 _ rfl
      have t4_ := T13.cell 4 _ rfl
      have t5_ := T13.cell 5 _ rfl
      have t6_ := T13.cell 6 _ rfl
      have t7_ := T13.cell 7 _ rfl
      have t8_ := T13.cell 8 _ rfl
      have p0_ := P13.cell 0 _ rfl
      have p1_ := P13.cell 1 _ rfl
      have q0_ := P12.cell 0 _ rfl
      have q1_ := P12.cell 1 _ rfl
      have heqt := eq_tri0 fx.t
      have B13 : Below w.heap.size w u12 := (B11.trans (b12.mono (by omega))).trans (d12.mono (by omega))
      go_wp2
      clear hv12
      have h4l : w4.heap.size < u12.heap.size := by omega
      have h5l : w5.heap.size < u12.heap.size := by omega
      have h12l : w12.heap.size < u12.heap.size := by omega
      have hpxl : px < u12.heap.size := by omega
      have hgxl : gC < u12.heap.size := by omega
      refine wp_region_held_drew (S := fun w' => w'.cell? ⟨w4.heap.size, 0, none⟩ = some (.int .i64 fx.t.v0) ∧ w'.cell? ⟨w4.heap.size, 1, none⟩ = some (.int .i64 fx.t.v1) ∧ w'.cell? ⟨w4.heap.size, 2, none⟩ = some (.int .i64 fx.t.v2) ∧ w'.cell? ⟨w4.heap.size, 3, none⟩ = some (.int .i64 fx.t.x0) ∧ w'.cell? ⟨w4.heap.size, 4, none⟩ = some (.int .i64 fx.t.y0) ∧ w'.cell? ⟨w4.heap.size, 5, none⟩ = some (.int .i64 fx.t.x1) ∧ w'.cell? ⟨w4.heap.size, 6, none⟩ = some (.int .i64 fx.t.y1) ∧ w'.cell? ⟨w4.heap.size, 7, none⟩ = some (.int .i64 fx.t.x2) ∧ w'.cell? ⟨w4.heap.size, 8, none⟩ = some (.int .i64 fx.t.y2) ∧ w'.cell? ⟨px, 4, none⟩ = some (.slice (some ⟨gC, 0, none⟩) nC cpC) ∧ w'.cell? ⟨gC, fi * 10 + 1, none⟩ = some (.int .i64 fx.t.v0) ∧ w'.cell? ⟨gC, fi * 10 + 2, none⟩ = some (.int .i64 fx.t.v1) ∧ w'.cell? ⟨gC, fi * 10 + 3, none⟩ = some (.int .i64 fx.t.v2) ∧ w'.cell? ⟨gC, fi * 10 + 4, none⟩ = some (.int .i64 fx.t.x0) ∧ w'.cell? ⟨gC, fi * 10 + 5, none⟩ = some (.int .i64 fx.t.y0) ∧ w'.cell? ⟨gC, fi * 10 + 6, none⟩ = some (.int .i64 fx.t.x1) ∧ w'.cell? ⟨gC, fi * 10 + 7, none⟩ = some (.int .i64 fx.t.y1) ∧ w'.cell? ⟨gC, fi * 10 + 8, none⟩ = some (.int .i64 fx.t.x2) ∧ w'.cell? ⟨gC, fi * 10 + 9, none⟩ = some (.int .i64 fx.t.y2) ∧ w'.cell? ⟨w5.heap.size, 0, none⟩ = some (.int .i64 pX) ∧ w'.cell? ⟨w5.heap.size, 1, none⟩ = some (.int .i64 pY) ∧ w'.cell? ⟨w12.heap.size, 0, none⟩ = some (.int .i64 pX) ∧ w'.cell? ⟨w12.heap.size, 1, none⟩ = some (.int .i64 pY)) (by kernel_rfl) ?_ (fun hHeld => ?_)
      · exact ⟨t0_, t1_, t2_, t3_, t4_, t5_, t6_, t7_, t8_, mC, k1, k2, k3, k4, k5, k6, k7, k8, k9, p0_, p1_, q0_, q1_⟩
      refine ty (i := 0) (v := ?vlk010) rfl ?hylk010 ?_
      case hylk010 => (intro w hSw; (try dsimp only at hSw); go_simp <;> with_reducible rfl)
      simp only [Act.put, ps1, ps2, ps3]
      refine ty (i := 1) (v := ?vlk011) rfl ?hylk011 ?_
      case hylk011 => (intro w hSw; (try dsimp only at hSw); go_simp <;> with_reducible rfl)
      simp only [Act.put, ps1, ps2, ps3]
      refine ty (i := 2) (v := ?vlk012) rfl ?hylk012 ?_
      case hylk012 => (intro w hSw; (try dsimp only at hSw); go_simp <;> with_reducible rfl)
      simp only [Act.put, ps1, ps2, ps3]
      refine ty (i := 3) (v := ?vlk013) rfl ?hylk013 ?_
      case hylk013 => (intro w hSw; (try dsimp only at hSw); go_simp <;> with_reducible rfl)
      simp only [Act.put, ps1, ps2, ps3]
      refine ty (i := 4) (v := ?vlk014) rfl ?hylk014 ?_
      case hylk014 => (intro w hSw; (try dsimp only at hSw); go_simp <;> with_reducible rfl)
      simp only [Act.put, ps1, ps2, ps3]
      refine ty (i := 5) (v := ?vlk015) rfl ?hylk015 ?_
      case hylk015 => (intro w hSw; (try dsimp only at hSw); go_simp <;> with_reducible rfl)
      simp only [Act.put, ps1, ps2, ps3]
      refine ty (i := 6) (v := ?vlk016) rfl ?hylk016 ?_
      case hylk016 => (intro w hSw; (try dsimp only at hSw); go_simp <;> with_reducible rfl)
      simp only [Act.put, ps1, ps2, ps3]
      refine ty (i := 7) (v := ?vlk017) rfl ?hylk017 ?_
      case hylk017 => (intro w hSw; (try dsimp only at hSw); go_simp <;> with_reducible rfl)
      simp only [Act.put, ps1, ps2, ps3]
      refine ty (i := 8) (v := ?vlk018) rfl ?hylk018 ?_
      case hylk018 => (intro w hSw; (try dsimp only at hSw); go_simp <;> with_reducible rfl)
      simp only [Act.put, ps1, ps2, ps3]
      refine ty (i := 9) (v := ?vlk019) rfl ?hylk019 ?_
      case hylk019 => (intro w hSw; (try dsimp only at hSw); go_simp <;> with_reducible rfl)
      simp only [Act.put, ps1, ps2, ps3]
      refine ty (i := 10) (v := ?vlk0110) rfl ?hylk0110 ?_
      case hylk0110 => (intro w hSw; (try dsimp only at hSw); go_simp <;> with_reducible rfl)
      simp only [Act.put, ps1, ps2, ps3]
      refine ty (i := 11) (v := ?vlk0111) rfl ?hylk0111 ?_
      case hylk0111 => (intro w hSw; (try dsimp only at hSw); go_simp <;> with_reducible rfl)
      simp only [Act.put, ps1, ps2, ps3]
      refine ty (i := 12) (v := ?vlk0112) rfl ?hylk0112 ?_
      case hylk0112 => (intro w hSw; (try dsimp only at hSw); go_simp <;> with_reducible rfl)
      simp only [Act.put, ps1, ps2, ps3]
      refine ty (i := 13) (v := ?vlk0113) rfl ?hylk0113 ?_
      case hylk0113 => (intro w hSw; (try dsimp only at hSw); go_simp <;> with_reducible rfl)
      simp only [Act.put, ps1, ps2, ps3]
      refine ty (i := 14) (v := ?vlk0114) rfl ?hylk0114 ?_
      case hylk0114 => (intro w hSw; (try dsimp only at hSw); go_simp <;> with_reducible rfl)
      simp only [Act.put, ps1, ps2, ps3]
      refine ty (i := 15) (v := ?vlk0115) rfl ?hylk0115 ?_
      case hylk0115 => (intro w hSw; (try dsimp only at hSw); go_simp <;> with_reducible rfl)
      simp only [Act.put, ps1, ps2, ps3]
      refine ty (i := 16) (v := ?vlk0116) rfl ?hylk0116 ?_
      case hylk0116 => (intro w hSw; (try dsimp only at hSw); go_simp <;> with_reducible rfl)
      simp only [Act.put, ps1, ps2, ps3]
      refine ty (i := 17) (v := ?vlk0117) rfl ?hylk0117 ?_
      case hylk0117 => (intro w hSw; (try dsimp only at hSw); go_simp <;> with_reducible rfl)
      simp only [Act.put, ps1, ps2, ps3]
      refine ty (i := 18) (v := ?vlk0118) rfl ?hylk0118 ?_
      case hylk0118 => (intro w hSw; (try dsimp only at hSw); go_simp <;> with_reducible rfl)
      simp only [Act.put, ps1, ps2, ps3]
      refine take_call (i := 19) rfl (by kernel_rfl) (fun Kc hK => ?_)
      go_simp
      (go_at_call 14; refine (lives11_of HH.out u12.drew).mono ?_; rintro e w14 ⟨rfl, b14⟩)
      refine hK.out _ _ ?_ (fun hHeld => ?_)
      · exact ⟨(b14.cell (p := ⟨w4.heap.size, 0, none⟩) h4l).trans t0_, (b14.cell (p := ⟨w4.heap.size, 1, none⟩) h4l).trans t1_, (b14.cell (p := ⟨w4.heap.size, 2, none⟩) h4l).trans t2_, (b14.cell (p := ⟨w4.heap.size, 3, none⟩) h4l).trans t3_, (b14.cell (p := ⟨w4.heap.size, 4, none⟩) h4l).trans t4_, (b14.cell (p := ⟨w4.heap.size, 5, none⟩) h4l).trans t5_, (b14.cell (p := ⟨w4.heap.size, 6, none⟩) h4l).trans t6_, (b14.cell (p := ⟨w4.heap.size, 7, none⟩) h4l).trans t7_, (b14.cell (p := ⟨w4.heap.size, 8, none⟩) h4l).trans t8_, (b14.cell (p := ⟨px, 4, none⟩) hpxl).trans mC, (b14.cell (p := ⟨gC, fi * 10 + 1, none⟩) hgxl).trans k1, (b14.cell (p := ⟨gC, fi * 10 + 2, none⟩) hgxl).trans k2, (b14.cell (p := ⟨gC, fi * 10 + 3, none⟩) hgxl).trans k3, (b14.cell (p := ⟨gC, fi * 10 + 4, none⟩) hgxl).trans k4, (b14.cell (p := ⟨gC, fi * 10 + 5, none⟩) hgxl).trans k5, (b14.cell (p := ⟨gC, fi * 10 + 6, none⟩) hgxl).trans k6, (b14.cell (p := ⟨gC, fi * 10 + 7, none⟩) hgxl).trans k7, (b14.cell (p := ⟨gC, fi * 10 + 8, none⟩) hgxl).trans k8, (b14.cell (p := ⟨gC, fi * 10 + 9, none⟩) hgxl).trans k9, (b14.cell (p := ⟨w5.heap.size, 0, none⟩) h5l).trans p0_, (b14.cell (p := ⟨w5.heap.size, 1, none⟩) h5l).trans p1_, (b14.cell (p := ⟨w12.heap.size, 0, none⟩) h12l).trans q0_, (b14.cell (p := ⟨w12.heap.size, 1, none⟩) h12l).trans q1_⟩
      clear hK Kc
      refine ty (i := 20) (v := ?vlk0120) rfl ?hylk0120 ?_
      case hylk0120 => (intro w hSw; (try dsimp only at hSw); go_simp <;> with_reducible rfl)
      simp only [Act.put, ps1, ps2, ps3]
      refine ty (i := 21) (v := ?vlk0121) rfl ?hylk0121 ?_
      case hylk0121 => (intro w hSw; (try dsimp only at hSw); go_simp <;> with_reducible rfl)
      simp only [Act.put, ps1, ps2, ps3]
      refine wpAnyH_done (by kernel_rfl) ?_ _
      go_wp2
      go_ret
      exact ⟨rfl, B13.drew.trans (b14.mono (by simp; omega))⟩
  · rcases fAt_cases Ce.no f S.C with ⟨fa, fb⟩ | ⟨fi, fx, fa, fb, fc⟩
    · skip
      have bvE : bv = true := by rw [← HB2.out, HIA.out, va]; exact decide_eq_true (by omega)
      have bfE : bf = false := by rw [← HF2.out, HJA.out, fa]; rfl
      subst bvE
      subst bfE
      obtain rfl : ia = (vi : Int) := HIA.out.trans va
      obtain rfl : v = vx := HV.out.trans (vertOf_at va vb)
      have hvl := (List.getElem?_eq_some_iff.1 vb).1
      have ga : (0 : Int) ≤ (vi : Int) := by omega
      have gb : decide ((vi : Int) < 0) = false := decide_eq_false (by omega)
      have gd : decide ((0 : Int) ≤ (vi : Int)) = true := decide_eq_true ga
      obtain rfl : ja = -1 := HJA.out.trans fa
      have heqt := eq_trz (HT.out.trans (faceOf_no fb))
      obtain ⟨ex, ey⟩ := HPC.out rfl
      have HEX : Hid _ := ex
      have HEY : Hid _ := ey
      clear ex ey
      clear HPX HPC
      go_wp2_with (go_at_call 21; fail)
      refine (HH.out.around w1.heap.size pm S 40 Fm w7 M7.out HK.out (by decide) f hf Mr HMR.out).mono ?_
      rintro e w8 ⟨a8, c8, rfl, o8, b8⟩
      have z8 := b8.size
      go_wp2_with (go_at_call 22; fail)
      refine (mrAround px S f w8 (X7.out.look.below b8) (by omega) HMR.out).mono ?_
      rintro e w9 ⟨a9, c9, rfl, o9, b9⟩
      have z9 := b9.size
      go_wp2_with (go_at_call 20; fail)
      refine (anInts a8 a9 Mr.length c8 c9 Mr w9 (o8.below b9).sl o9.sl (by omega)).mono ?_
      rintro e w10 ⟨rfl, b10⟩
      have z10 := b10.size
      have X10 : Hid _ := ((X7.out.below b8).below b9).below b10
      have V10 := ((V7.below b8 (by omega)).below b9 (by omega)).below b10 (by omega)
      have T10 := ((T7.below b8 (by omega)).below b9 (by omega)).below b10 (by omega)
      have P10 := ((P7.below b8 (by omega)).below b9 (by omega)).below b10 (by omega)
      have B10 : Below w.heap.size w w10 := ((B7.trans (b8.mono (by omega))).trans (b9.mono (by omega))).trans (b10.mono (by omega))
      have v0_ := V10.cell 0 _ rfl
      have v1_ := V10.cell 1 _ rfl
      have v2_ := V10.cell 2 _ rfl
      have v3_ := V10.cell 3 _ rfl
      have t0_ := T10.cell 0 _ rfl
      have t1_ := T10.cell 1 _ rfl
      have t2_ := T10.cell 2 _ rfl
      have t3_ := T10.cell 3 _ rfl
      have t4_ := T10.cell 4 _ rfl
      have t5_ := T10.cell 5 _ rfl
      have t6_ := T10.cell 6 _ rfl
      have t7_ := T10.cell 7 _ rfl
      have t8_ := T10.cell 8 _ rfl
      have p0_ := P10.cell 0 _ rfl
      have p1_ := P10.cell 1 _ rfl
      have heqv := eq_vt v
      obtain ⟨gv, cv, x1, x2, x3, hrv, hcv, hbv, k0, k1, k2, k3⟩ := X10.out.look.vert vb
      have mv := hrv.cell 3 _ rfl
      obtain ⟨nv, hnv⟩ : ∃ nv, nv = S.V.length := ⟨_, rfl⟩
      rw [← hnv] at mv hcv hvl
      have hvli : (vi : Int) < (nv : Int) := by omega
      clear hrv hnv
      clear va vb
      clear vc
      go_wp2
      go_quiet (fail)
      obtain ⟨w11, hw11⟩ : ∃ x, x = w10.drewN nq := ⟨_, rfl⟩
      have b11 : Below w10.heap.size w10 w11 := by rw [hw11]; exact ⟨rfl, rfl, rfl, Nat.le_refl _, fun _ _ => rfl⟩
      rw [← hw11]
      have z11 := b11.size
      clear hw11
      clear v0_ v1_ v2_ v3_ t0_ t1_ t2_ t3_ t4_ t5_ t6_ t7_ t8_ p0_ p1_ k0 k1 k2 k3 mv V10 V7
      have X11 : Hid _ := X10.out.below b11
      have T11 := T10.below b11 (by omega)
      have P11 := P10.below b11 (by omega)
      have B11 : Below w.heap.size w w11 := B10.trans (b11.mono (by omega))
      have hpX := HEX.out
      have hpY := HEY.out
      subst hpX
      subst hpY
      clear fa fb HEX HEY
      have t0_ := T11.cell 0 _ rfl
      have t1_ := T11.cell 1 _ rfl
      have t2_ := T11.cell 2 _ rfl
      have t3_ := T11.cell 3 _ rfl
      have t4_ := T11.cell 4 _ rfl
      have t5_ := T11.cell 5 _ rfl
      have t6_ := T11.cell 6 _ rfl
      have t7_ := T11.cell 7 _ rfl
      have t8_ := T11.cell 8 _ rfl
      have p0_ := P11.cell 0 _ rfl
      have p1_ := P11.cell 1 _ rfl
      go_wp2_with (go_at_call 14; fail)
      refine (lives11_of HH.out w11).mono ?_
      rintro e w14 ⟨rfl, b14⟩
      go_wp2
      go_ret
      exact ⟨rfl, B11.trans (b14.mono (by omega))⟩
    · skip
      have bvE : bv = true := by rw [← HB2.out, HIA.out, va]; exact decide_eq_true (by omega)
      have bfE : bf = true := by rw [← HF2.out, HJA.out, fa]; exact decide_eq_true (by omega)
      subst bvE
      subst bfE
      obtain rfl : ia = (vi : Int) := HIA.out.trans va
      obtain rfl : v = vx := HV.out.trans (vertOf_at va vb)
      have hvl := (List.getElem?_eq_some_iff.1 vb).1
      have ga : (0 : Int) ≤ (vi : Int) := by omega
      have gb : decide ((vi : Int) < 0) = false := decide_eq_false (by omega)
      have gd : decide ((0 : Int) ≤ (vi : Int)) = true := decide_eq_true ga
      obtain rfl : ja = (fi : Int) := HJA.out.trans fa
      obtain rfl : t = fx.t := HT.out.trans (faceOf_at fa fb)
      have hfl := (List.getElem?_eq_some_iff.1 fb).1
      have fga : (0 : Int) ≤ (fi : Int) := by omega
      have fgb : decide ((fi : Int) < 0) = false := decide_eq_false (by omega)
      have fgd : decide ((0 : Int) ≤ (fi : Int)) = true := decide_eq_true fga
      have HPX' := HPX
      go_wp2_with (go_at_call 21; fail)
      refine (HH.out.around w1.heap.size pm S 40 Fm w7 M7.out HK.out (by decide) f hf Mr HMR.out).mono ?_
      rintro e w8 ⟨a8, c8, rfl, o8, b8⟩
      have z8 := b8.size
      go_wp2_with (go_at_call 22; fail)
      refine (mrAround px S f w8 (X7.out.look.below b8) (by omega) HMR.out).mono ?_
      rintro e w9 ⟨a9, c9, rfl, o9, b9⟩
      have z9 := b9.size
      go_wp2_with (go_at_call 20; fail)
      refine (anInts a8 a9 Mr.length c8 c9 Mr w9 (o8.below b9).sl o9.sl (by omega)).mono ?_
      rintro e w10 ⟨rfl, b10⟩
      have z10 := b10.size
      have X10 : Hid _ := ((X7.out.below b8).below b9).below b10
      have V10 := ((V7.below b8 (by omega)).below b9 (by omega)).below b10 (by omega)
      have T10 := ((T7.below b8 (by omega)).below b9 (by omega)).below b10 (by omega)
      have P10 := ((P7.below b8 (by omega)).below b9 (by omega)).below b10 (by omega)
      have B10 : Below w.heap.size w w10 := ((B7.trans (b8.mono (by omega))).trans (b9.mono (by omega))).trans (b10.mono (by omega))
      have v0_ := V10.cell 0 _ rfl
      have v1_ := V10.cell 1 _ rfl
      have v2_ := V10.cell 2 _ rfl
      have v3_ := V10.cell 3 _ rfl
      have t0_ := T10.cell 0 _ rfl
      have t1_ := T10.cell 1 _ rfl
      have t2_ := T10.cell 2 _ rfl
      have t3_ := T10.cell 3 _ rfl
      have t4_ := T10.cell 4 _ rfl
      have t5_ := T10.cell 5 _ rfl
      have t6_ := T10.cell 6 _ rfl
      have t7_ := T10.cell 7 _ rfl
      have t8_ := T10.cell 8 _ rfl
      have p0_ := P10.cell 0 _ rfl
      have p1_ := P10.cell 1 _ rfl
      have heqv := eq_vt v
      obtain ⟨gv, cv, x1, x2, x3, hrv, hcv, hbv, k0, k1, k2, k3⟩ := X10.out.look.vert vb
      have mv := hrv.cell 3 _ rfl
      obtain ⟨nv, hnv⟩ : ∃ nv, nv = S.V.length := ⟨_, rfl⟩
      rw [← hnv] at mv hcv hvl
      have hvli : (vi : Int) < (nv : Int) := by omega
      clear hrv hnv
      clear va vb
      clear vc
      go_wp2
      go_quiet (fail)
      obtain ⟨w11, hw11⟩ : ∃ x, x = w10.drewN nq := ⟨_, rfl⟩
      have b11 : Below w10.heap.size w10 w11 := by rw [hw11]; exact ⟨rfl, rfl, rfl, Nat.le_refl _, fun _ _ => rfl⟩
      rw [← hw11]
      have z11 := b11.size
      clear hw11
      clear v0_ v1_ v2_ v3_ t0_ t1_ t2_ t3_ t4_ t5_ t6_ t7_ t8_ p0_ p1_ k0 k1 k2 k3 mv V10 V7
      have X11 : Hid _ := X10.out.below b11
      have T11 := T10.below b11 (by omega)
      have P11 := P10.below b11 (by omega)
      have B11 : Below w.heap.size w w11 := B10.trans (b11.mono (by omega))
      obtain ⟨gC, cpC, x4, x5, x6, hrC, hcC, hbC, HC⟩ := X11.out.look.face fb
      have mC := hrC.cell 4 _ rfl
      have hpl := hrC.lt
      have hcm := List.mem_of_getElem? fb
      have k1 := HC 1 _ rfl
      have k2 := HC 2 _ rfl
      have k3 := HC 3 _ rfl
      have k4 := HC 4 _ rfl
      have k5 := HC 5 _ rfl
      have k6 := HC 6 _ rfl
      have k7 := HC 7 _ rfl
      have k8 := HC 8 _ rfl
      have k9 := HC 9 _ rfl
      obtain ⟨nC, hnC⟩ : ∃ nC, nC = S.C.length := ⟨_, rfl⟩
      rw [← hnC] at mC hcC hfl
      have hfli : (fi : Int) < (nC : Int) := by omega
      clear hrC hnC HC fa fb fc
      go_wp2_with (go_at_call 23; fail)
      refine (mrPlace px S fx.t ci w11 hc3 X11.out.look (by omega) (n64_of HK.out) (vt64_of HK.out (by decide)) (tr64_of HK.out fx hcm) (HK.out.fi fx hcm ci hc3) (ok := true) (X := pX) (Y := pY) (HK.out.fo fx hcm ci hc3).symm (HPX.out (by simp)).1 (HPX.out (by simp)).2).mono ?_
      rintro e w12 ⟨rfl, b12⟩
      have z12 := b12.size
      obtain ⟨u12, hu12⟩ : ∃ u, u = w12.alloc (.cells ([.int .i64 pX, .int .i64 pY] : List Value).toArray 41) := ⟨_, rfl⟩
      have d12 : Below w12.heap.size w12 u12 := by rw [hu12]; exact (Below.refl _ _).alloc (Nat.le_refl _) _
      have y12 : u12.heap.size = w12.heap.size + 1 := by rw [hu12]; simp
      have P12 : Row u12 w12.heap.size [.int .i64 pX, .int .i64 pY] := by rw [hu12]; exact Row.new w12 _ _
      have hv12 : w12.alloc (.cells #[.int .i64 pX, .int .i64 pY] 41) = u12 := hu12.symm
      clear hu12
      have hgl : gC < w12.heap.size := by omega
      have hppl : px < w12.heap.size := by omega
      have T13 := (T11.below b12 (by omega)).below d12 (by omega)
      have P13 := (P11.below b12 (by omega)).below d12 (by omega)
      have mC := (d12.cell (p := ⟨px, 4, none⟩) hppl).trans ((b12.cell (p := ⟨px, 4, none⟩) hpl).trans mC)
      have k1 := (d12.cell (p := ⟨gC, fi * 10 + 1, none⟩) hgl).trans ((b12.cell (p := ⟨gC, fi * 10 + 1, none⟩) hbC).trans k1)
      have k2 := (d12.cell (p := ⟨gC, fi * 10 + 2, none⟩) hgl).trans ((b12.cell (p := ⟨gC, fi * 10 + 2, none⟩) hbC).trans k2)
      have k3 := (d12.cell (p := ⟨gC, fi * 10 + 3, none⟩) hgl).trans ((b12.cell (p := ⟨gC, fi * 10 + 3, none⟩) hbC).trans k3)
      have k4 := (d12.cell (p := ⟨gC, fi * 10 + 4, none⟩) hgl).trans ((b12.cell (p := ⟨gC, fi * 10 + 4, none⟩) hbC).trans k4)
      have k5 := (d12.cell (p := ⟨gC, fi * 10 + 5, none⟩) hgl).trans ((b12.cell (p := ⟨gC, fi * 10 + 5, none⟩) hbC).trans k5)
      have k6 := (d12.cell (p := ⟨gC, fi * 10 + 6, none⟩) hgl).trans ((b12.cell (p := ⟨gC, fi * 10 + 6, none⟩) hbC).trans k6)
      have k7 := (d12.cell (p := ⟨gC, fi * 10 + 7, none⟩) hgl).trans ((b12.cell (p := ⟨gC, fi * 10 + 7, none⟩) hbC).trans k7)
      have k8 := (d12.cell (p := ⟨gC, fi * 10 + 8, none⟩) hgl).trans ((b12.cell (p := ⟨gC, fi * 10 + 8, none⟩) hbC).trans k8)
      have k9 := (d12.cell (p := ⟨gC, fi * 10 + 9, none⟩) hgl).trans ((b12.cell (p := ⟨gC, fi * 10 + 9, none⟩) hbC).trans k9)
      have t0_ := T13.cell 0 _ rfl
      have t1_ := T13.cell 1 _ rfl
      have t2_ := T13.cell 2 _ rfl
      have t3_ := T13.cell 3 _ rfl
      have t4_ := T13.cell 4 _ rfl
      have t5_ := T13.cell 5 _ rfl
      have t6_ := T13.cell 6 _ rfl
      have t7_ := T13.cell 7 _ rfl
      have t8_ := T13.cell 8 _ rfl
      have p0_ := P13.cell 0 _ rfl
      have p1_ := P13.cell 1 _ rfl
      have q0_ := P12.cell 0 _ rfl
      have q1_ := P12.cell 1 _ rfl
      have heqt := eq_tri0 fx.t
      have B13 : Below w.heap.size w u12 := (B11.trans (b12.mono (by omega))).trans (d12.mono (by omega))
      go_wp2
      clear hv12
      have h4l : w4.heap.size < u12.heap.size := by omega
      have h5l : w5.heap.size < u12.heap.size := by omega
      have h12l : w12.heap.size < u12.heap.size := by omega
      have hpxl : px < u12.heap.size := by omega
      have hgxl : gC < u12.heap.size := by omega
      refine wp_region_held_drew (S := fun w' => w'.cell? ⟨w4.heap.size, 0, none⟩ = some (.int .i64 fx.t.v0) ∧ w'.cell? ⟨w4.heap.size, 1, none⟩ = some (.int .i64 fx.t.v1) ∧ w'.cell? ⟨w4.heap.size, 2, none⟩ = some (.int .i64 fx.t.v2) ∧ w'.cell? ⟨w4.heap.size, 3, none⟩ = some (.int .i64 fx.t.x0) ∧ w'.cell? ⟨w4.heap.size, 4, none⟩ = some (.int .i64 fx.t.y0) ∧ w'.cell? ⟨w4.heap.size, 5, none⟩ = some (.int .i64 fx.t.x1) ∧ w'.cell? ⟨w4.heap.size, 6, none⟩ = some (.int .i64 fx.t.y1) ∧ w'.cell? ⟨w4.heap.size, 7, none⟩ = some (.int .i64 fx.t.x2) ∧ w'.cell? ⟨w4.heap.size, 8, none⟩ = some (.int .i64 fx.t.y2) ∧ w'.cell? ⟨px, 4, none⟩ = some (.slice (some ⟨gC, 0, none⟩) nC cpC) ∧ w'.cell? ⟨gC, fi * 10 + 1, none⟩ = some (.int .i64 fx.t.v0) ∧ w'.cell? ⟨gC, fi * 10 + 2, none⟩ = some (.int .i64 fx.t.v1) ∧ w'.cell? ⟨gC, fi * 10 + 3, none⟩ = some (.int .i64 fx.t.v2) ∧ w'.cell? ⟨gC, fi * 10 + 4, none⟩ = some (.int .i64 fx.t.x0) ∧ w'.cell? ⟨gC, fi * 10 + 5, none⟩ = some (.int .i64 fx.t.y0) ∧ w'.cell? ⟨gC, fi * 10 + 6, none⟩ = some (.int .i64 fx.t.x1) ∧ w'.cell? ⟨gC, fi * 10 + 7, none⟩ = some (.int .i64 fx.t.y1) ∧ w'.cell? ⟨gC, fi * 10 + 8, none⟩ = some (.int .i64 fx.t.x2) ∧ w'.cell? ⟨gC, fi * 10 + 9, none⟩ = some (.int .i64 fx.t.y2) ∧ w'.cell? ⟨w5.heap.size, 0, none⟩ = some (.int .i64 pX) ∧ w'.cell? ⟨w5.heap.size, 1, none⟩ = some (.int .i64 pY) ∧ w'.cell? ⟨w12.heap.size, 0, none⟩ = some (.int .i64 pX) ∧ w'.cell? ⟨w12.heap.size, 1, none⟩ = some (.int .i64 pY)) (by kernel_rfl) ?_ (fun hHeld => ?_)
      · exact ⟨t0_, t1_, t2_, t3_, t4_, t5_, t6_, t7_, t8_, mC, k1, k2, k3, k4, k5, k6, k7, k8, k9, p0_, p1_, q0_, q1_⟩
      refine ty (i := 0) (v := ?vlk110) rfl ?hylk110 ?_
      case hylk110 => (intro w hSw; (try dsimp only at hSw); go_simp <;> with_reducible rfl)
      simp only [Act.put, ps1, ps2, ps3]
      refine ty (i := 1) (v := ?vlk111) rfl ?hylk111 ?_
      case hylk111 => (intro w hSw; (try dsimp only at hSw); go_simp <;> with_reducible rfl)
      simp only [Act.put, ps1, ps2, ps3]
      refine ty (i := 2) (v := ?vlk112) rfl ?hylk112 ?_
      case hylk112 => (intro w hSw; (try dsimp only at hSw); go_simp <;> with_reducible rfl)
      simp only [Act.put, ps1, ps2, ps3]
      refine ty (i := 3) (v := ?vlk113) rfl ?hylk113 ?_
      case hylk113 => (intro w hSw; (try dsimp only at hSw); go_simp <;> with_reducible rfl)
      simp only [Act.put, ps1, ps2, ps3]
      refine ty (i := 4) (v := ?vlk114) rfl ?hylk114 ?_
      case hylk114 => (intro w hSw; (try dsimp only at hSw); go_simp <;> with_reducible rfl)
      simp only [Act.put, ps1, ps2, ps3]
      refine ty (i := 5) (v := ?vlk115) rfl ?hylk115 ?_
      case hylk115 => (intro w hSw; (try dsimp only at hSw); go_simp <;> with_reducible rfl)
      simp only [Act.put, ps1, ps2, ps3]
      refine ty (i := 6) (v := ?vlk116) rfl ?hylk116 ?_
      case hylk116 => (intro w hSw; (try dsimp only at hSw); go_simp <;> with_reducible rfl)
      simp only [Act.put, ps1, ps2, ps3]
      refine ty (i := 7) (v := ?vlk117) rfl ?hylk117 ?_
      case hylk117 => (intro w hSw; (try dsimp only at hSw); go_simp <;> with_reducible rfl)
      simp only [Act.put, ps1, ps2, ps3]
      refine ty (i := 8) (v := ?vlk118) rfl ?hylk118 ?_
      case hylk118 => (intro w hSw; (try dsimp only at hSw); go_simp <;> with_reducible rfl)
      simp only [Act.put, ps1, ps2, ps3]
      refine ty (i := 9) (v := ?vlk119) rfl ?hylk119 ?_
      case hylk119 => (intro w hSw; (try dsimp only at hSw); go_simp <;> with_reducible rfl)
      simp only [Act.put, ps1, ps2, ps3]
      refine ty (i := 10) (v := ?vlk1110) rfl ?hylk1110 ?_
      case hylk1110 => (intro w hSw; (try dsimp only at hSw); go_simp <;> with_reducible rfl)
      simp only [Act.put, ps1, ps2, ps3]
      refine ty (i := 11) (v := ?vlk1111) rfl ?hylk1111 ?_
      case hylk1111 => (intro w hSw; (try dsimp only at hSw); go_simp <;> with_reducible rfl)
      simp only [Act.put, ps1, ps2, ps3]
      refine ty (i := 12) (v := ?vlk1112) rfl ?hylk1112 ?_
      case hylk1112 => (intro w hSw; (try dsimp only at hSw); go_simp <;> with_reducible rfl)
      simp only [Act.put, ps1, ps2, ps3]
      refine ty (i := 13) (v := ?vlk1113) rfl ?hylk1113 ?_
      case hylk1113 => (intro w hSw; (try dsimp only at hSw); go_simp <;> with_reducible rfl)
      simp only [Act.put, ps1, ps2, ps3]
      refine ty (i := 14) (v := ?vlk1114) rfl ?hylk1114 ?_
      case hylk1114 => (intro w hSw; (try dsimp only at hSw); go_simp <;> with_reducible rfl)
      simp only [Act.put, ps1, ps2, ps3]
      refine ty (i := 15) (v := ?vlk1115) rfl ?hylk1115 ?_
      case hylk1115 => (intro w hSw; (try dsimp only at hSw); go_simp <;> with_reducible rfl)
      simp only [Act.put, ps1, ps2, ps3]
      refine ty (i := 16) (v := ?vlk1116) rfl ?hylk1116 ?_
      case hylk1116 => (intro w hSw; (try dsimp only at hSw); go_simp <;> with_reducible rfl)
      simp only [Act.put, ps1, ps2, ps3]
      refine ty (i := 17) (v := ?vlk1117) rfl ?hylk1117 ?_
      case hylk1117 => (intro w hSw; (try dsimp only at hSw); go_simp <;> with_reducible rfl)
      simp only [Act.put, ps1, ps2, ps3]
      refine ty (i := 18) (v := ?vlk1118) rfl ?hylk1118 ?_
      case hylk1118 => (intro w hSw; (try dsimp only at hSw); go_simp <;> with_reducible rfl)
      simp only [Act.put, ps1, ps2, ps3]
      refine take_call (i := 19) rfl (by kernel_rfl) (fun Kc hK => ?_)
      go_simp
      (go_at_call 14; refine (lives11_of HH.out u12.drew).mono ?_; rintro e w14 ⟨rfl, b14⟩)
      refine hK.out _ _ ?_ (fun hHeld => ?_)
      · exact ⟨(b14.cell (p := ⟨w4.heap.size, 0, none⟩) h4l).trans t0_, (b14.cell (p := ⟨w4.heap.size, 1, none⟩) h4l).trans t1_, (b14.cell (p := ⟨w4.heap.size, 2, none⟩) h4l).trans t2_, (b14.cell (p := ⟨w4.heap.size, 3, none⟩) h4l).trans t3_, (b14.cell (p := ⟨w4.heap.size, 4, none⟩) h4l).trans t4_, (b14.cell (p := ⟨w4.heap.size, 5, none⟩) h4l).trans t5_, (b14.cell (p := ⟨w4.heap.size, 6, none⟩) h4l).trans t6_, (b14.cell (p := ⟨w4.heap.size, 7, none⟩) h4l).trans t7_, (b14.cell (p := ⟨w4.heap.size, 8, none⟩) h4l).trans t8_, (b14.cell (p := ⟨px, 4, none⟩) hpxl).trans mC, (b14.cell (p := ⟨gC, fi * 10 + 1, none⟩) hgxl).trans k1, (b14.cell (p := ⟨gC, fi * 10 + 2, none⟩) hgxl).trans k2, (b14.cell (p := ⟨gC, fi * 10 + 3, none⟩) hgxl).trans k3, (b14.cell (p := ⟨gC, fi * 10 + 4, none⟩) hgxl).trans k4, (b14.cell (p := ⟨gC, fi * 10 + 5, none⟩) hgxl).trans k5, (b14.cell (p := ⟨gC, fi * 10 + 6, none⟩) hgxl).trans k6, (b14.cell (p := ⟨gC, fi * 10 + 7, none⟩) hgxl).trans k7, (b14.cell (p := ⟨gC, fi * 10 + 8, none⟩) hgxl).trans k8, (b14.cell (p := ⟨gC, fi * 10 + 9, none⟩) hgxl).trans k9, (b14.cell (p := ⟨w5.heap.size, 0, none⟩) h5l).trans p0_, (b14.cell (p := ⟨w5.heap.size, 1, none⟩) h5l).trans p1_, (b14.cell (p := ⟨w12.heap.size, 0, none⟩) h12l).trans q0_, (b14.cell (p := ⟨w12.heap.size, 1, none⟩) h12l).trans q1_⟩
      clear hK Kc
      refine ty (i := 20) (v := ?vlk1120) rfl ?hylk1120 ?_
      case hylk1120 => (intro w hSw; (try dsimp only at hSw); go_simp <;> with_reducible rfl)
      simp only [Act.put, ps1, ps2, ps3]
      refine ty (i := 21) (v := ?vlk1121) rfl ?hylk1121 ?_
      case hylk1121 => (intro w hSw; (try dsimp only at hSw); go_simp <;> with_reducible rfl)
      simp only [Act.put, ps1, ps2, ps3]
      refine wpAnyH_done (by kernel_rfl) ?_ _
      go_wp2
      go_ret
      exact ⟨rfl, B13.drew.trans (b14.mono (by simp; omega))⟩
end Go.Proofs.YtjdeehffbgpenaaGreat
