/-
  HoleLong: a hole of too many corners, or of two, is not filled.
-/
import Derived.Test.YtkmgndaholglhaaP7
import Derived.Test.YtkmgndaholglhaaChecked
import Derived.Test.YtkmgndaholglhaaRows
import Derived.Deep.RegionHeld3
import Derived.ProofKit
import Derived.OpenShut
import Derived.Lib.SmallJoins
namespace Go.Proofs.Ytkmgndaholglhaa
open Go.RowKit
set_option linter.unusedVariables false

namespace hlong
open Go.ChangeShapes Go.WideShapes Go.ChangeAt Go.Joins
theorem bd_u16 {x : Int} (h : (Lit.int .u16 x).wf = true) : 0 ≤ x ∧ x ≤ 65535 := by
  simp [Lit.wf, IntKind.min, IntKind.max, IntKind.signed, IntKind.bits] at h
  exact ⟨by omega, by omega⟩
theorem long_none {L : List Pt} (h : L.length < 3 ∨ 500 < L.length) : fillTop L = none := by unfold fillTop; exact if_pos h
theorem told_none {L : List Pt} (h : L.length < 3 ∨ 500 < L.length) {B : Nat} {a : Option Addr} {m c : Nat} {q : Bool} {w : World} (t : FillTold B [] (fillTop L) a m c q w) : q = false ∧ a = none ∧ m = 0 ∧ c = 0 := by
  rw [long_none h] at t; exact t
theorem nought_pts : ∀ n : Nat, (madeCells #[.int .i64 0, .int .i64 0] (n * 2)).toList = pcells (List.replicate n (0, 0)) := by
  intro n
  apply List.ext_getElem?
  intro j
  have hl : (pcells (List.replicate n ((0 : Int), (0 : Int)))).length = n * 2 := by rw [pcells_length, List.length_replicate]
  by_cases hj : j < n * 2
  · have e1 : (madeCells #[Value.int .i64 0, .int .i64 0] (n * 2)).toList[j]? = some (.int .i64 0) := by
      simp only [madeCells, Array.toList_map, Array.toList_range, List.getElem?_map, List.getElem?_range hj, Option.map_some]
      show some (#[Value.int .i64 0, .int .i64 0][j % 2]!) = _
      rcases (show j % 2 = 0 ∨ j % 2 = 1 by omega) with q | q <;> rw [q] <;> rfl
    rw [e1]
    symm
    obtain ⟨e2, e3⟩ := pcells_at (List.replicate n ((0 : Int), (0 : Int))) (j / 2) 0 0 (by rw [List.getElem?_replicate, if_pos (by omega)])
    rcases (show j % 2 = 0 ∨ j % 2 = 1 by omega) with q | q
    · rw [show j / 2 * 2 = j by omega] at e2; exact e2
    · rw [show j / 2 * 2 + 1 = j by omega] at e3; exact e3
  · rw [List.getElem?_eq_none (by simp [madeCells]; omega), List.getElem?_eq_none (by omega)]
set_option maxRecDepth 100000 in
set_option maxHeartbeats 8000000 in
theorem walk (n : Int) (hn1 : 0 ≤ n) (hn2 : n ≤ 65535) (x y : Int) (hx1 : -9223372036854775808 ≤ x) (hx2 : x ≤ 9223372036854775807) (hy1 : -9223372036854775808 ≤ y) (hy2 : y ≤ 9223372036854775807) (w : World) :
    Calls Try.prog 4 #[.int .u16 n, .agg #[.int .i64 x, .int .i64 y]] w fun e w' => e = .returned (.bool true) ∧ Below w.heap.size w w' := by
  obtain ⟨i0, hi0, hz0, hz1, hz2⟩ := info_of infoPtH
  obtain ⟨W, hW⟩ : ∃ W, W = w.alloc (.cells #[.int .i64 x, .int .i64 y] 31) := ⟨_, rfl⟩
  have bW : Below w.heap.size w W := by rw [hW]; exact (Below.refl _ _).alloc (Nat.le_refl _) _
  have HZ : Hid (W.heap.size = w.heap.size + 1) := by unfold Hid; rw [hW]; simp
  have RW : Row W w.heap.size [.int .i64 x, .int .i64 y] := by rw [hW]; exact Row.new w _ _
  have HW : w.alloc (.cells #[.int .i64 x, .int .i64 y] 31) = W := hW.symm
  obtain ⟨m, hm⟩ : ∃ m : Nat, (m : Int) = 501 + n % 500 := ⟨(501 + n % 500).toNat, by omega⟩
  have hm2 : 501 ≤ m ∧ m ≤ 1000 := by omega
  have HM : Hid (501 + n % 500 = (m : Int)) := hm.symm
  clear hW hm hx1 hx2 hy1 hy2
  go_enter Try.func4, Try.ntmps4
  go_wp2_with (at_make; go_loud (refine wpList_make_full _ rfl _ _ 22 rfl W.heap.size 31 i0 _ 2 Try.underlying22 hi0 hz0 hz1 _ _ _ _ m rfl rfl HM.out HM.out (by rw [hz2]; omega) (by unfold maxLen; omega) (Nat.le_refl _) ?_; intro w1 ow1 gr1))
  have b1 : Below W.heap.size W w1 := Below.to gr1
  have ow2 : OwnS w1 W.heap.size 31 2 (some ⟨W.heap.size, 0, none⟩) m m (pcells (List.replicate m (0, 0))) := by rw [← nought_pts]; exact ow1
  have z1 := b1.size
  have zZ := HZ.out
  have PS1 : PSl w1 (some ⟨W.heap.size, 0, none⟩) m m (List.replicate m (0, 0)) := by
    obtain ⟨b, e, h1, _, h2⟩ := ow2.at (by omega)
    cases e
    exact ⟨List.length_replicate, Nat.le_refl _, (by intro e; cases e), Or.inr ⟨_, 0, rfl, h1, h2⟩⟩
  have CF : Hid _ := hFillTop _ m m _ w1 PS1 (by omega)
  have R1 : Row w1 w.heap.size [.int .i64 x, .int .i64 y] := RW.below b1 (by omega)
  clear ow1 ow2 PS1 gr1 RW HW zZ
  refine Calls.mono CF.out ?_
  rintro e w2 ⟨⟨a, mm, c, q, rfl, told⟩, b2⟩
  obtain ⟨rfl, rfl, rfl, rfl⟩ := told_none (Or.inr (by rw [List.length_replicate]; omega)) told
  have z2 := b2.size
  have lw : w.heap.size < w1.heap.size := by have := HZ.out; omega
  have R2' := R1.below b2 lw
  have r0 := R2'.cell 0 _ rfl
  have r1 := R2'.cell 1 _ rfl
  obtain ⟨V, hV⟩ : ∃ V, V = w2.alloc (.cells #[.int .i64 x, .int .i64 y, .int .i64 x, .int .i64 y] 31) := ⟨_, rfl⟩
  have bV : Below w2.heap.size w2 V := by rw [hV]; exact (Below.refl _ _).alloc (Nat.le_refl _) _
  have zV : w2.heap.size < V.heap.size := by rw [hV]; simp
  have RV : Row V w2.heap.size (pcells [(x, y), (x, y)]) := by rw [hV]; exact Row.new w2 _ _
  have PS2 : PSl V (some ⟨w2.heap.size, 0, none⟩) 2 2 [(x, y), (x, y)] := ⟨rfl, Nat.le_refl _, (by intro e; cases e), Or.inr ⟨_, 0, rfl, zV, RV.seg⟩⟩
  have CF2 : Hid _ := hFillTop _ 2 2 _ V PS2 (by omega)
  have HV : w2.alloc (.cells #[.int .i64 x, .int .i64 y, .int .i64 x, .int .i64 y] 31) = V := hV.symm
  have b0V : Below w.heap.size w V := also (also (also bW b1) b2) bV
  clear CF told R1 R2' hV RV PS2
  go_wp2_with (go_at_call 5; fail)
  refine Calls.mono CF2.out ?_
  rintro e w3 ⟨⟨a, mm, c, q, rfl, told⟩, b3⟩
  obtain ⟨rfl, rfl, rfl, rfl⟩ := told_none (Or.inl (by show 2 < 3; decide)) told
  have b03 : Below w.heap.size w w3 := also b0V b3
  have CL : Hid _ := hLives w3
  clear CF2 told HV r0 r1
  go_wp2_with (go_at_call 8; fail)
  refine Calls.mono CL.out ?_
  rintro e w4 ⟨rfl, b4⟩
  clear CL
  go_wp2
  go_ret
  exact ⟨rfl, also b03 b4⟩
theorem own : ownKnob Try.prog.godebug = none := by kernel_rfl
theorem cells_pt : Try.prog.cellsOf 31 = 2 := by kernel_rfl
theorem reads_pt {H : Type} (enc : TypeId × Value → H) (W : World) (bs : Nat) (sp : Nat → Bool) (hd : Bool) {a b : Int} (wa : (Lit.int .i64 a).wf = true) (wb : (Lit.int .i64 b).wf = true) : DataW.Trod enc Try.prog W bs sp hd 31 (.agg #[.int .i64 a, .int .i64 b]) (.agg [.lit (.int .i64 a), .lit (.int .i64 b)]) [] :=
  shut_agg2 (y0 := (.lit (.int .i64 a), [])) (y1 := (.lit (.int .i64 b), [])) Try.underlying31 (by kernel_rfl) cells_pt ⟨1, by simp [DataW.trod, Try.underlying2, wa]⟩ ⟨1, by simp [DataW.trod, Try.underlying2, wb]⟩
set_option maxRecDepth 100000 in
theorem lifted (os : Os) (started : os.Started) (H : Type) (enc : TypeId × Value → H) :
    ReturnsInHanded {} Try.checked os 4 .any (Rows.holeLongSpec.pre6 enc Try.prog Try.f4 Rows.holeLongRow.domain false) (Rows.holeLongSpec.post enc Try.prog Try.f4 false true false false) := by
  refine returnsInHanded_of_change (C := Try.checked) own started (by kernel_rfl) Try.func4
    (ChangeSpec.witness6 (enc := enc) (C := Try.checked) false ⟨#[], #[.int .u16 0, .agg #[.int .i64 0, .int .i64 0]], []⟩ 8 (by kernel_rfl) (by kernel_rfl) (by kernel_rfl) (by kernel_rfl)) ?_
  intro W base args ds gs before hval0 hW hcnd _
  have hval : ∀ (j : Nat) t v, Try.f4.params[j]? = some t → args[j]? = some v → Value.okWide Try.prog W .any base t v := hval0
  have hW' := hW
  obtain ⟨p, q, hA0, hV, rfl, hfz, hnd⟩ := hW
  have hA : DataW.TrodAll enc Try.prog W 0 (fun _ => true) true Try.f4.params.toList args.toList ds p := hA0
  rw [Try.params4] at hA hval
  obtain ⟨v0, vs0, d0, ds0, p0, q0, hargs, rfl, rfl, h0, r0⟩ := trodAll_cons hA
  obtain ⟨v1, vs1, d1, ds1, p1, q1, rfl, rfl, rfl, h1, r1⟩ := trodAll_cons r0
  obtain ⟨rfl, rfl, rfl⟩ := trodAll_nil r1
  obtain rfl : args = #[v0, v1] := by cases args; simp_all
  obtain ⟨rfl, rfl⟩ := trodVars_none hV
  obtain ⟨a0, rfl, rfl, rfl, w0⟩ := open_int Try.underlying29 (hval 0 29 v0 rfl rfl) h0
  obtain ⟨x1, y1, g1, k1, m1, rfl, rfl, rfl, hx1, hy1⟩ := open_agg2 Try.underlying31 (by kernel_rfl) cells_pt (hval 1 31 v1 rfl rfl) h1
  obtain ⟨a1, ex1, rfl, wa1⟩ := DataW.trod_int Try.underlying2 hx1
  obtain ⟨b1, ey1, rfl, wb1⟩ := DataW.trod_int Try.underlying2 hy1
  simp at ex1 ey1
  subst ex1 ey1
  clear hA0 hval0
  have hwalk := walk a0 (bd_u16 w0).1 (bd_u16 w0).2 a1 b1 (bd_i64 wa1).1 (bd_i64 wa1).2 (bd_i64 wb1).1 (bd_i64 wb1).2 W
  refine hwalk.mono fun e W' ⟨he, bel⟩ => ?_
  subst he
  exact ⟨_, rfl, _, _, _, [], _, [], hW', trodAll_mk1 (shut_bool Try.underlying4 _), (trodAll_cons_mk (shut_int Try.underlying29 w0) (trodAll_cons_mk (reads_pt enc _ _ _ _ wa1 wb1) trodAll_mk0)), rfl, bel.frame _, fun h => by cases h⟩

/-- The statement. -/
theorem proved : Rows.HoleLongSaid :=
  OpenClaim.holds_of_wide 4 Try.f4 rfl rfl rfl rfl rfl rfl rfl ⟨rfl, rfl, rfl, rfl, rfl⟩ rfl rfl rfl rfl rfl (by kernel_rfl) Try.func4 (by kernel_rfl)
    (of_decide_eq_true (by kernel_rfl)) (by unfold Func.isWrapper; first | (rw [if_pos (by decide +kernel)]; kernel_rfl) | (rw [if_neg (by decide +kernel)]; exact ⟨rfl, rfl⟩))
    (fun os started H enc _ => lifted os started H enc)
#print axioms proved
end hlong
end Go.Proofs.Ytkmgndaholglhaa
