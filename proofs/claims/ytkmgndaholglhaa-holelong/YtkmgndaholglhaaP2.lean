/-
  Joined texts, part 2:
  What package pred's turn, Area2, Orient and Dist2 answer.
  A region whose order is open, with calls and blocks that are made at any time: what holds while some are done, kept by an invariant (no order is written out). It imports nothing of the program.
  What zelligeref03 answers, with letters for the lengths.
  What the calls of an open region may tell: a number of zelligeref04 (its digits lie in memory), or a value that is known.
  A region whose order is open and whose last operation writes what the others read: the condition S on the world is kept up to that operation, and not behind it. It imports nothing of the program.
  Numbers as digits to the base 256: which digits a sum, a difference, a product has. It imports nothing of the program.
  Numbers as digits to the base 18446744073709551616: which digits a sum, a difference, a product has. It imports nothing of the program.
  The arithmetic of a product, digit by digit. It imports nothing of the program.
  Plain arithmetic of numbers of two words: what word a sum, a difference and a product have. It imports nothing of the program.
  Plain arithmetic of numbers of four words. It imports nothing of the program.
  What package quad's sum, difference and negation answer, as words.
  What package quad's product answers, as words.
-/
import Derived.Test.YtkmgndaholglhaaP1
import Derived.Shelf.Abstract
import Derived.Lib.ItoaNum
import Derived.WalkKit
import Derived.Laws.BitsAllLaws
import Derived.Deep.RegionWith
import Derived.Deep.AppendLies
import Derived.Laws.Bits64b
import Derived.Test.YtkmgndaholglhaaRows
import Derived.WalkSpells
import Derived.StillTactics
import Derived.Laws.Pointers
import Derived.Laws.Externs
import Derived.Shelf.Spec.BitsCarry
import Derived.RowKit3
import Derived.Deep.RegionHeld3
import Derived.Deep.QuietTactic
import Derived.BigQuiet
import Derived.RegionTactic
namespace Go.Proofs.Ytkmgndaholglhaa
open Go.RowKit
set_option linter.unusedVariables false

set_option maxRecDepth 100000 in
set_option maxHeartbeats 4000000 in
theorem pArea (a1 a2 b1 b2 c1 c2 : Int) (w : World) {u v : Int} (hu : u = lw.hi (arP a1 a2 b1 b2 c1 c2)) (hv : v = lw.lo (arP a1 a2 b1 b2 c1 c2)) :
    Calls Try.prog 25 #[.agg #[.int .i64 a1, .int .i64 a2], .agg #[.int .i64 b1, .int .i64 b2], .agg #[.int .i64 c1, .int .i64 c2]] w fun e w' => e = .returned (.agg #[.int .i64 u, .int .u64 v]) ∧ Below w.heap.size w w' := by
  cases hq : canAll [(a1, a2), (b1, b2), (c1, c2)]
  · skip
    obtain rfl : u = 0 := by rw [hu]; unfold arP; rw [hq]; rfl
    obtain rfl : v = 0 := by rw [hv]; unfold arP; rw [hq]; rfl
    clear hu hv
    have HQ : Hid _ := hq
    clear hq
    obtain ⟨W, hW, bW, x_a, x_b, x_c, x_r, sW⟩ := bs_2222 w (.int .i64 a1) (.int .i64 a2) (.int .i64 b1) (.int .i64 b2) (.int .i64 c1) (.int .i64 c2) (.int .i64 0) (.int .u64 0) 31 31 31 49
    have zbW := bW.size
    have BB := bW
    go_enter Try.func25, Try.ntmps25
    go_wp2_with (go_at_call 42; fail)
    have eV : W.heap.size = w.heap.size + 1 + 1 + 1 + 1 := by rw [hW]; simp
    rw [← hW]
    clear hW
    obtain ⟨V, hV⟩ : ∃ V, V = (W.alloc (.cells #[.int .i64 a1, .int .i64 a2, .int .i64 b1, .int .i64 b2, .int .i64 c1, .int .i64 c2] 31)) := ⟨_, rfl⟩
    rw [← hV]
    have bV : Below W.heap.size W V := by rw [hV]; exact (Below.refl _ _).alloc (Nat.le_refl _) _
    have rV : Row V W.heap.size [.int .i64 a1, .int .i64 a2, .int .i64 b1, .int .i64 b2, .int .i64 c1, .int .i64 c2] := by rw [hV]; exact Row.new _ _ _
    have lV : W.heap.size < V.heap.size := by rw [hV]; simp
    clear hV
    rw [eV] at rV lV
    have zbV := bV.size
    replace BB := also BB bV
    replace x_a := x_a.on bV
    replace x_b := x_b.on bV
    replace x_c := x_c.on bV
    replace x_r := x_r.on bV
    refine (pcan [(a1, a2), (b1, b2), (c1, c2)] 3 _ V rfl (by decide) rV lV HQ.out.symm).mono ?_
    rintro e w1 ⟨rfl, bw1⟩
    have zbw1 := bw1.size
    replace BB := also BB bw1
    replace x_a := x_a.on bw1
    replace x_b := x_b.on bw1
    replace x_c := x_c.on bw1
    replace x_r := x_r.on bw1
    have ⟨x_a_0, x_a_1, x_a_2, x_a_3⟩ := x_a
    have ⟨x_b_0, x_b_1, x_b_2, x_b_3⟩ := x_b
    have ⟨x_c_0, x_c_1, x_c_2, x_c_3⟩ := x_c
    have ⟨x_r_0, x_r_1, x_r_2, x_r_3⟩ := x_r
    go_wp2
    exact bodyPost_ret (v := .agg #[.int .i64 0, .int .u64 0]) (by simp [results, Try.results25, go_sem, *]) rfl (⟨rfl, below_put2 BB (by omega) _ _⟩)
  · skip
    obtain ⟨ha, hb, hc⟩ := can3.1 hq
    have HU : Hid (u = lw.hi (areaP a1 a2 b1 b2 c1 c2)) := by unfold Hid; rw [hu]; unfold arP; rw [hq]; rfl
    have HV : Hid (v = lw.lo (areaP a1 a2 b1 b2 c1 c2)) := by unfold Hid; rw [hv]; unfold arP; rw [hq]; rfl
    clear hu hv
    have HQ : Hid _ := hq
    clear hq
    obtain ⟨W, hW, bW, x_a, x_b, x_c, x_r, sW⟩ := bs_2222 w (.int .i64 a1) (.int .i64 a2) (.int .i64 b1) (.int .i64 b2) (.int .i64 c1) (.int .i64 c2) (.int .i64 0) (.int .u64 0) 31 31 31 49
    have zbW := bW.size
    have BB := bW
    go_enter Try.func25, Try.ntmps25
    go_wp2_with (go_at_call 42; fail)
    have eV : W.heap.size = w.heap.size + 1 + 1 + 1 + 1 := by rw [hW]; simp
    rw [← hW]
    clear hW
    obtain ⟨V, hV⟩ : ∃ V, V = (W.alloc (.cells #[.int .i64 a1, .int .i64 a2, .int .i64 b1, .int .i64 b2, .int .i64 c1, .int .i64 c2] 31)) := ⟨_, rfl⟩
    rw [← hV]
    have bV : Below W.heap.size W V := by rw [hV]; exact (Below.refl _ _).alloc (Nat.le_refl _) _
    have rV : Row V W.heap.size [.int .i64 a1, .int .i64 a2, .int .i64 b1, .int .i64 b2, .int .i64 c1, .int .i64 c2] := by rw [hV]; exact Row.new _ _ _
    have lV : W.heap.size < V.heap.size := by rw [hV]; simp
    clear hV
    rw [eV] at rV lV
    have zbV := bV.size
    replace BB := also BB bV
    replace x_a := x_a.on bV
    replace x_b := x_b.on bV
    replace x_c := x_c.on bV
    replace x_r := x_r.on bV
    refine (pcan [(a1, a2), (b1, b2), (c1, c2)] 3 _ V rfl (by decide) rV lV HQ.out.symm).mono ?_
    rintro e w1 ⟨rfl, bw1⟩
    have zbw1 := bw1.size
    replace BB := also BB bw1
    replace x_a := x_a.on bw1
    replace x_b := x_b.on bw1
    replace x_c := x_c.on bw1
    replace x_r := x_r.on bw1
    have ⟨x_a_0, x_a_1, x_a_2, x_a_3⟩ := x_a
    have ⟨x_b_0, x_b_1, x_b_2, x_b_3⟩ := x_b
    have ⟨x_c_0, x_c_1, x_c_2, x_c_3⟩ := x_c
    have ⟨x_r_0, x_r_1, x_r_2, x_r_3⟩ := x_r
    go_wp2_with (go_at_call 43; fail)
    refine (parea a1 a2 b1 b2 c1 c2 w1 ha hb hc HU.out HV.out).mono ?_
    rintro e w2 ⟨rfl, bw2⟩
    clear x_a_0 x_a_1 x_a_2 x_a_3 x_b_0 x_b_1 x_b_2 x_b_3 x_c_0 x_c_1 x_c_2 x_c_3 x_r_0 x_r_1 x_r_2 x_r_3
    have zbw2 := bw2.size
    replace BB := also BB bw2
    replace x_a := x_a.on bw2
    replace x_b := x_b.on bw2
    replace x_c := x_c.on bw2
    replace x_r := x_r.on bw2
    have ⟨x_r_0, x_r_1, x_r_2, x_r_3⟩ := x_r
    go_wp2
    exact bodyPost_ret (v := .agg #[.int .i64 u, .int .u64 v]) (by simp [results, Try.results25, go_sem, *]) rfl (⟨rfl, below_put2 BB (by omega) _ _⟩)
set_option maxRecDepth 100000 in
set_option maxHeartbeats 4000000 in
theorem pOrient (a1 a2 b1 b2 c1 c2 : Int) (w : World) {g : Int} (hg : g = (arP a1 a2 b1 b2 c1 c2).sign) :
    Calls Try.prog 16 #[.agg #[.int .i64 a1, .int .i64 a2], .agg #[.int .i64 b1, .int .i64 b2], .agg #[.int .i64 c1, .int .i64 c2]] w fun e w' => e = .returned (.int .i64 g) ∧ Below w.heap.size w w' := by
  have hw := ar_wide a1 a2 b1 b2 c1 c2
  have HW : Hid (-170141183460469231731687303715884105728 ≤ arP a1 a2 b1 b2 c1 c2 ∧ arP a1 a2 b1 b2 c1 c2 < 170141183460469231731687303715884105728) := ⟨by omega, by omega⟩
  clear hw
  rw [← lw_sign] at hg
  have HG : Hid _ := hg
  clear hg
  obtain ⟨u, hu⟩ : ∃ u, u = lw.hi (arP a1 a2 b1 b2 c1 c2) := ⟨_, rfl⟩
  obtain ⟨v, hv⟩ : ∃ v, v = lw.lo (arP a1 a2 b1 b2 c1 c2) := ⟨_, rfl⟩
  have HU : Hid _ := hu
  have HV : Hid _ := hv
  clear hu hv
  obtain ⟨W, hW, bW, x_a, x_b, x_c, sW⟩ := bs_222 w (.int .i64 a1) (.int .i64 a2) (.int .i64 b1) (.int .i64 b2) (.int .i64 c1) (.int .i64 c2) 31 31 31
  have zbW := bW.size
  have BB := bW
  go_enter Try.func16, Try.ntmps16
  go_wp2_with (go_at_call 25; fail)
  rw [← hW]
  clear hW
  refine (pArea a1 a2 b1 b2 c1 c2 W HU.out HV.out).mono ?_
  rintro e w1 ⟨rfl, bw1⟩
  have zbw1 := bw1.size
  replace BB := also BB bw1
  replace x_a := x_a.on bw1
  replace x_b := x_b.on bw1
  replace x_c := x_c.on bw1
  go_wp2_with (go_at_call 24; fail)
  refine (lw.sign_any (arP a1 a2 b1 b2 c1 c2) HU.out HV.out HW.out.1 HW.out.2 w1).mono ?_
  rintro e w2 ⟨rfl, bw2⟩
  have zbw2 := bw2.size
  replace BB := also BB bw2
  replace x_a := x_a.on bw2
  replace x_b := x_b.on bw2
  replace x_c := x_c.on bw2
  go_wp2
  go_ret
  exact ⟨by rw [HG.out]; rfl, BB⟩
end Go.Proofs.Ytkmgndaholglhaa

namespace Go.Proofs.Ytkmgndaholglhaa
open Go.RowKit
set_option linter.unusedVariables false

/-- A function, changed at one place. -/
def upd {α : Type} (f : Nat → α) (i : Nat) (x : α) : Nat → α := fun j => if j = i then x else f j
theorem upd_same {α : Type} (f : Nat → α) (i : Nat) (x : α) : upd f i x i = x := by unfold upd; rw [if_pos rfl]
theorem upd_other {α : Type} (f : Nat → α) (i j : Nat) (x : α) (h : j ≠ i) : upd f i x j = f j := by unfold upd; rw [if_neg h]
/-- What is told of a result x (number j): R: what holds of it in the memory; A: which blocks it is apart from. R stays where old blocks stay, and a result is apart from blocks to come. -/
def GoodSp (Sp : Nat → Value → (World → Prop) → (Nat → Prop) → Prop) : Prop := ∀ j x R A, Sp j x R A → (∀ w w', R w → Below w.heap.size w w' → R w') ∧ ∀ w k, R w → w.heap.size ≤ k → A k
def nb (x : Bool) : Nat := match x with | true => 0 | false => 1
/-- b: which calls are done; e: which blocks are made, p: where; u, R, A: what a call told; v: the blocks' pointers. -/
structure Mk (U : World) (Z : Nat → List Value) (Sp : Nat → Value → (World → Prop) → (Nat → Prop) → Prop) (b e : Nat → Bool) (p : Nat → Nat) (R : Nat → World → Prop) (A : Nat → Nat → Prop) (u v : Nat → Value) (w : World) : Prop where
  spec : ∀ j, b j = true → Sp j (u j) (R j) (A j)
  res : ∀ j, b j = true → R j w
  ptr : ∀ i, e i = true → v i = .pointer (some ⟨p i, 0, none⟩)
  blk : ∀ i, e i = true → Row w (p i) (Z i)
  old : ∀ i, e i = true → U.heap.size ≤ p i
  lt : ∀ i, e i = true → p i < w.heap.size
  ne : ∀ i j, e i = true → e j = true → i ≠ j → p i ≠ p j
  ap : ∀ i j, e i = true → b j = true → A j (p i)
  bel : Below U.heap.size U w
variable {U : World} {Z : Nat → List Value} {Sp : Nat → Value → (World → Prop) → (Nat → Prop) → Prop} {b e : Nat → Bool} {p : Nat → Nat} {R : Nat → World → Prop} {A : Nat → Nat → Prop} {u v : Nat → Value} {w w' : World}
theorem Mk.start (U : World) (Z : Nat → List Value) (Sp : Nat → Value → (World → Prop) → (Nat → Prop) → Prop) {w : World} (h : Below U.heap.size U w) : Mk U Z Sp (fun _ => false) (fun _ => false) (fun _ => 0) (fun _ _ => True) (fun _ _ => True) (fun _ => undef) (fun _ => undef) w :=
  ⟨fun _ h => Bool.noConfusion h, fun _ h => Bool.noConfusion h, fun _ h => Bool.noConfusion h, fun _ h => Bool.noConfusion h, fun _ h => Bool.noConfusion h, fun _ h => Bool.noConfusion h, fun _ _ h => Bool.noConfusion h, fun _ _ h => Bool.noConfusion h, h⟩
theorem Mk.call (h : Mk U Z Sp b e p R A u v w) (hG : GoodSp Sp) (j : Nat) (hb : Below w.heap.size w w') (x : Value) (R' : World → Prop) (A' : Nat → Prop) (hs : Sp j x R' A') (hR : R' w') (hin : ∀ i, e i = true → A' (p i)) :
    Mk U Z Sp (upd b j true) e p (upd R j R') (upd A j A') (upd u j x) v w' := by
  refine ⟨fun i hi => ?_, fun i hi => ?_, h.ptr, fun i hi => (h.blk i hi).below hb (h.lt i hi), h.old, fun i hi => Nat.lt_of_lt_of_le (h.lt i hi) hb.size, h.ne, fun i k hi hk => ?_, also h.bel hb⟩
  · by_cases q : i = j
    · subst q; simp only [upd_same]; exact hs
    · rw [upd_other _ _ _ _ q] at hi; simp only [upd_other _ _ _ _ q]; exact h.spec i hi
  · by_cases q : i = j
    · subst q; simp only [upd_same]; exact hR
    · rw [upd_other _ _ _ _ q] at hi; simp only [upd_other _ _ _ _ q]; exact (hG _ _ _ _ (h.spec i hi)).1 _ _ (h.res i hi) hb
  · by_cases q : k = j
    · subst q; simp only [upd_same]; exact hin i hi
    · rw [upd_other _ _ _ _ q] at hk; simp only [upd_other _ _ _ _ q]; exact h.ap i k hi hk
theorem Mk.alloc (h : Mk U Z Sp b e p R A u v w) (hG : GoodSp Sp) (i : Nat) (t : TypeId) (hi : e i = false) :
    Mk U Z Sp b (upd e i true) (upd p i w.heap.size) R A u (upd v i (.pointer (some ⟨w.heap.size, 0, none⟩))) (w.alloc (.cells (Z i).toArray t)) := by
  have hb : Below w.heap.size w (w.alloc (.cells (Z i).toArray t)) := (Below.refl _ _).alloc (Nat.le_refl _) _
  refine ⟨h.spec, fun j hj => (hG _ _ _ _ (h.spec j hj)).1 _ _ (h.res j hj) hb, fun k hk => ?_, fun k hk => ?_, fun k hk => ?_, fun k hk => ?_, fun k m hk hm hne => ?_, fun k j hk hj => ?_, also h.bel hb⟩
  · by_cases q : k = i
    · subst q; simp only [upd_same]
    · rw [upd_other _ _ _ _ q] at hk; simp only [upd_other _ _ _ _ q]; exact h.ptr k hk
  · by_cases q : k = i
    · subst q; simp only [upd_same]; exact Row.new _ _ _
    · rw [upd_other _ _ _ _ q] at hk; simp only [upd_other _ _ _ _ q]; exact (h.blk k hk).below hb (h.lt k hk)
  · by_cases q : k = i
    · subst q; simp only [upd_same]; exact h.bel.size
    · rw [upd_other _ _ _ _ q] at hk; simp only [upd_other _ _ _ _ q]; exact h.old k hk
  · by_cases q : k = i
    · subst q; simp only [upd_same]; simp
    · rw [upd_other _ _ _ _ q] at hk; simp only [upd_other _ _ _ _ q]; exact Nat.lt_of_lt_of_le (h.lt k hk) hb.size
  · by_cases q : k = i
    · subst q
      rw [upd_other _ _ _ _ (fun x => hne x.symm)] at hm
      simp only [upd_same, upd_other _ _ _ _ (fun x => hne x.symm)]
      exact Nat.ne_of_gt (h.lt m hm)
    · rw [upd_other _ _ _ _ q] at hk
      by_cases q2 : m = i
      · subst q2; simp only [upd_same, upd_other _ _ _ _ q]; exact Nat.ne_of_lt (h.lt k hk)
      · rw [upd_other _ _ _ _ q2] at hm; simp only [upd_other _ _ _ _ q, upd_other _ _ _ _ q2]; exact h.ne k m hk hm hne
  · by_cases q : k = i
    · subst q; simp only [upd_same]; exact (hG _ _ _ _ (h.spec j hj)).2 _ _ (h.res j hj) (Nat.le_refl _)
    · rw [upd_other _ _ _ _ q] at hk; simp only [upd_other _ _ _ _ q]; exact h.ap k j hk hj
variable {P : Program} {md : Region.Mode} {Q : Exit → Act → World → Prop} {S : World → Prop}
theorem ready_at {l : List Oper} {L : Array Bool} {i : Nat} (hi : i ∈ Region.ready md l.toArray L) : i < l.length ∧ L.getD i true = false ∧ ∀ o, l[i]? = some o → ∀ (k : Nat) x, o.after[k]? = some x → Region.binds md x = true → L.getD x.on false = true := by
  unfold Region.ready at hi
  rw [List.mem_filter, List.mem_range, Bool.and_eq_true_iff] at hi
  obtain ⟨h1, h2, h3⟩ := hi
  refine ⟨by simpa using h1, by simpa using h2, fun o ho k x hx hb => ?_⟩
  have ho' : l.toArray[i]? = some o := by simpa using ho
  rw [ho'] at h3
  simp only [Option.map_some, Option.getD_some] at h3
  obtain ⟨hk, rfl⟩ := Array.getElem?_eq_some_iff.1 hx
  have := Array.all_eq_true.1 h3 k hk
  rw [hb] at this
  simpa using this
theorem ready_ne {l : List Oper} {L : Array Bool} {i : Nat} (hi : i < l.length) (h : (!L.getD i true && ((l.toArray[i]?).map (·.after.all fun e => !Region.binds md e || L.getD e.on false)).getD false) = true) : Region.ready md l.toArray L ≠ [] := by
  intro e
  have : i ∈ Region.ready md l.toArray L := by
    unfold Region.ready
    rw [List.mem_filter, List.mem_range]
    exact ⟨by simpa using hi, h⟩
  rw [e] at this
  cases this
/-- By an invariant through a part of the region: at each state either the rest goes by itself, or some operation is ready and each one that is leads on. -/
theorem phase {l : List Oper} (Inv : Nat → Array Bool → Act → World → Prop)
    (hstep : ∀ f L a w, Inv f L a w → wpAnyH P md l.toArray Q S f L a w ∨ ∃ g, f = g + 1 ∧ Region.ready md l.toArray L ≠ [] ∧ ∀ i ∈ Region.ready md l.toArray L, ∃ o, l[i]? = some o ∧ ∀ K' : Act → World → Prop, Shut (∀ a w, S w → Inv g (L.setIfInBounds i true) a w → K' a w) → if Region.wanted o (yielded l.toArray a.tmps) = true then Oper.wp P o a w K' Q else K' (a.put o.dst undef) w) :
    ∀ f L a w, Inv f L a w → wpAnyH P md l.toArray Q S f L a w := by
  intro f
  induction f with
  | zero =>
    intro L a w h
    rcases hstep 0 L a w h with h | ⟨g, hg, _⟩
    · exact h
    · omega
  | succ f ih =>
    intro L a w h
    rcases hstep (f + 1) L a w h with h | ⟨g, hg, hne, hall⟩
    · exact h
    · obtain rfl : f = g := by omega
      refine ⟨fun e => absurd e hne, fun i hi => ?_⟩
      obtain ⟨o, ho, ho2⟩ := hall i hi
      exact wpOp_step (by simpa using ho) (fun K' hK => ho2 K' (fun a w hS hI => hK a w ⟨hS, ih _ a w hI⟩))
end Go.Proofs.Ytkmgndaholglhaa

namespace Go.Proofs.Ytkmgndaholglhaa
open Go.RowKit
set_option linter.unusedVariables false

/-- The slice is the digits of the number u. -/
structure HD (w : World) (a : Option Addr) (l c u : Nat) : Prop where
  sl : Sl w a l c (hf.dcells l (u : Int))
  len : l = hf.nlen u
end Go.Proofs.Ytkmgndaholglhaa

namespace Go.Proofs.Ytkmgndaholglhaa
open Go.RowKit
set_option linter.unusedVariables false

def ValIs (x0 : Value) (x : Value) (R : World → Prop) (A : Nat → Prop) : Prop := x = x0 ∧ R = (fun _ => True) ∧ A = fun _ => True
theorem valIs_good {x0 x : Value} {R : World → Prop} {A : Nat → Prop} (h : ValIs x0 x R A) : (∀ w w', R w → Below w.heap.size w w' → R w') ∧ ∀ w k, R w → w.heap.size ≤ k → A k := by
  obtain ⟨rfl, rfl, rfl⟩ := h
  exact ⟨fun _ _ _ _ => trivial, fun _ _ _ _ => trivial⟩
end Go.Proofs.Ytkmgndaholglhaa

namespace Go.Proofs.Ytkmgndaholglhaa
variable {P : Program} {md : Region.Mode} {Q : Exit → Act → World → Prop} {S : World → Prop} {z : Nat}

/-- Whatever order is picked from here on; S holds behind every operation but the last one, number z. -/
def anyL (P : Program) (md : Region.Mode) (ops : Array Oper) (Q : Exit → Act → World → Prop) (S : World → Prop) (z : Nat) : Nat → Array Bool → Act → World → Prop
  | 0, L, a, w => Region.ready md ops L = [] ∧ Q .normal a w
  | f + 1, L, a, w => (Region.ready md ops L = [] → Q .normal a w) ∧ ∀ i ∈ Region.ready md ops L, wpOp P ops Q i (fun a' w' => (i ≠ z → S w') ∧ anyL P md ops Q S z f (L.setIfInBounds i true) a' w') a w
theorem anyL_any {ops : Array Oper} : ∀ (f : Nat) (L : Array Bool) (a : Act) (w : World), anyL P md ops Q S z f L a w → wpAny P md ops Q f L a w
  | 0, _, _, _, h => h
  | f + 1, _, _, _, h => ⟨h.1, fun i hi => wpOp_mono (fun a' w' h' => anyL_any f _ a' w' h'.2) (h.2 i hi)⟩
/-- An operation for which the last one waits, and which yields its value in every world that meets S, may be taken first. -/
theorem anyL_first {ops : Array Oper} {i : Nat} {oi : Oper} {v : Value} (hi : ops[i]? = some oi) (hs : Region.noSelect ops = true)
    (hz : ∀ oz, ops[z]? = some oz → ∃ e ∈ oz.after, Region.binds md e = true ∧ e.on = i) (hzi : i ≠ z) (hQ : ∀ c a w, Q (.panic c) (a.put oi.dst v) w → Q (.panic c) a w) :
    ∀ (f : Nat) (L : Array Bool) (a : Act) (w : World), Region.free md ops L i = true → i ∈ Region.ready md ops L → YieldsIf P ops S oi v a → S w →
      anyL P md ops Q S z f (L.setIfInBounds i true) (a.put oi.dst v) w → anyL P md ops Q S z (f + 1) L a w := by
  suffices H : ∀ (f : Nat) (L : Array Bool) (a : Act) (w : World),
      (∀ j oj, ops[j]? = some oj → j ≠ i → L.getD j true = false → (∀ e ∈ oj.after, Region.binds md e = true → e.on ≠ i) → oi.apart ops oj = true) →
      i ∈ Region.ready md ops L → YieldsIf P ops S oi v a → S w → anyL P md ops Q S z f (L.setIfInBounds i true) (a.put oi.dst v) w → anyL P md ops Q S z (f + 1) L a w from
    fun f L a w hf hr hy hS h => H f L a w (Region.free_spec hi hf) hr hy hS h
  have sel := Region.noSelect_spec hs
  intro f
  induction f with
  | zero =>
    intro L a w _ hr hy hS h
    refine ⟨fun e => absurd hr (by rw [e]; exact List.not_mem_nil), fun j hj => ?_⟩
    rcases Decidable.em (j = i) with rfl | hne
    · exact hy.wpOp hi hS ⟨fun _ => hS, h⟩
    · exact absurd (ready_mono hj hne) (by rw [h.1]; exact List.not_mem_nil)
  | succ f ih =>
    intro L a w hfree hr hy hS h
    refine ⟨fun e => absurd hr (by rw [e]; exact List.not_mem_nil), fun j hj => ?_⟩
    rcases Decidable.em (j = i) with rfl | hne
    · exact hy.wpOp hi hS ⟨fun _ => hS, h⟩
    obtain ⟨hun, oj, hoj, hall⟩ := mem_ready.1 hj
    have hi0 := (mem_ready.1 hr).1
    have hno : ∀ e ∈ oj.after, Region.binds md e = true → e.on ≠ i := by
      intro e he hb q
      have h1 := hall e he hb
      rw [q] at h1
      rcases Nat.lt_or_ge i L.size with g | g
      · simp [g] at hi0 h1
        rw [hi0] at h1
        cases h1
      · simp [Array.getElem?_eq_none g] at h1
    have hjz : j ≠ z := by
      rintro rfl
      obtain ⟨e, he, hb, q⟩ := hz oj hoj
      exact hno e he hb q
    have h2 := wpOp_putIf hoj (hfree j oj hoj hne hun hno) (fun cs b => sel i oi cs b hi) (fun cs b => sel j oj cs b hoj) hQ hy (h.2 j (ready_mono hj hne))
    refine wpOp_mono (fun a' w' h3 => ⟨h3.2.1, ih _ a' w' (fun k ok hk hki hku hkn => hfree k ok hk hki ?_ hkn) (ready_mono hr (Ne.symm hne)) h3.1 (h3.2.1 hjz) ?_⟩) h2
    · rcases Decidable.em (j = k) with rfl | q
      · exact hun
      · rwa [getD_set_ne true q] at hku
    · rw [Array.setIfInBounds_comm _ _ hne]
      exact h3.2.2
def waitsFor (md : Region.Mode) (ops : Array Oper) (z i : Nat) : Bool := ((ops[z]?).map fun o => o.after.any fun e => Region.binds md e && e.on == i).getD true
theorem waits_spec {ops : Array Oper} {i : Nat} (h : waitsFor md ops z i = true) : ∀ oz, ops[z]? = some oz → ∃ e ∈ oz.after, Region.binds md e = true ∧ e.on = i := by
  intro oz ho
  unfold waitsFor at h
  rw [ho] at h
  simp only [Option.map_some, Option.getD_some] at h
  obtain ⟨k, hk, hp⟩ := Array.any_eq_true.1 h
  rw [Bool.and_eq_true_iff] at hp
  exact ⟨_, Array.getElem_mem hk, hp.1, by simpa using hp.2⟩
theorem takeL_yes {l : List Oper} {i : Nat} {oi : Oper} {v : Value} {f : Nat} {L : Array Bool} {a : Act} {w : World} (hi : l[i]? = some oi)
    (hs : Region.noSelect l.toArray = true) (hf : Region.free md l.toArray L i = true) (hr : (Region.ready md l.toArray L).contains i = true) (hz : waitsFor md l.toArray z i = true) (hzi : i ≠ z)
    (hQ : ∀ c a w, Q (.panic c) (a.put oi.dst v) w → Q (.panic c) a w) (hw : Region.wanted oi (yielded l.toArray a.tmps) = true) (hS : S w)
    (hy : ∀ w, S w → (execOp a.eval oi).run P w = .ok (.value v) w)
    (h : anyL P md l.toArray Q S z f (L.setIfInBounds i true) (a.put oi.dst v) w) : anyL P md l.toArray Q S z (f + 1) L a w :=
  anyL_first (by simpa using hi) hs (waits_spec hz) hzi hQ f L a w hf (by simpa using hr) (Or.inl ⟨hw, hy⟩) hS h
theorem tyL {l : List Oper} {i : Nat} {oi : Oper} {v : Value} {f : Nat} {L : Array Bool} {a : Act} {w : World} (hi : l[i]? = some oi)
    (hy : ∀ w, S w → (execOp a.eval oi).run P w = .ok (.value v) w) (h : anyL P md l.toArray Q S z f (L.setIfInBounds i true) (a.put oi.dst v) w)
    (hs : Region.noSelect l.toArray = true := by kernel_rfl) (hf : Region.free md l.toArray L i = true := by kernel_rfl) (hr : (Region.ready md l.toArray L).contains i = true := by kernel_rfl) (hz : waitsFor md l.toArray z i = true := by kernel_rfl) (hzi : i ≠ z := by decide)
    (hQ : ∀ c a w, Q (.panic c) (a.put oi.dst v) w → Q (.panic c) a w := by exact fun _ _ _ h => h) (hw : Region.wanted oi (yielded l.toArray a.tmps) = true := by rfl) (hS : S w := by assumption) : anyL P md l.toArray Q S z (f + 1) L a w :=
  takeL_yes hi hs hf hr hz hzi hQ hw hS hy h
theorem takeL_call {l : List Oper} {i : Nat} {o : Oper} {f : Nat} {L : Array Bool} {a : Act} {w : World} (ho : l[i]? = some o) (hr : Region.ready md l.toArray L = [i])
    (h : ∀ K' : Act → World → Prop, Shut (∀ a w, S w → (S w → anyL P md l.toArray Q S z f (L.setIfInBounds i true) a w) → K' a w) → if Region.wanted o (yielded l.toArray a.tmps) = true then Oper.wp P o a w K' Q else K' (a.put o.dst undef) w) :
    anyL P md l.toArray Q S z (f + 1) L a w := by
  refine ⟨fun e => (by rw [hr] at e; cases e), fun j hj => ?_⟩
  rw [hr, List.mem_singleton] at hj
  subst hj
  exact wpOp_step (by simpa using ho) (fun K' hK => h K' (fun a w hS hW => hK a w ⟨fun _ => hS, hW hS⟩))
theorem takeL_last {l : List Oper} {o : Oper} {f : Nat} {L : Array Bool} {a : Act} {w : World} (ho : l[z]? = some o) (hr : Region.ready md l.toArray L = [z])
    (h : ∀ K' : Act → World → Prop, Shut (∀ a w, anyL P md l.toArray Q S z f (L.setIfInBounds z true) a w → K' a w) → if Region.wanted o (yielded l.toArray a.tmps) = true then Oper.wp P o a w K' Q else K' (a.put o.dst undef) w) :
    anyL P md l.toArray Q S z (f + 1) L a w := by
  refine ⟨fun e => (by rw [hr] at e; cases e), fun j hj => ?_⟩
  rw [hr, List.mem_singleton] at hj
  subst hj
  exact wpOp_step (by simpa using ho) (fun K' hK => h K' (fun a w hW => hK a w ⟨fun q => absurd rfl q, hW⟩))
theorem anyL_done {l : List Oper} {L : Array Bool} {a : Act} {w : World} (hr : Region.ready md l.toArray L = []) (h : Q .normal a w) : ∀ f, anyL P md l.toArray Q S z f L a w
  | 0 => ⟨hr, h⟩
  | _ + 1 => ⟨fun _ => h, by rw [hr]; exact fun _ h => absurd h List.not_mem_nil⟩
theorem regionL {l : List Oper} (z : Nat) {id : Nat} {a : Act} {w : World} (hm : P.follows .mixedOrders = true) (hS : S w.drew)
    (h : S w.drew → anyL P .any l.toArray Q S z l.toArray.size (Array.replicate l.toArray.size false) a w.drew) : (Code.region id l.toArray true).wp P Q a w :=
  wp_region_any hm (anyL_any _ _ _ _ (h hS))
end Go.Proofs.Ytkmgndaholglhaa

namespace Go.Proofs.Ytkmgndaholglhaa.lq
open Go.RowKit

/-- Digit i of v, to the base 256 (of a number below nought: of v modulo as many digits as you like). -/
def dg (v : Int) (i : Nat) : Int := v / 256 ^ i % 256
theorem dg_range (v : Int) (i : Nat) : 0 ≤ dg v i ∧ dg v i < 256 := by unfold dg; omega
theorem p256 (i : Nat) : (0 : Int) < 256 ^ i := Int.pow_pos (by decide)
/-- n digits: at the places that p names those of u, at the others those of v. -/
def fill (n : Nat) (p : Nat → Bool) (u v : Int) : List Value := (List.range n).map fun j => .int .i64 (if p j then dg u j else dg v j)
def dcells (n : Nat) (v : Int) : List Value := (List.range n).map fun j => .int .i64 (dg v j)
def mix (n i : Nat) (u v : Int) : List Value := fill n (fun j => decide (j < i)) u v
theorem fill_length (n : Nat) (p : Nat → Bool) (u v : Int) : (fill n p u v).length = n := by simp [fill]
theorem mix_length (n i : Nat) (u v : Int) : (mix n i u v).length = n := fill_length _ _ _ _
theorem dcells_at (n : Nat) (v : Int) (i : Nat) (h : i < n) : (dcells n v)[i]? = some (.int .i64 (dg v i)) := by simp [dcells, h]
theorem fill_at (n : Nat) (p : Nat → Bool) (u v : Int) (i : Nat) (h : i < n) : (fill n p u v)[i]? = some (.int .i64 (if p i then dg u i else dg v i)) := by simp [fill, h]
theorem mix_at (n k : Nat) (u v : Int) (i : Nat) (h : i < n) (hk : k ≤ i) : (mix n k u v)[i]? = some (.int .i64 (dg v i)) := by
  rw [mix, fill_at _ _ _ _ _ h]; simp; omega
theorem fill_congr {n : Nat} {p q : Nat → Bool} {u v u' v' : Int} (h : ∀ j, j < n → (if p j then dg u j else dg v j) = (if q j then dg u' j else dg v' j)) : fill n p u v = fill n q u' v' := by
  unfold fill
  refine List.map_congr_left fun j hj => ?_
  rw [h j (by simpa using hj)]
theorem fill_set (n : Nat) (p : Nat → Bool) (u v : Int) (i : Nat) : (fill n p u v).set i (.int .i64 (dg u i)) = fill n (fun j => p j || j == i) u v := by
  refine List.ext_getElem? fun j => ?_
  rw [List.getElem?_set]
  by_cases e : i = j
  · subst e
    by_cases h : i < n
    · rw [if_pos rfl, if_pos (by rw [fill_length]; exact h), fill_at _ _ _ _ _ h]; simp
    · rw [if_pos rfl, if_neg (by rw [fill_length]; exact h), List.getElem?_eq_none (by rw [fill_length]; omega)]
  · by_cases h : j < n
    · rw [if_neg e, fill_at _ _ _ _ _ h, fill_at _ _ _ _ _ h]
      have e' : (j == i) = false := by simp; omega
      simp [e']
    · rw [if_neg e, List.getElem?_eq_none (by simp [fill_length]; omega), List.getElem?_eq_none (by simp [fill_length]; omega)]
theorem mix_set (n i : Nat) (u v : Int) : (mix n i u v).set i (.int .i64 (dg u i)) = mix n (i + 1) u v := by
  unfold mix
  rw [fill_set]
  refine fill_congr fun j _ => ?_
  have : (decide (j < i) || j == i) = decide (j < i + 1) := by rw [Bool.eq_iff_iff]; simp; omega
  rw [this]
theorem mix_zero (n : Nat) (u v : Int) : mix n 0 u v = dcells n v := by unfold mix fill dcells; simp
theorem mix_full (n : Nat) (u v : Int) : mix n n u v = dcells n u := by
  unfold mix fill dcells
  refine List.map_congr_left fun j hj => ?_
  have : j < n := by simpa using hj
  simp [this]
/-- The digits of two numbers that are the same modulo 256^i are the same below place i. -/
theorem dg_congr {u v : Int} {i j : Nat} (t : Int) (h : u = v + t * 256 ^ i) (hj : j < i) : dg u j = dg v j := by
  unfold dg
  obtain ⟨d, rfl⟩ : ∃ d, i = j + 1 + d := ⟨i - (j + 1), by omega⟩
  have e : t * (256 : Int) ^ (j + 1 + d) = (256 * (t * 256 ^ d)) * 256 ^ j := by
    rw [show j + 1 + d = d + 1 + j by omega, Int.pow_add, Int.pow_succ, ← Int.mul_assoc, ← Int.mul_assoc, Int.mul_comm (t * 256 ^ d) 256]
  rw [h, e, Int.add_mul_ediv_right _ _ (Int.ne_of_gt (p256 j))]
  omega
/-- The carry into place i when x and y are added. -/
def carry (x y : Int) (i : Nat) : Int := (x % 256 ^ i + y % 256 ^ i) / 256 ^ i
theorem carry_zero (x y : Int) : carry x y 0 = 0 := by simp [carry]
theorem emod_succ (x : Int) (i : Nat) : x % 256 ^ (i + 1) = dg x i * 256 ^ i + x % 256 ^ i := by
  unfold dg
  have hp := p256 i
  have h1 := Int.mul_ediv_add_emod x (256 ^ i)
  have h2 := Int.mul_ediv_add_emod (x / 256 ^ i) 256
  have b := Int.emod_nonneg x (Int.ne_of_gt hp)
  have b' := Int.emod_lt_of_pos x hp
  have c := Int.emod_nonneg (x / 256 ^ i) (show (256 : Int) ≠ 0 by decide)
  have c' := Int.emod_lt_of_pos (x / 256 ^ i) (show (0 : Int) < 256 by decide)
  have e : x = (x / 256 ^ i % 256 * 256 ^ i + x % 256 ^ i) + (x / 256 ^ i / 256) * 256 ^ (i + 1) := by
    have : (x / 256 ^ i / 256) * (256 : Int) ^ (i + 1) = (256 * (x / 256 ^ i / 256)) * 256 ^ i := by rw [Int.pow_succ, Int.mul_comm ((256 : Int) ^ i) 256, ← Int.mul_assoc, Int.mul_comm _ 256]
    rw [this]
    have h3 : (256 * (x / 256 ^ i / 256)) * (256 : Int) ^ i + x / 256 ^ i % 256 * 256 ^ i = x / 256 ^ i * 256 ^ i := by rw [← Int.add_mul, h2]
    have h4 : x / 256 ^ i * (256 : Int) ^ i = 256 ^ i * (x / 256 ^ i) := Int.mul_comm _ _
    omega
  have l0 : 0 ≤ x / 256 ^ i % 256 * 256 ^ i + x % 256 ^ i := Int.add_nonneg (Int.mul_nonneg c (Int.le_of_lt hp)) b
  have l1 : x / 256 ^ i % 256 * 256 ^ i + x % 256 ^ i < 256 ^ (i + 1) := by
    have : x / 256 ^ i % 256 * (256 : Int) ^ i ≤ 255 * 256 ^ i := Int.mul_le_mul_of_nonneg_right (by omega) (Int.le_of_lt hp)
    rw [Int.pow_succ]
    omega
  have key : x % 256 ^ (i + 1) = (x / 256 ^ i % 256 * 256 ^ i + x % 256 ^ i) % 256 ^ (i + 1) := by
    have := congrArg (· % (256 : Int) ^ (i + 1)) e
    simpa [Int.add_mul_emod_self_right] using this
  rw [key, Int.emod_eq_of_lt l0 l1]
theorem carry_sum (x y : Int) (i : Nat) : (x % 256 ^ (i + 1) + y % 256 ^ (i + 1)) / 256 ^ i = carry x y i + dg x i + dg y i := by
  rw [emod_succ, emod_succ]
  unfold carry
  have e : dg x i * 256 ^ i + x % 256 ^ i + (dg y i * 256 ^ i + y % 256 ^ i) = (x % 256 ^ i + y % 256 ^ i) + (dg x i + dg y i) * 256 ^ i := by rw [Int.add_mul]; omega
  rw [e, Int.add_mul_ediv_right _ _ (Int.ne_of_gt (p256 i))]
  omega
theorem carry_succ (x y : Int) (i : Nat) : carry x y (i + 1) = (carry x y i + dg x i + dg y i) / 256 := by
  rw [← carry_sum]
  show (x % 256 ^ (i + 1) + y % 256 ^ (i + 1)) / 256 ^ (i + 1) = _
  have hp := p256 i
  rw [Int.pow_succ, Int.ediv_ediv, if_neg (by omega)]
  omega
theorem add_digit (x y : Int) (i : Nat) : (carry x y i + dg x i + dg y i) % 256 = dg (x + y) i := by
  unfold dg carry
  have hp := p256 i
  have h1 := Int.mul_ediv_add_emod x (256 ^ i)
  have h2 := Int.mul_ediv_add_emod y (256 ^ i)
  have e : x + y = (x % 256 ^ i + y % 256 ^ i) + (x / 256 ^ i + y / 256 ^ i) * 256 ^ i := by
    have a1 : x / 256 ^ i * (256 : Int) ^ i = 256 ^ i * (x / 256 ^ i) := Int.mul_comm _ _
    have a2 : y / 256 ^ i * (256 : Int) ^ i = 256 ^ i * (y / 256 ^ i) := Int.mul_comm _ _
    rw [Int.add_mul]; omega
  have e2 : (x + y) / 256 ^ i = (x % 256 ^ i + y % 256 ^ i) / 256 ^ i + (x / 256 ^ i + y / 256 ^ i) := by
    conv => lhs; rw [e]
    exact Int.add_mul_ediv_right _ _ (Int.ne_of_gt hp)
  rw [e2]
  omega
theorem carry_range (x y : Int) (i : Nat) : 0 ≤ carry x y i ∧ carry x y i ≤ 1 := by
  unfold carry
  have hp := p256 i
  have a := Int.emod_nonneg x (Int.ne_of_gt hp)
  have a' := Int.emod_lt_of_pos x hp
  have b := Int.emod_nonneg y (Int.ne_of_gt hp)
  have b' := Int.emod_lt_of_pos y hp
  refine ⟨Int.ediv_nonneg (by omega) (by omega), ?_⟩
  have : (x % 256 ^ i + y % 256 ^ i) / 256 ^ i < 2 := Int.ediv_lt_of_lt_mul hp (by omega)
  omega
end Go.Proofs.Ytkmgndaholglhaa.lq

namespace Go.Proofs.Ytkmgndaholglhaa.lq.q
open Go.RowKit

/-- Digit i of v, to the base 18446744073709551616 (of a number below nought: of v modulo as many digits as you like). -/
def dg (v : Int) (i : Nat) : Int := v / 18446744073709551616 ^ i % 18446744073709551616
theorem dg_range (v : Int) (i : Nat) : 0 ≤ dg v i ∧ dg v i < 18446744073709551616 := by unfold dg; omega
theorem p256 (i : Nat) : (0 : Int) < 18446744073709551616 ^ i := Int.pow_pos (by decide)
/-- n digits: at the places that p names those of u, at the others those of v. -/
def fill (n : Nat) (p : Nat → Bool) (u v : Int) : List Value := (List.range n).map fun j => .int .u64 (if p j then dg u j else dg v j)
def dcells (n : Nat) (v : Int) : List Value := (List.range n).map fun j => .int .u64 (dg v j)
def mix (n i : Nat) (u v : Int) : List Value := fill n (fun j => decide (j < i)) u v
theorem fill_length (n : Nat) (p : Nat → Bool) (u v : Int) : (fill n p u v).length = n := by simp [fill]
theorem mix_length (n i : Nat) (u v : Int) : (mix n i u v).length = n := fill_length _ _ _ _
theorem dcells_at (n : Nat) (v : Int) (i : Nat) (h : i < n) : (dcells n v)[i]? = some (.int .u64 (dg v i)) := by simp [dcells, h]
theorem fill_at (n : Nat) (p : Nat → Bool) (u v : Int) (i : Nat) (h : i < n) : (fill n p u v)[i]? = some (.int .u64 (if p i then dg u i else dg v i)) := by simp [fill, h]
theorem mix_at (n k : Nat) (u v : Int) (i : Nat) (h : i < n) (hk : k ≤ i) : (mix n k u v)[i]? = some (.int .u64 (dg v i)) := by
  rw [mix, fill_at _ _ _ _ _ h]; simp; omega
theorem fill_congr {n : Nat} {p q : Nat → Bool} {u v u' v' : Int} (h : ∀ j, j < n → (if p j then dg u j else dg v j) = (if q j then dg u' j else dg v' j)) : fill n p u v = fill n q u' v' := by
  unfold fill
  refine List.map_congr_left fun j hj => ?_
  rw [h j (by simpa using hj)]
theorem fill_set (n : Nat) (p : Nat → Bool) (u v : Int) (i : Nat) : (fill n p u v).set i (.int .u64 (dg u i)) = fill n (fun j => p j || j == i) u v := by
  refine List.ext_getElem? fun j => ?_
  rw [List.getElem?_set]
  by_cases e : i = j
  · subst e
    by_cases h : i < n
    · rw [if_pos rfl, if_pos (by rw [fill_length]; exact h), fill_at _ _ _ _ _ h]; simp
    · rw [if_pos rfl, if_neg (by rw [fill_length]; exact h), List.getElem?_eq_none (by rw [fill_length]; omega)]
  · by_cases h : j < n
    · rw [if_neg e, fill_at _ _ _ _ _ h, fill_at _ _ _ _ _ h]
      have e' : (j == i) = false := by simp; omega
      simp [e']
    · rw [if_neg e, List.getElem?_eq_none (by simp [fill_length]; omega), List.getElem?_eq_none (by simp [fill_length]; omega)]
theorem mix_set (n i : Nat) (u v : Int) : (mix n i u v).set i (.int .u64 (dg u i)) = mix n (i + 1) u v := by
  unfold mix
  rw [fill_set]
  refine fill_congr fun j _ => ?_
  have : (decide (j < i) || j == i) = decide (j < i + 1) := by rw [Bool.eq_iff_iff]; simp; omega
  rw [this]
theorem mix_zero (n : Nat) (u v : Int) : mix n 0 u v = dcells n v := by unfold mix fill dcells; simp
theorem mix_full (n : Nat) (u v : Int) : mix n n u v = dcells n u := by
  unfold mix fill dcells
  refine List.map_congr_left fun j hj => ?_
  have : j < n := by simpa using hj
  simp [this]
/-- The digits of two numbers that are the same modulo 18446744073709551616^i are the same below place i. -/
theorem dg_congr {u v : Int} {i j : Nat} (t : Int) (h : u = v + t * 18446744073709551616 ^ i) (hj : j < i) : dg u j = dg v j := by
  unfold dg
  obtain ⟨d, rfl⟩ : ∃ d, i = j + 1 + d := ⟨i - (j + 1), by omega⟩
  have e : t * (18446744073709551616 : Int) ^ (j + 1 + d) = (18446744073709551616 * (t * 18446744073709551616 ^ d)) * 18446744073709551616 ^ j := by
    rw [show j + 1 + d = d + 1 + j by omega, Int.pow_add, Int.pow_succ, ← Int.mul_assoc, ← Int.mul_assoc, Int.mul_comm (t * 18446744073709551616 ^ d) 18446744073709551616]
  rw [h, e, Int.add_mul_ediv_right _ _ (Int.ne_of_gt (p256 j))]
  omega
/-- The carry into place i when x and y are added. -/
def carry (x y : Int) (i : Nat) : Int := (x % 18446744073709551616 ^ i + y % 18446744073709551616 ^ i) / 18446744073709551616 ^ i
theorem carry_zero (x y : Int) : carry x y 0 = 0 := by simp [carry]
theorem emod_succ (x : Int) (i : Nat) : x % 18446744073709551616 ^ (i + 1) = dg x i * 18446744073709551616 ^ i + x % 18446744073709551616 ^ i := by
  unfold dg
  have hp := p256 i
  have h1 := Int.mul_ediv_add_emod x (18446744073709551616 ^ i)
  have h2 := Int.mul_ediv_add_emod (x / 18446744073709551616 ^ i) 18446744073709551616
  have b := Int.emod_nonneg x (Int.ne_of_gt hp)
  have b' := Int.emod_lt_of_pos x hp
  have c := Int.emod_nonneg (x / 18446744073709551616 ^ i) (show (18446744073709551616 : Int) ≠ 0 by decide)
  have c' := Int.emod_lt_of_pos (x / 18446744073709551616 ^ i) (show (0 : Int) < 18446744073709551616 by decide)
  have e : x = (x / 18446744073709551616 ^ i % 18446744073709551616 * 18446744073709551616 ^ i + x % 18446744073709551616 ^ i) + (x / 18446744073709551616 ^ i / 18446744073709551616) * 18446744073709551616 ^ (i + 1) := by
    have : (x / 18446744073709551616 ^ i / 18446744073709551616) * (18446744073709551616 : Int) ^ (i + 1) = (18446744073709551616 * (x / 18446744073709551616 ^ i / 18446744073709551616)) * 18446744073709551616 ^ i := by rw [Int.pow_succ, Int.mul_comm ((18446744073709551616 : Int) ^ i) 18446744073709551616, ← Int.mul_assoc, Int.mul_comm _ 18446744073709551616]
    rw [this]
    have h3 : (18446744073709551616 * (x / 18446744073709551616 ^ i / 18446744073709551616)) * (18446744073709551616 : Int) ^ i + x / 18446744073709551616 ^ i % 18446744073709551616 * 18446744073709551616 ^ i = x / 18446744073709551616 ^ i * 18446744073709551616 ^ i := by rw [← Int.add_mul, h2]
    have h4 : x / 18446744073709551616 ^ i * (18446744073709551616 : Int) ^ i = 18446744073709551616 ^ i * (x / 18446744073709551616 ^ i) := Int.mul_comm _ _
    omega
  have l0 : 0 ≤ x / 18446744073709551616 ^ i % 18446744073709551616 * 18446744073709551616 ^ i + x % 18446744073709551616 ^ i := Int.add_nonneg (Int.mul_nonneg c (Int.le_of_lt hp)) b
  have l1 : x / 18446744073709551616 ^ i % 18446744073709551616 * 18446744073709551616 ^ i + x % 18446744073709551616 ^ i < 18446744073709551616 ^ (i + 1) := by
    have : x / 18446744073709551616 ^ i % 18446744073709551616 * (18446744073709551616 : Int) ^ i ≤ 18446744073709551615 * 18446744073709551616 ^ i := Int.mul_le_mul_of_nonneg_right (by omega) (Int.le_of_lt hp)
    rw [Int.pow_succ]
    omega
  have key : x % 18446744073709551616 ^ (i + 1) = (x / 18446744073709551616 ^ i % 18446744073709551616 * 18446744073709551616 ^ i + x % 18446744073709551616 ^ i) % 18446744073709551616 ^ (i + 1) := by
    have := congrArg (· % (18446744073709551616 : Int) ^ (i + 1)) e
    simpa [Int.add_mul_emod_self_right] using this
  rw [key, Int.emod_eq_of_lt l0 l1]
theorem carry_sum (x y : Int) (i : Nat) : (x % 18446744073709551616 ^ (i + 1) + y % 18446744073709551616 ^ (i + 1)) / 18446744073709551616 ^ i = carry x y i + dg x i + dg y i := by
  rw [emod_succ, emod_succ]
  unfold carry
  have e : dg x i * 18446744073709551616 ^ i + x % 18446744073709551616 ^ i + (dg y i * 18446744073709551616 ^ i + y % 18446744073709551616 ^ i) = (x % 18446744073709551616 ^ i + y % 18446744073709551616 ^ i) + (dg x i + dg y i) * 18446744073709551616 ^ i := by rw [Int.add_mul]; omega
  rw [e, Int.add_mul_ediv_right _ _ (Int.ne_of_gt (p256 i))]
  omega
theorem carry_succ (x y : Int) (i : Nat) : carry x y (i + 1) = (carry x y i + dg x i + dg y i) / 18446744073709551616 := by
  rw [← carry_sum]
  show (x % 18446744073709551616 ^ (i + 1) + y % 18446744073709551616 ^ (i + 1)) / 18446744073709551616 ^ (i + 1) = _
  have hp := p256 i
  rw [Int.pow_succ, Int.ediv_ediv, if_neg (by omega)]
  omega
theorem add_digit (x y : Int) (i : Nat) : (carry x y i + dg x i + dg y i) % 18446744073709551616 = dg (x + y) i := by
  unfold dg carry
  have hp := p256 i
  have h1 := Int.mul_ediv_add_emod x (18446744073709551616 ^ i)
  have h2 := Int.mul_ediv_add_emod y (18446744073709551616 ^ i)
  have e : x + y = (x % 18446744073709551616 ^ i + y % 18446744073709551616 ^ i) + (x / 18446744073709551616 ^ i + y / 18446744073709551616 ^ i) * 18446744073709551616 ^ i := by
    have a1 : x / 18446744073709551616 ^ i * (18446744073709551616 : Int) ^ i = 18446744073709551616 ^ i * (x / 18446744073709551616 ^ i) := Int.mul_comm _ _
    have a2 : y / 18446744073709551616 ^ i * (18446744073709551616 : Int) ^ i = 18446744073709551616 ^ i * (y / 18446744073709551616 ^ i) := Int.mul_comm _ _
    rw [Int.add_mul]; omega
  have e2 : (x + y) / 18446744073709551616 ^ i = (x % 18446744073709551616 ^ i + y % 18446744073709551616 ^ i) / 18446744073709551616 ^ i + (x / 18446744073709551616 ^ i + y / 18446744073709551616 ^ i) := by
    conv => lhs; rw [e]
    exact Int.add_mul_ediv_right _ _ (Int.ne_of_gt hp)
  rw [e2]
  omega
theorem carry_range (x y : Int) (i : Nat) : 0 ≤ carry x y i ∧ carry x y i ≤ 1 := by
  unfold carry
  have hp := p256 i
  have a := Int.emod_nonneg x (Int.ne_of_gt hp)
  have a' := Int.emod_lt_of_pos x hp
  have b := Int.emod_nonneg y (Int.ne_of_gt hp)
  have b' := Int.emod_lt_of_pos y hp
  refine ⟨Int.ediv_nonneg (by omega) (by omega), ?_⟩
  have : (x % 18446744073709551616 ^ i + y % 18446744073709551616 ^ i) / 18446744073709551616 ^ i < 2 := Int.ediv_lt_of_lt_mul hp (by omega)
  omega
end Go.Proofs.Ytkmgndaholglhaa.lq.q

namespace Go.Proofs.Ytkmgndaholglhaa.lq.q
set_option linter.unusedVariables false

/-- What stands below place i + k, and over it, when k digits of y have been taken times digit i of x. -/
def tk (O xi y : Int) (i k : Nat) : Int := O % 18446744073709551616 ^ (i + k) + xi * 18446744073709551616 ^ i * (y % 18446744073709551616 ^ k)
def cy (O xi y : Int) (i k : Nat) : Int := tk O xi y i k / 18446744073709551616 ^ (i + k)
theorem pow_ik (i k : Nat) : (18446744073709551616 : Int) ^ (i + k) = 18446744073709551616 ^ i * 18446744073709551616 ^ k := Int.pow_add _ _ _
theorem tk_succ (O xi y : Int) (i k : Nat) : tk O xi y i (k + 1) = tk O xi y i k + (dg O (i + k) + xi * dg y k) * 18446744073709551616 ^ (i + k) := by
  unfold tk
  rw [← Nat.add_assoc, emod_succ, emod_succ, Int.add_mul, Int.mul_add, pow_ik]
  have e : xi * 18446744073709551616 ^ i * (dg y k * 18446744073709551616 ^ k) = xi * dg y k * (18446744073709551616 ^ i * 18446744073709551616 ^ k) := by
    rw [Int.mul_assoc xi, Int.mul_left_comm (18446744073709551616 ^ i) (dg y k), Int.mul_assoc xi (dg y k)]
  rw [e]; omega
theorem cy_sum (O xi y : Int) (i k : Nat) : tk O xi y i (k + 1) / 18446744073709551616 ^ (i + k) = cy O xi y i k + dg O (i + k) + xi * dg y k := by
  rw [tk_succ, Int.add_mul_ediv_right _ _ (Int.ne_of_gt (p256 _))]; unfold cy; omega
theorem cy_succ (O xi y : Int) (i k : Nat) : cy O xi y i (k + 1) = (cy O xi y i k + dg O (i + k) + xi * dg y k) / 18446744073709551616 := by
  rw [← cy_sum]
  show tk O xi y i (k + 1) / 18446744073709551616 ^ (i + k + 1) = _
  have hp := p256 (i + k)
  rw [Int.pow_succ, Int.ediv_ediv, if_neg (by omega)]; omega
theorem mul_digit (O xi y : Int) (i k : Nat) : (cy O xi y i k + dg O (i + k) + xi * dg y k) % 18446744073709551616 = dg (O + xi * 18446744073709551616 ^ i * y) (i + k) := by
  rw [← cy_sum]
  show dg (tk O xi y i (k + 1)) (i + k) = _
  refine (dg_congr (i := i + k + 1) (O / 18446744073709551616 ^ (i + k + 1) + xi * (y / 18446744073709551616 ^ (k + 1))) ?_ (by omega)).symm
  unfold tk
  have h1 := Int.mul_ediv_add_emod O (18446744073709551616 ^ (i + k + 1))
  have h2 := Int.mul_ediv_add_emod y (18446744073709551616 ^ (k + 1))
  have e0 : i + (k + 1) = i + k + 1 := by omega
  rw [e0, Int.add_mul]
  have e1 : O / 18446744073709551616 ^ (i + k + 1) * (18446744073709551616 : Int) ^ (i + k + 1) = 18446744073709551616 ^ (i + k + 1) * (O / 18446744073709551616 ^ (i + k + 1)) := Int.mul_comm _ _
  have e2 : xi * (y / 18446744073709551616 ^ (k + 1)) * (18446744073709551616 : Int) ^ (i + k + 1) = xi * 18446744073709551616 ^ i * (18446744073709551616 ^ (k + 1) * (y / 18446744073709551616 ^ (k + 1))) := by
    rw [← e0, pow_ik i (k + 1)]
    generalize (18446744073709551616 : Int) ^ (k + 1) = K
    rw [Int.mul_assoc xi, Int.mul_assoc xi, Int.mul_left_comm (y / K) (18446744073709551616 ^ i) K, Int.mul_comm (y / K) K]
  have e3 : xi * 18446744073709551616 ^ i * y = xi * 18446744073709551616 ^ i * (18446744073709551616 ^ (k + 1) * (y / 18446744073709551616 ^ (k + 1))) + xi * 18446744073709551616 ^ i * (y % 18446744073709551616 ^ (k + 1)) := by rw [← Int.mul_add, h2]
  rw [e1, e2, e3]; omega
theorem cy_zero (O xi y : Int) (i : Nat) : cy O xi y i 0 = 0 := by
  unfold cy tk
  have hp := p256 i
  have a := Int.emod_nonneg O (Int.ne_of_gt hp)
  have a' := Int.emod_lt_of_pos O hp
  have e : y % (18446744073709551616 : Int) ^ 0 = 0 := by simp [Int.emod_one]
  rw [e]
  simp only [Nat.add_zero, Int.mul_zero, Int.add_zero]
  exact Int.ediv_eq_zero_of_lt a a'
theorem cy_range (O xi y : Int) (i k : Nat) (h0 : 0 ≤ xi) (h1 : xi < 18446744073709551616) : 0 ≤ cy O xi y i k ∧ cy O xi y i k ≤ 18446744073709551615 := by
  unfold cy tk
  have hp := p256 (i + k)
  have hi := p256 i
  have hk := p256 k
  have a := Int.emod_nonneg O (Int.ne_of_gt hp)
  have a' := Int.emod_lt_of_pos O hp
  have b := Int.emod_nonneg y (Int.ne_of_gt hk)
  have b' := Int.emod_lt_of_pos y hk
  have c : 0 ≤ xi * 18446744073709551616 ^ i * (y % 18446744073709551616 ^ k) := Int.mul_nonneg (Int.mul_nonneg h0 (Int.le_of_lt hi)) b
  have c' : xi * 18446744073709551616 ^ i * (y % 18446744073709551616 ^ k) ≤ 18446744073709551615 * 18446744073709551616 ^ (i + k) := by
    rw [pow_ik, ← Int.mul_assoc]
    exact Int.mul_le_mul (Int.mul_le_mul_of_nonneg_right (by omega) (Int.le_of_lt hi)) (by omega) b (Int.mul_nonneg (by decide) (Int.le_of_lt hi))
  refine ⟨Int.ediv_nonneg (by omega) (by omega), ?_⟩
  have : (O % 18446744073709551616 ^ (i + k) + xi * 18446744073709551616 ^ i * (y % 18446744073709551616 ^ k)) / 18446744073709551616 ^ (i + k) < 18446744073709551616 := Int.ediv_lt_of_lt_mul hp (by omega)
  omega
theorem mul_next (x y : Int) (i : Nat) : x % 18446744073709551616 ^ i * y + dg x i * 18446744073709551616 ^ i * y = x % 18446744073709551616 ^ (i + 1) * y := by rw [emod_succ, Int.add_mul]; omega
theorem mix_start (n i : Nat) (O xi y : Int) : mix n i (O + xi * 18446744073709551616 ^ i * y) O = dcells n O := by
  rw [← mix_zero n O O]
  refine fill_congr fun j _ => ?_
  by_cases h : j < i
  · have e : dg (O + xi * 18446744073709551616 ^ i * y) j = dg O j := dg_congr (i := i) (xi * y) (by rw [Int.mul_assoc, Int.mul_comm (18446744073709551616 ^ i) y, ← Int.mul_assoc]) h
    simp [h, e]
  · simp [h]
end Go.Proofs.Ytkmgndaholglhaa.lq.q

namespace Go.Proofs.Ytkmgndaholglhaa.lq
open Go.RowKit

/-- The high word, with its sign, of a number taken modulo 2^128. -/
def hi (v : Int) : Int := (v / 18446744073709551616 + 9223372036854775808) % 18446744073709551616 - 9223372036854775808
/-- The low word, without a sign. -/
def lo (v : Int) : Int := v % 18446744073709551616

/-- The borrow, under a name. -/
def bor (x y : Int) : Int := if x < y then 1 else 0
theorem mask32 (x : Int) (h0 : 0 ≤ x) (h1 : x < 18446744073709551616) : bits .and .u64 x 4294967295 = x % 4294967296 := by
  obtain ⟨n, rfl⟩ := Int.eq_ofNat_of_zero_le h0
  have h := bits_and_u64_nat n 4294967295 (by omega) (by omega)
  have e : n &&& 4294967295 = n % 4294967296 := Nat.and_two_pow_sub_one_eq_mod n 32
  rw [e] at h
  exact h.trans (by omega)
theorem half_mul (a b : Int) (a0 : 0 ≤ a) (a1 : a < 4294967296) (b0 : 0 ≤ b) (b1 : b < 4294967296) : 0 ≤ a * b ∧ a * b ≤ 18446744065119617025 := by
  refine ⟨Int.mul_nonneg a0 b0, ?_⟩
  have := Int.mul_le_mul (show a ≤ 4294967295 by omega) (show b ≤ 4294967295 by omega) b0 (by decide)
  omega
theorem school (a b c d : Int) : (a * 4294967296 + b) * (c * 4294967296 + d) = a * c * 18446744073709551616 + a * d * 4294967296 + b * c * 4294967296 + b * d := by
  have h1 : a * 4294967296 * (c * 4294967296) = a * c * (4294967296 * 4294967296) := by rw [Int.mul_assoc a, Int.mul_left_comm 4294967296 c, ← Int.mul_assoc]
  have h2 : a * 4294967296 * d = a * d * 4294967296 := by rw [Int.mul_assoc a, Int.mul_comm 4294967296 d, ← Int.mul_assoc]
  have h3 : b * (c * 4294967296) = b * c * 4294967296 := (Int.mul_assoc b c _).symm
  rw [Int.add_mul, Int.mul_add, Int.mul_add, h1, h2, h3]
  omega
theorem mul64_hi (x y : Int) (x0 : 0 ≤ x) (x1 : x < 18446744073709551616) (y0 : 0 ≤ y) (y1 : y < 18446744073709551616) :
    IntKind.u64.wrap (IntKind.u64.wrap (IntKind.u64.wrap (x / 4294967296 * (y / 4294967296)) + IntKind.u64.wrap (IntKind.u64.wrap (x / 4294967296 * bits .and .u64 y 4294967295) + IntKind.u64.wrap (bits .and .u64 x 4294967295 * bits .and .u64 y 4294967295) / 4294967296) / 4294967296) +
      IntKind.u64.wrap (bits .and .u64 (IntKind.u64.wrap (IntKind.u64.wrap (x / 4294967296 * bits .and .u64 y 4294967295) + IntKind.u64.wrap (bits .and .u64 x 4294967295 * bits .and .u64 y 4294967295) / 4294967296)) 4294967295 + IntKind.u64.wrap (bits .and .u64 x 4294967295 * (y / 4294967296))) / 4294967296) = x * y / 18446744073709551616 := by
  rw [mask32 x x0 x1, mask32 y y0 y1, mask32 (IntKind.u64.wrap _) (wrap_u64_nonneg _) (by rw [IntKind.wrap_u64]; omega)]
  have e := school (x / 4294967296) (x % 4294967296) (y / 4294967296) (y % 4294967296)
  have ex : x / 4294967296 * 4294967296 + x % 4294967296 = x := by omega
  have ey : y / 4294967296 * 4294967296 + y % 4294967296 = y := by omega
  rw [ex, ey] at e
  rw [e]
  have b1 := half_mul (x / 4294967296) (y / 4294967296) (by omega) (by omega) (by omega) (by omega)
  have b2 := half_mul (x / 4294967296) (y % 4294967296) (by omega) (by omega) (by omega) (by omega)
  have b3 := half_mul (x % 4294967296) (y / 4294967296) (by omega) (by omega) (by omega) (by omega)
  have b4 := half_mul (x % 4294967296) (y % 4294967296) (by omega) (by omega) (by omega) (by omega)
  clear e ex ey
  generalize x / 4294967296 * (y / 4294967296) = p1 at *
  generalize x / 4294967296 * (y % 4294967296) = p2 at *
  generalize x % 4294967296 * (y / 4294967296) = p3 at *
  generalize x % 4294967296 * (y % 4294967296) = p4 at *
  simp only [IntKind.wrap_u64]
  omega

theorem ret_tup2 {k l : IntKind} {a b c d : Int} (h : a = c) (h' : b = d) : Ending.returned (.tuple #[.int k a, .int l b]) = .returned (.tuple #[.int k c, .int l d]) := by rw [h, h']
/-- -1, 0, 1: how two numbers lie. -/
def cmpI (x y : Int) : Int := if x < y then -1 else if y < x then 1 else 0
end Go.Proofs.Ytkmgndaholglhaa.lq

namespace Go.Proofs.Ytkmgndaholglhaa.lq
open Go.RowKit
set_option linter.unusedVariables false

/-- The four words of a number, modulo 2^256. -/
def Wd (a a0 a1 a2 a3 : Int) : Prop := a0 = q.dg a 0 ∧ a1 = q.dg a 1 ∧ a2 = q.dg a 2 ∧ a3 = q.dg a 3
theorem wd_self (a : Int) : Wd a (q.dg a 0) (q.dg a 1) (q.dg a 2) (q.dg a 3) := ⟨rfl, rfl, rfl, rfl⟩
theorem qdg_0 (j : Nat) : q.dg 0 j = 0 := by simp [q.dg]
theorem qcells (a : Int) : q.dcells 4 a = [.int .u64 (q.dg a 0), .int .u64 (q.dg a 1), .int .u64 (q.dg a 2), .int .u64 (q.dg a 3)] := by simp [q.dcells, List.range, List.range.loop]
theorem qcells_0 : q.dcells 4 0 = [.int .u64 0, .int .u64 0, .int .u64 0, .int .u64 0] := by rw [qcells]; simp [qdg_0]
/-- A row of four. -/
theorem row4 {w : World} {b : Nat} {v0 v1 v2 v3 : Value} (h : Row w b [v0, v1, v2, v3]) : w.cell? ⟨b, 0, none⟩ = some v0 ∧ w.cell? ⟨b, 1, none⟩ = some v1 ∧ w.cell? ⟨b, 2, none⟩ = some v2 ∧ w.cell? ⟨b, 3, none⟩ = some v3 ∧
    w.frozen? ⟨b, 0, none⟩ = false ∧ w.frozen? ⟨b, 1, none⟩ = false ∧ w.frozen? ⟨b, 2, none⟩ = false ∧ w.frozen? ⟨b, 3, none⟩ = false :=
  ⟨h.cell 0 _ rfl, h.cell 1 _ rfl, h.cell 2 _ rfl, h.cell 3 _ rfl, h.free 0 (by simp), h.free 1 (by simp), h.free 2 (by simp), h.free 3 (by simp)⟩
theorem _root_.Go.Proofs.Ytkmgndaholglhaa.Row.cells {w : World} {b : Nat} {xs ys : List Value} (h : Row w b xs) (e : xs = ys) : Row w b ys := e ▸ h
/-- The borrow out of the places below i when y is taken off x. -/
def bw (x y : Int) (i : Nat) : Int := -((x % 18446744073709551616 ^ i - y % 18446744073709551616 ^ i) / 18446744073709551616 ^ i)
theorem bw_zero (x y : Int) : bw x y 0 = 0 := by simp [bw, Int.emod_one]
theorem bw_sum (x y : Int) (i : Nat) : (x % 18446744073709551616 ^ (i + 1) - y % 18446744073709551616 ^ (i + 1)) / 18446744073709551616 ^ i = q.dg x i - q.dg y i - bw x y i := by
  rw [q.emod_succ, q.emod_succ]
  unfold bw
  have e : q.dg x i * 18446744073709551616 ^ i + x % 18446744073709551616 ^ i - (q.dg y i * 18446744073709551616 ^ i + y % 18446744073709551616 ^ i) = (x % 18446744073709551616 ^ i - y % 18446744073709551616 ^ i) + (q.dg x i - q.dg y i) * 18446744073709551616 ^ i := by rw [Int.sub_mul]; omega
  rw [e, Int.add_mul_ediv_right _ _ (Int.ne_of_gt (q.p256 i))]
  omega
theorem bw_range (x y : Int) (i : Nat) : 0 ≤ bw x y i ∧ bw x y i ≤ 1 := by
  unfold bw
  have hp := q.p256 i
  have a := Int.emod_nonneg x (Int.ne_of_gt hp)
  have a' := Int.emod_lt_of_pos x hp
  have b := Int.emod_nonneg y (Int.ne_of_gt hp)
  have b' := Int.emod_lt_of_pos y hp
  have h1 : (x % 18446744073709551616 ^ i - y % 18446744073709551616 ^ i) / 18446744073709551616 ^ i < 1 := Int.ediv_lt_of_lt_mul hp (by omega)
  have h2 : -1 ≤ (x % 18446744073709551616 ^ i - y % 18446744073709551616 ^ i) / 18446744073709551616 ^ i := Int.le_ediv_of_mul_le hp (by omega)
  omega
theorem bw_succ (x y : Int) (i : Nat) : bor (q.dg x i) (q.dg y i + bw x y i) = bw x y (i + 1) := by
  have e : bw x y (i + 1) = -((q.dg x i - q.dg y i - bw x y i) / 18446744073709551616) := by
    rw [← bw_sum]
    show -((x % 18446744073709551616 ^ (i + 1) - y % 18446744073709551616 ^ (i + 1)) / 18446744073709551616 ^ (i + 1)) = _
    have hp := q.p256 i
    rw [Int.pow_succ, Int.ediv_ediv, if_neg (by omega)]
    omega
  rw [e]
  have h := bw_range x y i
  have a := q.dg_range x i
  have b := q.dg_range y i
  unfold bor
  split <;> omega
theorem sub_digit (x y : Int) (i : Nat) : (q.dg x i - q.dg y i - bw x y i) % 18446744073709551616 = q.dg (x - y) i := by
  unfold q.dg bw
  have hp := q.p256 i
  have h1 := Int.mul_ediv_add_emod x (18446744073709551616 ^ i)
  have h2 := Int.mul_ediv_add_emod y (18446744073709551616 ^ i)
  have e : x - y = (x % 18446744073709551616 ^ i - y % 18446744073709551616 ^ i) + (x / 18446744073709551616 ^ i - y / 18446744073709551616 ^ i) * 18446744073709551616 ^ i := by
    have a1 : x / 18446744073709551616 ^ i * (18446744073709551616 : Int) ^ i = 18446744073709551616 ^ i * (x / 18446744073709551616 ^ i) := Int.mul_comm _ _
    have a2 : y / 18446744073709551616 ^ i * (18446744073709551616 : Int) ^ i = 18446744073709551616 ^ i * (y / 18446744073709551616 ^ i) := Int.mul_comm _ _
    rw [Int.sub_mul]; omega
  have e2 : (x - y) / 18446744073709551616 ^ i = (x % 18446744073709551616 ^ i - y % 18446744073709551616 ^ i) / 18446744073709551616 ^ i + (x / 18446744073709551616 ^ i - y / 18446744073709551616 ^ i) := by
    conv => lhs; rw [e]
    exact Int.add_mul_ediv_right _ _ (Int.ne_of_gt hp)
  rw [e2]
  omega
end Go.Proofs.Ytkmgndaholglhaa.lq

namespace Go.Proofs.Ytkmgndaholglhaa.lq
open Go.RowKit
set_option linter.unusedVariables false

theorem add64 (x y c : Int) (hx : 0 ≤ x) (hy : 0 ≤ y) (hc0 : 0 ≤ c) (hc : c ≤ 1) (w : World) : (callFunc 66 #[.int .u64 x, .int .u64 y, .int .u64 c]).run Try.prog w =
    .ok (.value (.tuple #[.int .u64 ((x + y + c) % 18446744073709551616), .int .u64 ((x + y + c) / 18446744073709551616)])) w := by
  rw [run_callFunc_extern Try.func66 (by kernel_rfl) (by kernel_rfl) (by kernel_rfl) (e := add64Entry) (by kernel_rfl), run_add64 x y c hx hy hc0 hc]
  rfl
theorem add64_0 (x y : Int) (hx : 0 ≤ x) (hy : 0 ≤ y) (w : World) : (callFunc 66 #[.int .u64 x, .int .u64 y, .int .u64 0]).run Try.prog w =
    .ok (.value (.tuple #[.int .u64 ((x + y) % 18446744073709551616), .int .u64 ((x + y) / 18446744073709551616)])) w := by
  simpa using add64 x y 0 hx hy (Int.le_refl 0) (by decide) w
theorem sub64 (x y b : Int) (hx : 0 ≤ x) (hy : 0 ≤ y) (hy' : y < 18446744073709551616) (hb0 : 0 ≤ b) (hb : b ≤ 1) (w : World) : (callFunc 71 #[.int .u64 x, .int .u64 y, .int .u64 b]).run Try.prog w =
    .ok (.value (.tuple #[.int .u64 ((x - y - b) % 18446744073709551616), .int .u64 (bor x (y + b))])) w := by
  obtain ⟨x, rfl⟩ := Int.eq_ofNat_of_zero_le hx
  obtain ⟨y, rfl⟩ := Int.eq_ofNat_of_zero_le hy
  obtain ⟨b, rfl⟩ := Int.eq_ofNat_of_zero_le hb0
  have e1 : (((x + 18446744073709551616 - y - b) % 18446744073709551616 : Nat) : Int) = ((x : Int) - y - b) % 18446744073709551616 := by omega
  have e2 : ((if x < y + b then 1 else 0 : Nat) : Int) = bor x (y + b) := by unfold bor; split <;> split <;> omega
  rw [← e1, ← e2, run_callFunc_extern Try.func71 (by kernel_rfl) (by kernel_rfl) (by kernel_rfl) (e := sub64Entry) (by kernel_rfl), run_sub64 x y b (by omega)]
  rfl

theorem keep_other {w : World} {b c i k : Nat} {u v : Value} (h : w.cell? ⟨b, k, none⟩ = some u) (hne : c ≠ b) : ((w.setCell ⟨c, i, none⟩ v).drew).cell? ⟨b, k, none⟩ = some u :=
  (World.cell?_setCell_other _ _ _ _ (by intro q; simp only [Addr.mk.injEq] at q; omega)).trans h

/-- What holds at the head of each round of the sum's loop: both arguments, the answer's place, the sum so far. -/
structure AddRel (w : World) (x y z : Int) (k : Nat) (wr : World) : Prop where
  ra : Row wr w.heap.size (q.dcells 4 x)
  rb : Row wr (w.heap.size + 1) (q.dcells 4 y)
  rz : Row wr (w.heap.size + 1 + 1) (q.dcells 4 0)
  rs : Row wr (w.heap.size + 1 + 1 + 1) (q.mix 4 k z 0)
  bel : Below w.heap.size w wr
  size : w.heap.size + 1 + 1 + 1 < wr.heap.size
theorem addRel_start (w : World) (x y z : Int) (t : TypeId) : AddRel w x y z 0 ((((w.alloc (.cells #[.int .u64 (q.dg x 0), .int .u64 (q.dg x 1), .int .u64 (q.dg x 2), .int .u64 (q.dg x 3)] t)).alloc (.cells #[.int .u64 (q.dg y 0), .int .u64 (q.dg y 1), .int .u64 (q.dg y 2), .int .u64 (q.dg y 3)] t)).alloc
    (.cells #[.int .u64 0, .int .u64 0, .int .u64 0, .int .u64 0] t)).alloc (.cells #[.int .u64 0, .int .u64 0, .int .u64 0, .int .u64 0] t)) := by
  have h0 := (((Row.new w (q.dcells 4 x) t).alloc (.cells (q.dcells 4 y).toArray t) (by simp <;> omega)).alloc (.cells (q.dcells 4 0).toArray t) (by simp <;> omega)).alloc (.cells (q.dcells 4 0).toArray t) (by simp <;> omega)
  have h1 := ((Row.new (w.alloc (.cells (q.dcells 4 x).toArray t)) (q.dcells 4 y) t).alloc (.cells (q.dcells 4 0).toArray t) (by simp <;> omega)).alloc (.cells (q.dcells 4 0).toArray t) (by simp <;> omega)
  have h2 := (Row.new ((w.alloc (.cells (q.dcells 4 x).toArray t)).alloc (.cells (q.dcells 4 y).toArray t)) (q.dcells 4 0) t).alloc (.cells (q.dcells 4 0).toArray t) (by simp <;> omega)
  have h3 := Row.new (((w.alloc (.cells (q.dcells 4 x).toArray t)).alloc (.cells (q.dcells 4 y).toArray t)).alloc (.cells (q.dcells 4 0).toArray t)) (q.dcells 4 0) t
  simp only [World.size_alloc] at h1 h2 h3
  rw [qcells_0, qcells x, qcells y] at h0 h1 h2 h3
  refine ⟨by rw [qcells]; exact h0, by rw [qcells]; exact h1, by rw [qcells_0]; exact h2, by rw [q.mix_zero, qcells_0]; exact h3, ?_, by simp⟩
  exact ((((Below.refl _ _).alloc (Nat.le_refl _) _).alloc (by simp <;> omega) _).alloc (by simp <;> omega) _).alloc (by simp <;> omega) _
theorem addRel_next {w wr : World} {x y z d : Int} {k : Nat} (h : AddRel w x y z k wr) (hk : k < 4) (e : d = q.dg z k) :
    AddRel w x y z (k + 1) ((wr.setCell ⟨w.heap.size + 1 + 1 + 1, k, none⟩ (.int .u64 d)).drew) := by
  refine ⟨(h.ra.other _ (by omega)).drew, (h.rb.other _ (by omega)).drew, (h.rz.other _ (by omega)).drew, ?_, (h.bel.setCell (by show _ ≤ w.heap.size + 1 + 1 + 1; omega) _).drew, by simpa using h.size⟩
  rw [e, ← q.mix_set]
  exact (h.rs.set k _ (by rw [q.mix_length]; exact hk)).drew

set_option maxHeartbeats 1000000 in
theorem qadd_any {a0 a1 a2 a3 b0 b1 b2 b3 : Int} (a b : Int) (ha : Wd a a0 a1 a2 a3) (hb : Wd b b0 b1 b2 b3) (w : World) :
    Calls Try.prog 47 #[.agg #[.int .u64 a0, .int .u64 a1, .int .u64 a2, .int .u64 a3], .agg #[.int .u64 b0, .int .u64 b1, .int .u64 b2, .int .u64 b3]] w fun e w' =>
      e = .returned (.agg #[.int .u64 (q.dg (a + b) 0), .int .u64 (q.dg (a + b) 1), .int .u64 (q.dg (a + b) 2), .int .u64 (q.dg (a + b) 3)]) ∧ Below w.heap.size w w' := by
  obtain ⟨rfl, rfl, rfl, rfl⟩ := ha
  obtain ⟨rfl, rfl, rfl, rfl⟩ := hb
  go_enter Try.func47, Try.ntmps47
  go_wp2
  go_loopw [6, 8] (fun c i wr => ∃ k : Nat, k ≤ 4 ∧ i = .int .i64 (k : Int) ∧ c = .int .u64 (q.carry a b k) ∧ AddRel w a b (a + b) k wr) (fun _ i _ => 4 - (intOf i).toNat)
  case atStart => exact ⟨0, by omega, rfl, by rw [q.carry_zero], addRel_start w a b _ _⟩
  case round =>
    obtain ⟨k, hk, rfl, rfl, hr⟩ := hrel
    by_cases hlt : k < 4
    · have c1 : wr.cell? ⟨w.heap.size, k, none⟩ = some (.int .u64 (q.dg a k)) := hr.ra.cell k _ (q.dcells_at _ _ _ hlt)
      have c2 : wr.cell? ⟨w.heap.size + 1, k, none⟩ = some (.int .u64 (q.dg b k)) := hr.rb.cell k _ (q.dcells_at _ _ _ hlt)
      have c3 : wr.cell? ⟨w.heap.size + 1 + 1 + 1, k, none⟩ = some (.int .u64 (q.dg 0 k)) := hr.rs.cell k _ (q.mix_at _ _ _ _ _ hlt (Nat.le_refl _))
      have c4 : wr.frozen? ⟨w.heap.size + 1 + 1 + 1, k, none⟩ = false := hr.rs.free k (by rw [q.mix_length]; exact hlt)
      have hl : (k : Int) < 4 := by omega
      obtain ⟨d0, d1⟩ := q.dg_range a k
      obtain ⟨e0, e1⟩ := q.dg_range b k
      obtain ⟨f0, f1⟩ := q.carry_range a b k
      have hn := fun d e => addRel_next (d := d) hr hlt e
      go_wp2
      go_region_held3 (fun w' => w'.cell? ⟨w.heap.size, k, none⟩ = some (.int .u64 (q.dg a k)) ∧ w'.cell? ⟨w.heap.size + 1, k, none⟩ = some (.int .u64 (q.dg b k))) (first | exact ⟨c1, c2⟩ | exact ⟨keep_other c1 (by omega), keep_other c2 (by omega)⟩)
        (simp only [add64 _ _ _ d0 e0 f0 f1])
      go_wp2
      go_roundw
      case rel => exact ⟨k + 1, by omega, by simp, by rw [q.carry_succ, Int.add_comm (q.dg a k + q.dg b k), ← Int.add_assoc], hn _ (by rw [← q.add_digit]; congr 1; omega)⟩
      case measure => simp [intOf]; omega
    · obtain rfl : k = 4 := by omega
      obtain ⟨ra, rb, rz, rs, bel, size⟩ := hr
      rw [q.mix_full, qcells] at rs
      rw [qcells_0] at rz
      obtain ⟨c0, c1, c2, c3, _, _, _, _⟩ := row4 rs
      obtain ⟨z0, z1, z2, z3, y0, y1, y2, y3⟩ := row4 rz
      clear ra rb rs rz
      go_wp2
      refine bodyPost_ret (v := .agg #[.int .u64 (q.dg (a + b) 0), .int .u64 (q.dg (a + b) 1), .int .u64 (q.dg (a + b) 2), .int .u64 (q.dg (a + b) 3)]) (by simp [results, Try.results47, go_sem, *]) rfl ⟨rfl, ?_⟩
      exact (((bel.setCell (by show _ ≤ w.heap.size + 1 + 1; omega) _).setCell (by show _ ≤ w.heap.size + 1 + 1; omega) _).setCell (by show _ ≤ w.heap.size + 1 + 1; omega) _).setCell (by show _ ≤ w.heap.size + 1 + 1; omega) _

set_option maxHeartbeats 1000000 in
theorem qsub_any {a0 a1 a2 a3 b0 b1 b2 b3 : Int} (a b : Int) (ha : Wd a a0 a1 a2 a3) (hb : Wd b b0 b1 b2 b3) (w : World) :
    Calls Try.prog 63 #[.agg #[.int .u64 a0, .int .u64 a1, .int .u64 a2, .int .u64 a3], .agg #[.int .u64 b0, .int .u64 b1, .int .u64 b2, .int .u64 b3]] w fun e w' =>
      e = .returned (.agg #[.int .u64 (q.dg (a - b) 0), .int .u64 (q.dg (a - b) 1), .int .u64 (q.dg (a - b) 2), .int .u64 (q.dg (a - b) 3)]) ∧ Below w.heap.size w w' := by
  obtain ⟨rfl, rfl, rfl, rfl⟩ := ha
  obtain ⟨rfl, rfl, rfl, rfl⟩ := hb
  go_enter Try.func63, Try.ntmps63
  go_wp2
  go_loopw [6, 8] (fun c i wr => ∃ k : Nat, k ≤ 4 ∧ i = .int .i64 (k : Int) ∧ c = .int .u64 (bw a b k) ∧ AddRel w a b (a - b) k wr) (fun _ i _ => 4 - (intOf i).toNat)
  case atStart => exact ⟨0, by omega, rfl, by rw [bw_zero], addRel_start w a b _ _⟩
  case round =>
    obtain ⟨k, hk, rfl, rfl, hr⟩ := hrel
    by_cases hlt : k < 4
    · have c1 : wr.cell? ⟨w.heap.size, k, none⟩ = some (.int .u64 (q.dg a k)) := hr.ra.cell k _ (q.dcells_at _ _ _ hlt)
      have c2 : wr.cell? ⟨w.heap.size + 1, k, none⟩ = some (.int .u64 (q.dg b k)) := hr.rb.cell k _ (q.dcells_at _ _ _ hlt)
      have c3 : wr.cell? ⟨w.heap.size + 1 + 1 + 1, k, none⟩ = some (.int .u64 (q.dg 0 k)) := hr.rs.cell k _ (q.mix_at _ _ _ _ _ hlt (Nat.le_refl _))
      have c4 : wr.frozen? ⟨w.heap.size + 1 + 1 + 1, k, none⟩ = false := hr.rs.free k (by rw [q.mix_length]; exact hlt)
      have hl : (k : Int) < 4 := by omega
      obtain ⟨d0, d1⟩ := q.dg_range a k
      obtain ⟨e0, e1⟩ := q.dg_range b k
      obtain ⟨f0, f1⟩ := bw_range a b k
      have hn := fun d e => addRel_next (d := d) hr hlt e
      go_wp2
      go_region_held3 (fun w' => w'.cell? ⟨w.heap.size, k, none⟩ = some (.int .u64 (q.dg a k)) ∧ w'.cell? ⟨w.heap.size + 1, k, none⟩ = some (.int .u64 (q.dg b k))) (first | exact ⟨c1, c2⟩ | exact ⟨keep_other c1 (by omega), keep_other c2 (by omega)⟩)
        (simp only [sub64 _ _ _ d0 e0 e1 f0 f1])
      go_wp2
      go_roundw
      case rel => exact ⟨k + 1, by omega, by simp, by rw [bw_succ], hn _ (sub_digit _ _ _)⟩
      case measure => simp [intOf]; omega
    · obtain rfl : k = 4 := by omega
      obtain ⟨ra, rb, rz, rs, bel, size⟩ := hr
      rw [q.mix_full, qcells] at rs
      rw [qcells_0] at rz
      obtain ⟨c0, c1, c2, c3, _, _, _, _⟩ := row4 rs
      obtain ⟨z0, z1, z2, z3, y0, y1, y2, y3⟩ := row4 rz
      clear ra rb rs rz
      go_wp2
      refine bodyPost_ret (v := .agg #[.int .u64 (q.dg (a - b) 0), .int .u64 (q.dg (a - b) 1), .int .u64 (q.dg (a - b) 2), .int .u64 (q.dg (a - b) 3)]) (by simp [results, Try.results63, go_sem, *]) rfl ⟨rfl, ?_⟩
      exact (((bel.setCell (by show _ ≤ w.heap.size + 1 + 1; omega) _).setCell (by show _ ≤ w.heap.size + 1 + 1; omega) _).setCell (by show _ ≤ w.heap.size + 1 + 1; omega) _).setCell (by show _ ≤ w.heap.size + 1 + 1; omega) _

end Go.Proofs.Ytkmgndaholglhaa.lq

namespace Go.Proofs.Ytkmgndaholglhaa.lq
open Go.RowKit
set_option linter.unusedVariables false

theorem pw1 : (18446744073709551616 : Int) ^ 1 = 18446744073709551616 := rfl
theorem pw2 : (18446744073709551616 : Int) ^ 2 = 340282366920938463463374607431768211456 := rfl
theorem pw3 : (18446744073709551616 : Int) ^ 3 = 6277101735386680763835789423207666416102355444464034512896 := rfl
theorem qdg0 (a : Int) : q.dg a 0 = a % 18446744073709551616 := by simp [q.dg]
theorem qdg1 (a : Int) : q.dg a 1 = a / 18446744073709551616 % 18446744073709551616 := by unfold q.dg; rw [pw1]
theorem qdg2 (a : Int) : q.dg a 2 = a / 340282366920938463463374607431768211456 % 18446744073709551616 := by unfold q.dg; rw [pw2]
theorem qdg3 (a : Int) : q.dg a 3 = a / 6277101735386680763835789423207666416102355444464034512896 % 18446744073709551616 := by unfold q.dg; rw [pw3]
theorem hi_q (a : Int) : IntKind.u64.wrap (hi a) = q.dg a 1 := by rw [qdg1, IntKind.wrap_u64]; unfold hi; omega
theorem ret_quad {a0 a1 a2 a3 b0 b1 b2 b3 : Int} (h0 : a0 = b0) (h1 : a1 = b1) (h2 : a2 = b2) (h3 : a3 = b3) : Value.agg #[.int .u64 a0, .int .u64 a1, .int .u64 a2, .int .u64 a3] = .agg #[.int .u64 b0, .int .u64 b1, .int .u64 b2, .int .u64 b3] := by rw [h0, h1, h2, h3]

theorem up_q0 (a : Int) : (0 : Int) = q.dg (a * 340282366920938463463374607431768211456) 0 := by rw [qdg0]; omega
theorem up_q1 (a : Int) : (0 : Int) = q.dg (a * 340282366920938463463374607431768211456) 1 := by rw [qdg1]; omega
theorem up_q2 (a : Int) : lo a = q.dg (a * 340282366920938463463374607431768211456) 2 := by rw [qdg2]; unfold lo; omega
theorem up_q3 (a : Int) : IntKind.u64.wrap (hi a) = q.dg (a * 340282366920938463463374607431768211456) 3 := by rw [qdg3, IntKind.wrap_u64]; unfold hi; omega
theorem upper_any {ah al : Int} (a : Int) (ha : ah = hi a) (hl : al = lo a) (w : World) :
    Calls Try.prog 64 #[.agg #[.int .i64 ah, .int .u64 al]] w fun e w' => e = .returned (.agg #[.int .u64 (q.dg (a * 340282366920938463463374607431768211456) 0), .int .u64 (q.dg (a * 340282366920938463463374607431768211456) 1), .int .u64 (q.dg (a * 340282366920938463463374607431768211456) 2), .int .u64 (q.dg (a * 340282366920938463463374607431768211456) 3)]) ∧ Below w.heap.size w w' := by
  subst ha hl
  have R := ret_quad (up_q0 a) (up_q1 a) (up_q2 a) (up_q3 a)
  rw [← R]
  clear R
  go_enter Try.func64, Try.ntmps64
  go_wp2
  refine bodyPost_ret (v := .agg #[.int .u64 0, .int .u64 0, .int .u64 (lo a), .int .u64 (IntKind.u64.wrap (hi a))]) (by simp [results, Try.results64, go_sem]) rfl ⟨rfl, ?_⟩
  exact ((Below.refl _ _).alloc (Nat.le_refl _) _).alloc (by simp) _

theorem mul64_any (x y : Int) (x0 : 0 ≤ x) (x1 : x < 18446744073709551616) (y0 : 0 ≤ y) (y1 : y < 18446744073709551616) (w : World) :
    Calls Try.prog 72 #[.int .u64 x, .int .u64 y] w fun e w' => e = .returned (.tuple #[.int .u64 (x * y / 18446744073709551616), .int .u64 (x * y % 18446744073709551616)]) ∧ w' = w := by
  go_enter Try.func72, Try.ntmps72
  go_wp2
  go_ret2
  exact ⟨ret_tup2 (mul64_hi x y x0 x1 y0 y1) (IntKind.wrap_u64 _), rfl⟩
theorem prod_range (x y : Int) (x0 : 0 ≤ x) (x1 : x < 18446744073709551616) (y0 : 0 ≤ y) (y1 : y < 18446744073709551616) : 0 ≤ x * y ∧ x * y ≤ 340282366920938463426481119284349108225 := by
  refine ⟨Int.mul_nonneg x0 y0, ?_⟩
  have := Int.mul_le_mul (show x ≤ 18446744073709551615 by omega) (show y ≤ 18446744073709551615 by omega) y0 (by decide)
  omega
theorem mulAdd_hi (p m c : Int) (p0 : 0 ≤ p) (p1 : p ≤ 340282366920938463426481119284349108225) (m0 : 0 ≤ m) (m1 : m < 18446744073709551616) (c0 : 0 ≤ c) (c1 : c < 18446744073709551616) :
    (p / 18446744073709551616 + (p % 18446744073709551616 + m) / 18446744073709551616 + ((p + m) % 18446744073709551616 + c) / 18446744073709551616) = (p + m + c) / 18446744073709551616 := by omega
set_option maxHeartbeats 1000000 in
theorem mulAdd_any (x y m c : Int) (x0 : 0 ≤ x) (x1 : x < 18446744073709551616) (y0 : 0 ≤ y) (y1 : y < 18446744073709551616) (m0 : 0 ≤ m) (m1 : m < 18446744073709551616) (c0 : 0 ≤ c) (c1 : c < 18446744073709551616) (w : World) :
    Calls Try.prog 73 #[.int .u64 x, .int .u64 y, .int .u64 m, .int .u64 c] w fun e w' => e = .returned (.tuple #[.int .u64 ((x * y + m + c) / 18446744073709551616), .int .u64 ((x * y + m + c) % 18446744073709551616)]) ∧ w' = w := by
  obtain ⟨p0, p1⟩ := prod_range x y x0 x1 y0 y1
  have E : Hid _ := mulAdd_hi (x * y) m c p0 p1 m0 m1 c0 c1
  have k0 : 0 ≤ x * y % 18446744073709551616 := by omega
  have k1 : 0 ≤ (x * y + m) % 18446744073709551616 := by omega
  go_enter Try.func73, Try.ntmps73
  go_wp2_with (first
    | (go_at_call 72; refine (mul64_any x y x0 x1 y0 y1 _).mono ?_; rintro e w' ⟨rfl, hw⟩; have hw := hw.symm; subst hw)
    | simp only [add64_0 _ _ k0 m0] | simp only [add64_0 _ _ k1 c0])
  go_ret2
  exact ⟨ret_tup2 E.out rfl, rfl⟩

theorem qdg_high {v : Int} {n j : Nat} (h0 : 0 ≤ v) (h1 : v < 18446744073709551616 ^ n) (hj : n ≤ j) : q.dg v j = 0 := by
  unfold q.dg
  have : v < (18446744073709551616 : Int) ^ j := by
    obtain ⟨d, rfl⟩ : ∃ d, j = n + d := ⟨j - n, by omega⟩
    rw [Int.pow_add]
    have hp := q.p256 n
    have hd := q.p256 d
    have := Int.mul_le_mul_of_nonneg_left (show (1 : Int) ≤ 18446744073709551616 ^ d by omega) (Int.le_of_lt hp)
    omega
  rw [Int.ediv_eq_zero_of_lt h0 this]
  rfl
theorem low_mul {X Y : Int} (i : Nat) (y0 : 0 ≤ Y) (y1 : Y < 340282366920938463463374607431768211456) : 0 ≤ X % 18446744073709551616 ^ i * Y ∧ X % 18446744073709551616 ^ i * Y < 18446744073709551616 ^ (i + 2) := by
  have hp := q.p256 i
  have a := Int.emod_nonneg X (Int.ne_of_gt hp)
  have a' := Int.emod_lt_of_pos X hp
  refine ⟨Int.mul_nonneg a y0, ?_⟩
  rw [Int.pow_add, pw2]
  have h1 := Int.mul_le_mul (show X % 18446744073709551616 ^ i ≤ 18446744073709551616 ^ i by omega) (Int.le_of_lt y1) y0 (Int.le_of_lt hp)
  rcases Int.lt_or_eq_of_le h1 with h | h
  · exact h
  · exfalso
    have h2 := Int.mul_lt_mul_of_pos_left y1 hp
    have h3 := Int.mul_le_mul_of_nonneg_right (show X % 18446744073709551616 ^ i ≤ 18446744073709551616 ^ i by omega) y0
    omega
/-- The last carry of a round is the digit over the round's digits. -/
theorem cy_last {X Y : Int} (i : Nat) (y0 : 0 ≤ Y) (y1 : Y < 340282366920938463463374607431768211456) :
    q.cy (X % 18446744073709551616 ^ i * Y) (q.dg X i) Y i 2 = q.dg (X % 18446744073709551616 ^ i * Y + q.dg X i * 18446744073709551616 ^ i * Y) (i + 2) := by
  obtain ⟨o0, o1⟩ := low_mul (X := X) i y0 y1
  obtain ⟨d0, d1⟩ := q.dg_range X i
  obtain ⟨r0, r1⟩ := q.cy_range (X % 18446744073709551616 ^ i * Y) (q.dg X i) Y i 2 d0 d1
  unfold q.cy q.tk at r0 r1 ⊢
  rw [Int.emod_eq_of_lt o0 o1, Int.emod_eq_of_lt (b := 18446744073709551616 ^ 2) y0 (by rw [pw2]; exact y1)] at r0 r1 ⊢
  generalize hV : X % 18446744073709551616 ^ i * Y + q.dg X i * 18446744073709551616 ^ i * Y = V at *
  show V / 18446744073709551616 ^ (i + 2) = V / 18446744073709551616 ^ (i + 2) % 18446744073709551616
  omega
theorem mix_done {X Y : Int} (i : Nat) (hi : i < 2) (y0 : 0 ≤ Y) (y1 : Y < 340282366920938463463374607431768211456) :
    (q.mix 4 (i + 2) (X % 18446744073709551616 ^ i * Y + q.dg X i * 18446744073709551616 ^ i * Y) (X % 18446744073709551616 ^ i * Y)).set (i + 2) (.int .u64 (q.cy (X % 18446744073709551616 ^ i * Y) (q.dg X i) Y i 2)) = q.dcells 4 (X % 18446744073709551616 ^ (i + 1) * Y) := by
  rw [cy_last i y0 y1, q.mix_set, q.mul_next, ← q.mix_full 4 _ 0]
  obtain ⟨o0, o1⟩ := low_mul (X := X) i y0 y1
  obtain ⟨s0, s1⟩ := low_mul (X := X) (i + 1) y0 y1
  refine q.fill_congr fun j hj => ?_
  by_cases h : j < i + 2 + 1
  · simp [h, hj]
  · simp [h, hj]
    rw [qdg_high o0 o1 (by omega), qdg_high s0 s1 (by omega)]

/-- What holds at the head of each round of both loops of the product: both factors' words in blocks of their own, and a row at the product's. -/
structure MulRel (w : World) (X Y : Int) (bx by' : Nat) (cs : List Value) (wr : World) : Prop where
  rx : Row wr bx (q.dcells 2 X)
  ry : Row wr by' (q.dcells 2 Y)
  rz : Row wr (w.heap.size + 1 + 1) (q.dcells 4 0)
  rp : Row wr (w.heap.size + 1 + 1 + 1 + 1 + 1) cs
  bel : Below w.heap.size w wr
  size : w.heap.size + 1 + 1 + 1 + 1 + 1 < wr.heap.size
theorem MulRel.set {w wr : World} {X Y : Int} {bx by' : Nat} {cs : List Value} (h : MulRel w X Y bx by' cs wr) (hx : bx ≠ w.heap.size + 1 + 1 + 1 + 1 + 1) (hy : by' ≠ w.heap.size + 1 + 1 + 1 + 1 + 1) (i : Nat) (hi : i < cs.length) (v : Value) :
    MulRel w X Y bx by' (cs.set i v) (wr.setCell ⟨w.heap.size + 1 + 1 + 1 + 1 + 1, i, none⟩ v) :=
  ⟨h.rx.other _ (Ne.symm hx), h.ry.other _ (Ne.symm hy), h.rz.other _ (by omega), h.rp.set i v hi, h.bel.setCell (by show _ ≤ w.heap.size + 1 + 1 + 1 + 1 + 1; omega) _, by simpa using h.size⟩
theorem MulRel.drewN {w wr : World} {X Y : Int} {bx by' : Nat} {cs : List Value} (h : MulRel w X Y bx by' cs wr) (n : Nat) : MulRel w X Y bx by' cs (wr.drewN n) :=
  ⟨h.rx.drewN n, h.ry.drewN n, h.rz.drewN n, h.rp.drewN n, below_drewN h.bel n, h.size⟩

end Go.Proofs.Ytkmgndaholglhaa.lq
