/-
  Joined texts, part 7:
  A region whose order is open, with calls and blocks that are made at any time: what holds while some are done, kept by an invariant (no order is written out). It imports nothing of the program.
  What the calls of an open region may tell: a number of zelligeref04 (its digits lie in memory), or a value that is known.
  What zelligeref07's diff, Area and Dist answer.
  Blocks of six cells: what they hold. It imports nothing of the program.
  Numbers as digits to the base 256: which digits a sum, a difference, a product has. It imports nothing of the program.
  Numbers as digits to the base 18446744073709551616: which digits a sum, a difference, a product has. It imports nothing of the program.
  The arithmetic of a product, digit by digit. It imports nothing of the program.
  Plain arithmetic of numbers of two words: what word a sum, a difference and a product have. It imports nothing of the program.
  Plain arithmetic of numbers of four words. It imports nothing of the program.
  What package quad's sum, difference and negation answer, as words.
-/
import Derived.Test.YtcaihoomcdbfnaaGreatP6
import Derived.WalkKit
import Derived.Laws.Bits64b
import Derived.Test.YtcaihoomcdbfnaaGreatRows
import Derived.WalkSpells
import Derived.StillTactics
import Derived.Laws.Pointers
import Derived.Laws.Externs
import Derived.Shelf.Spec.BitsCarry
import Derived.RowKit3
import Derived.Deep.RegionHeld3
import Derived.Deep.QuietTactic
import Derived.BigQuiet
import Derived.RegionTactic
namespace Go.Proofs.YtcaihoomcdbfnaaGreat
open Go.RowKit
set_option linter.unusedVariables false

/-- A function, changed at one place. -/
def upd {α : Type} (f : Nat → α) (i : Nat) (x : α) : Nat → α := fun j => if j = i then x else f j
theorem upd_same {α : Type} (f : Nat → α) (i : Nat) (x : α) : upd f i x i = x := by unfold upd; rw [if_pos rfl]
theorem upd_other {α : Type} (f : Nat → α) (i j : Nat) (x : α) (h : j ≠ i) : upd f i x j = f j := by unfold upd; rw [if_neg h]
/-- What is told of a result x (number j): R: what holds of it in the memory; A: which blocks it is apart from. R stays where old blocks stay, and a result is apart from blocks to come. -/
def GoodSp (Sp : Nat → Value → (World → Prop) → (Nat → Prop) → Prop) : Prop := ∀ j x R A, Sp j x R A → (∀ w w', R w → Below w.heap.size w w' → R w') ∧ ∀ w k, R w → w.heap.size ≤ k → A k
def nb (x : Bool) : Nat := match x with | true => 0 | false => 1
/-- b: which calls are done; e: which blocks are made, p: where; u, R, A: what a call told; v: the blocks' pointers. -/
structure Mk (U : World) (Z : Nat → List Value) (Sp : Nat → Value → (World → Prop) → (Nat → Prop) → Prop) (b e : Nat → Bool) (p : Nat → Nat) (R : Nat → World → Prop) (A : Nat → Nat → Prop) (u v : Nat → Value) (w : World) : Prop where
  spec : ∀ j, b j = true → Sp j (u j) (R j) (A j)
  res : ∀ j, b j = true → R j w
  ptr : ∀ i, e i = true → v i = .pointer (some ⟨p i, 0, none⟩)
  blk : ∀ i, e i = true → Row w (p i) (Z i)
  old : ∀ i, e i = true → U.heap.size ≤ p i
  lt : ∀ i, e i = true → p i < w.heap.size
  ne : ∀ i j, e i = true → e j = true → i ≠ j → p i ≠ p j
  ap : ∀ i j, e i = true → b j = true → A j (p i)
  bel : Below U.heap.size U w
variable {U : World} {Z : Nat → List Value} {Sp : Nat → Value → (World → Prop) → (Nat → Prop) → Prop} {b e : Nat → Bool} {p : Nat → Nat} {R : Nat → World → Prop} {A : Nat → Nat → Prop} {u v : Nat → Value} {w w' : World}
theorem Mk.start (U : World) (Z : Nat → List Value) (Sp : Nat → Value → (World → Prop) → (Nat → Prop) → Prop) {w : World} (h : Below U.heap.size U w) : Mk U Z Sp (fun _ => false) (fun _ => false) (fun _ => 0) (fun _ _ => True) (fun _ _ => True) (fun _ => undef) (fun _ => undef) w :=
  ⟨fun _ h => Bool.noConfusion h, fun _ h => Bool.noConfusion h, fun _ h => Bool.noConfusion h, fun _ h => Bool.noConfusion h, fun _ h => Bool.noConfusion h, fun _ h => Bool.noConfusion h, fun _ _ h => Bool.noConfusion h, fun _ _ h => Bool.noConfusion h, h⟩
theorem Mk.call (h : Mk U Z Sp b e p R A u v w) (hG : GoodSp Sp) (j : Nat) (hb : Below w.heap.size w w') (x : Value) (R' : World → Prop) (A' : Nat → Prop) (hs : Sp j x R' A') (hR : R' w') (hin : ∀ i, e i = true → A' (p i)) :
    Mk U Z Sp (upd b j true) e p (upd R j R') (upd A j A') (upd u j x) v w' := by
  refine ⟨fun i hi => ?_, fun i hi => ?_, h.ptr, fun i hi => (h.blk i hi).below hb (h.lt i hi), h.old, fun i hi => Nat.lt_of_lt_of_le (h.lt i hi) hb.size, h.ne, fun i k hi hk => ?_, also h.bel hb⟩
  · by_cases q : i = j
    · subst q; simp only [upd_same]; exact hs
    · rw [upd_other _ _ _ _ q] at hi; simp only [upd_other _ _ _ _ q]; exact h.spec i hi
  · by_cases q : i = j
    · subst q; simp only [upd_same]; exact hR
    · rw [upd_other _ _ _ _ q] at hi; simp only [upd_other _ _ _ _ q]; exact (hG _ _ _ _ (h.spec i hi)).1 _ _ (h.res i hi) hb
  · by_cases q : k = j
    · subst q; simp only [upd_same]; exact hin i hi
    · rw [upd_other _ _ _ _ q] at hk; simp only [upd_other _ _ _ _ q]; exact h.ap i k hi hk
theorem Mk.alloc (h : Mk U Z Sp b e p R A u v w) (hG : GoodSp Sp) (i : Nat) (t : TypeId) (hi : e i = false) :
    Mk U Z Sp b (upd e i true) (upd p i w.heap.size) R A u (upd v i (.pointer (some ⟨w.heap.size, 0, none⟩))) (w.alloc (.cells (Z i).toArray t)) := by
  have hb : Below w.heap.size w (w.alloc (.cells (Z i).toArray t)) := (Below.refl _ _).alloc (Nat.le_refl _) _
  refine ⟨h.spec, fun j hj => (hG _ _ _ _ (h.spec j hj)).1 _ _ (h.res j hj) hb, fun k hk => ?_, fun k hk => ?_, fun k hk => ?_, fun k hk => ?_, fun k m hk hm hne => ?_, fun k j hk hj => ?_, also h.bel hb⟩
  · by_cases q : k = i
    · subst q; simp only [upd_same]
    · rw [upd_other _ _ _ _ q] at hk; simp only [upd_other _ _ _ _ q]; exact h.ptr k hk
  · by_cases q : k = i
    · subst q; simp only [upd_same]; exact Row.new _ _ _
    · rw [upd_other _ _ _ _ q] at hk; simp only [upd_other _ _ _ _ q]; exact (h.blk k hk).below hb (h.lt k hk)
  · by_cases q : k = i
    · subst q; simp only [upd_same]; exact h.bel.size
    · rw [upd_other _ _ _ _ q] at hk; simp only [upd_other _ _ _ _ q]; exact h.old k hk
  · by_cases q : k = i
    · subst q; simp only [upd_same]; simp
    · rw [upd_other _ _ _ _ q] at hk; simp only [upd_other _ _ _ _ q]; exact Nat.lt_of_lt_of_le (h.lt k hk) hb.size
  · by_cases q : k = i
    · subst q
      rw [upd_other _ _ _ _ (fun x => hne x.symm)] at hm
      simp only [upd_same, upd_other _ _ _ _ (fun x => hne x.symm)]
      exact Nat.ne_of_gt (h.lt m hm)
    · rw [upd_other _ _ _ _ q] at hk
      by_cases q2 : m = i
      · subst q2; simp only [upd_same, upd_other _ _ _ _ q]; exact Nat.ne_of_lt (h.lt k hk)
      · rw [upd_other _ _ _ _ q2] at hm; simp only [upd_other _ _ _ _ q, upd_other _ _ _ _ q2]; exact h.ne k m hk hm hne
  · by_cases q : k = i
    · subst q; simp only [upd_same]; exact (hG _ _ _ _ (h.spec j hj)).2 _ _ (h.res j hj) (Nat.le_refl _)
    · rw [upd_other _ _ _ _ q] at hk; simp only [upd_other _ _ _ _ q]; exact h.ap k j hk hj
theorem bx_row {w : World} {k : Nat} {x y : Value} (h : Row w k [x, y]) : Bx w k x y := ⟨(h 0 x rfl).1, (h 1 y rfl).1, (h 0 x rfl).2, (h 1 y rfl).2⟩
variable {P : Program} {md : Region.Mode} {Q : Exit → Act → World → Prop} {S : World → Prop}
theorem ready_at {l : List Oper} {L : Array Bool} {i : Nat} (hi : i ∈ Region.ready md l.toArray L) : i < l.length ∧ L.getD i true = false ∧ ∀ o, l[i]? = some o → ∀ (k : Nat) x, o.after[k]? = some x → Region.binds md x = true → L.getD x.on false = true := by
  unfold Region.ready at hi
  rw [List.mem_filter, List.mem_range, Bool.and_eq_true_iff] at hi
  obtain ⟨h1, h2, h3⟩ := hi
  refine ⟨by simpa using h1, by simpa using h2, fun o ho k x hx hb => ?_⟩
  have ho' : l.toArray[i]? = some o := by simpa using ho
  rw [ho'] at h3
  simp only [Option.map_some, Option.getD_some] at h3
  obtain ⟨hk, rfl⟩ := Array.getElem?_eq_some_iff.1 hx
  have := Array.all_eq_true.1 h3 k hk
  rw [hb] at this
  simpa using this
theorem ready_ne {l : List Oper} {L : Array Bool} {i : Nat} (hi : i < l.length) (h : (!L.getD i true && ((l.toArray[i]?).map (·.after.all fun e => !Region.binds md e || L.getD e.on false)).getD false) = true) : Region.ready md l.toArray L ≠ [] := by
  intro e
  have : i ∈ Region.ready md l.toArray L := by
    unfold Region.ready
    rw [List.mem_filter, List.mem_range]
    exact ⟨by simpa using hi, h⟩
  rw [e] at this
  cases this
/-- By an invariant through a part of the region: at each state either the rest goes by itself, or some operation is ready and each one that is leads on. -/
theorem phase {l : List Oper} (Inv : Nat → Array Bool → Act → World → Prop)
    (hstep : ∀ f L a w, Inv f L a w → wpAnyH P md l.toArray Q S f L a w ∨ ∃ g, f = g + 1 ∧ Region.ready md l.toArray L ≠ [] ∧ ∀ i ∈ Region.ready md l.toArray L, ∃ o, l[i]? = some o ∧ ∀ K' : Act → World → Prop, Shut (∀ a w, S w → Inv g (L.setIfInBounds i true) a w → K' a w) → if Region.wanted o (yielded l.toArray a.tmps) = true then Oper.wp P o a w K' Q else K' (a.put o.dst undef) w) :
    ∀ f L a w, Inv f L a w → wpAnyH P md l.toArray Q S f L a w := by
  intro f
  induction f with
  | zero =>
    intro L a w h
    rcases hstep 0 L a w h with h | ⟨g, hg, _⟩
    · exact h
    · omega
  | succ f ih =>
    intro L a w h
    rcases hstep (f + 1) L a w h with h | ⟨g, hg, hne, hall⟩
    · exact h
    · obtain rfl : f = g := by omega
      refine ⟨fun e => absurd e hne, fun i hi => ?_⟩
      obtain ⟨o, ho, ho2⟩ := hall i hi
      exact wpOp_step (by simpa using ho) (fun K' hK => ho2 K' (fun a w hS hI => hK a w ⟨hS, ih _ a w hI⟩))
end Go.Proofs.YtcaihoomcdbfnaaGreat

namespace Go.Proofs.YtcaihoomcdbfnaaGreat
open Go.RowKit
set_option linter.unusedVariables false

def ValIs (x0 : Value) (x : Value) (R : World → Prop) (A : Nat → Prop) : Prop := x = x0 ∧ R = (fun _ => True) ∧ A = fun _ => True
theorem RN.apart {w : World} {s : Int} {d : Option Addr} {l c k : Nat} {X : Int} (h : RN w s d l c X) (hk : w.heap.size ≤ k) : NA k d l := h.hd.sl.na hk
theorem valIs_good {x0 x : Value} {R : World → Prop} {A : Nat → Prop} (h : ValIs x0 x R A) : (∀ w w', R w → Below w.heap.size w w' → R w') ∧ ∀ w k, R w → w.heap.size ≤ k → A k := by
  obtain ⟨rfl, rfl, rfl⟩ := h
  exact ⟨fun _ _ _ _ => trivial, fun _ _ _ _ => trivial⟩
end Go.Proofs.YtcaihoomcdbfnaaGreat

namespace Go.Proofs.YtcaihoomcdbfnaaGreat
open Go.RowKit
set_option linter.unusedVariables false

theorem few_num {z : Int} (h : z.natAbs ≤ 1000000000000000000000000000000000000000000000000000000000000) : hf.nlen z.natAbs ≤ 1000000 := hfew (K := 7) (Nat.lt_of_le_of_lt h (by decide)) (by decide)
theorem fieldS (s : Int) (d : Option Addr) (l c : Nat) (w : World) : (Instr.field 39 (.agg #[.int .i64 s, .slice d l c]) 0).run Tryz.prog w = .ok (.int .i64 s) w := by simp [Instr.field, go_sem, asAgg]
def R64 (x : Int) : Prop := -9223372036854775808 ≤ x ∧ x ≤ 9223372036854775807
theorem in_64 {x : Int} (h : inC x = true) : R64 x := by have := inC_true.1 h; exact ⟨by omega, by omega⟩
set_option maxRecDepth 100000 in
theorem rpDiff (a b : Int) (w : World) (ha : R64 a) (hb : R64 b) {z : Int} (hz : z = b - a) : Calls Tryz.prog 63 #[.int .i64 a, .int .i64 b] w (GotR w (fun _ => True) z) := by
  have FA : Hid _ := few_i64 ha
  have FB : Hid _ := few_i64 hb
  have HA : Hid _ := ha
  have HB : Hid _ := hb
  have HZ : Hid _ := hz
  clear ha hb hz
  obtain ⟨W, hW, bW, x_r, sW⟩ := bs_2 w (.int .i64 0) (.slice none 0 0) 39
  have zbW := bW.size
  have BB := bW
  go_enter Tryz.func63, Tryz.ntmps63
  go_wp2_with (go_at_call 37; fail)
  rw [← hW]
  clear hW
  refine (rwLong b W HB.out.1 HB.out.2).mono ?_
  rintro e w1 ⟨s1, d1, l1, c1, rfl, r1, f1, bw1⟩
  have zbw1 := bw1.size
  replace BB := also BB bw1
  replace x_r := x_r.on bw1
  go_wp2_with (go_at_call 37; fail)
  refine (rwLong a w1 HA.out.1 HA.out.2).mono ?_
  rintro e w2 ⟨s2, d2, l2, c2, rfl, r2, f2, bw2⟩
  have zbw2 := bw2.size
  replace BB := also BB bw2
  replace x_r := x_r.on bw2
  replace r1 := r1.below bw2
  go_wp2_with (go_at_call 64; fail)
  refine (rwSub s1 s2 d1 d2 l1 c1 l2 c2 b a z w2 r1 r2 FB.out FA.out HZ.out).mono ?_
  rintro e w3 ⟨s3, d3, l3, c3, rfl, r3, f3, bw3⟩
  have zbw3 := bw3.size
  replace BB := also BB bw3
  replace x_r := x_r.on bw3
  replace r1 := r1.below bw3
  replace r2 := r2.below bw3
  have ⟨x_r_0, x_r_1, x_r_2, x_r_3⟩ := x_r
  go_wp2
  exact bodyPost_ret (v := .agg #[.int .i64 s3, .slice d3 l3 c3]) (by simp [results, Tryz.results63, go_sem, *]) rfl (endR _ (by omega) BB r3 (f3 _ (by omega) ⟨f1 _ (by omega) trivial, f2 _ (by omega) trivial⟩) (fun j hj _ => f3 j (by omega) ⟨f1 j (by omega) trivial, f2 j (by omega) trivial⟩) _ _)
set_option maxRecDepth 100000 in
set_option maxHeartbeats 4000000 in
theorem rpArea (a1 a2 b1 b2 c1 c2 : Int) (w : World) (ha : canC a1 a2 = true) (hb : canC b1 b2 = true) (hc : canC c1 c2 = true) {z : Int} (hz : z = areaP a1 a2 b1 b2 c1 c2) : Calls Tryz.prog 60 #[.agg #[.int .i64 a1, .int .i64 a2], .agg #[.int .i64 b1, .int .i64 b2], .agg #[.int .i64 c1, .int .i64 c2]] w (GotR w (fun _ => True) z) := by
  have Ra1 : Hid _ := in_64 (canC_true.1 ha).1
  have Ra2 : Hid _ := in_64 (canC_true.1 ha).2
  have Rb1 : Hid _ := in_64 (canC_true.1 hb).1
  have Rb2 : Hid _ := in_64 (canC_true.1 hb).2
  have Rc1 : Hid _ := in_64 (canC_true.1 hc).1
  have Rc2 : Hid _ := in_64 (canC_true.1 hc).2
  have qx := can_diff (canC_true.1 hb).1 (canC_true.1 ha).1
  have qy := can_diff (canC_true.1 hc).2 (canC_true.1 ha).2
  have qu := can_diff (canC_true.1 hb).2 (canC_true.1 ha).2
  have qv := can_diff (canC_true.1 hc).1 (canC_true.1 ha).1
  obtain ⟨x, hx⟩ : ∃ z : Int, z = b1 - a1 := ⟨_, rfl⟩
  have Ex : Hid _ := hx
  obtain ⟨y, hy⟩ : ∃ z : Int, z = c2 - a2 := ⟨_, rfl⟩
  have Ey : Hid _ := hy
  obtain ⟨u, hu⟩ : ∃ z : Int, z = b2 - a2 := ⟨_, rfl⟩
  have Eu : Hid _ := hu
  obtain ⟨v, hv⟩ : ∃ z : Int, z = c1 - a1 := ⟨_, rfl⟩
  have Ev : Hid _ := hv
  obtain ⟨p, hp⟩ : ∃ z : Int, z = x * y := ⟨_, rfl⟩
  have Ep : Hid _ := hp
  obtain ⟨q, hq⟩ : ∃ z : Int, z = u * v := ⟨_, rfl⟩
  have Eq : Hid _ := hq
  have HZ : Hid (z = p - q) := by unfold Hid; rw [hz, hp, hq, hx, hy, hu, hv]; rfl
  rw [← hx] at qx
  have Fx : Hid _ := few_num (z := x) (by omega)
  rw [← hy] at qy
  have Fy : Hid _ := few_num (z := y) (by omega)
  rw [← hu] at qu
  have Fu : Hid _ := few_num (z := u) (by omega)
  rw [← hv] at qv
  have Fv : Hid _ := few_num (z := v) (by omega)
  have qp := prod_abs qx qy
  have qq := prod_abs qu qv
  rw [← hp] at qp
  rw [← hq] at qq
  have Fp : Hid _ := few_num (z := p) (by omega)
  have Fq : Hid _ := few_num (z := q) (by omega)
  clear hz hx hy hu hv hp hq qx qy qu qv qp qq ha hb hc
  obtain ⟨W, hW, bW, x_a, x_b, x_c, x_r, sW⟩ := bs_2222 w (.int .i64 a1) (.int .i64 a2) (.int .i64 b1) (.int .i64 b2) (.int .i64 c1) (.int .i64 c2) (.int .i64 0) (.slice none 0 0) 23 23 23 39
  have zbW := bW.size
  have BB := bW
  go_enter Tryz.func60, Tryz.ntmps60
  go_wp2
  rw [← hW]
  clear hW
  have dd1 : Below W.heap.size W W.drew := (Below.refl _ _).drew
  have zdd1 := dd1.size
  replace BB := also BB dd1
  replace x_a := x_a.on dd1
  replace x_b := x_b.on dd1
  replace x_c := x_c.on dd1
  replace x_r := x_r.on dd1
  refine wp_region_held_drew (S := (fun w' => w'.cell? ⟨w.heap.size, 0, none⟩ = some (.int .i64 a1) ∧ w'.cell? ⟨w.heap.size, 1, none⟩ = some (.int .i64 a2) ∧ w'.cell? ⟨w.heap.size + 1, 0, none⟩ = some (.int .i64 b1) ∧ w'.cell? ⟨w.heap.size + 1, 1, none⟩ = some (.int .i64 b2) ∧ w'.cell? ⟨w.heap.size + 1 + 1, 0, none⟩ = some (.int .i64 c1) ∧ w'.cell? ⟨w.heap.size + 1 + 1, 1, none⟩ = some (.int .i64 c2) ∧ Below w.heap.size w w')) (by kernel_rfl) ?_ (fun hHeld => ?_)
  · exact ⟨x_a.c0, x_a.c1, x_b.c0, x_b.c1, x_c.c0, x_c.c1, BB⟩
  refine take_yes (i := 0) (v := ?vs0) rfl (by kernel_rfl) (by kernel_rfl) (by kernel_rfl) (fun _ _ _ h => h) (by rfl) (by assumption) ?hys0 ?rests0
  case hys0 => (intro w hSw; (try dsimp only at hSw); first | (go_simp; done) | (go_simp; with_reducible rfl))
  simp only [Act.put, List.setIfInBounds_toArray, List.set_cons_zero, List.set_cons_succ]
  refine take_yes (i := 1) (v := ?vs1) rfl (by kernel_rfl) (by kernel_rfl) (by kernel_rfl) (fun _ _ _ h => h) (by rfl) (by assumption) ?hys1 ?rests1
  case hys1 => (intro w hSw; (try dsimp only at hSw); first | (go_simp; done) | (go_simp; with_reducible rfl))
  simp only [Act.put, List.setIfInBounds_toArray, List.set_cons_zero, List.set_cons_succ]
  refine take_yes (i := 2) (v := ?vs2) rfl (by kernel_rfl) (by kernel_rfl) (by kernel_rfl) (fun _ _ _ h => h) (by rfl) (by assumption) ?hys2 ?rests2
  case hys2 => (intro w hSw; (try dsimp only at hSw); first | (go_simp; done) | (go_simp; with_reducible rfl))
  simp only [Act.put, List.setIfInBounds_toArray, List.set_cons_zero, List.set_cons_succ]
  refine take_yes (i := 3) (v := ?vs3) rfl (by kernel_rfl) (by kernel_rfl) (by kernel_rfl) (fun _ _ _ h => h) (by rfl) (by assumption) ?hys3 ?rests3
  case hys3 => (intro w hSw; (try dsimp only at hSw); first | (go_simp; done) | (go_simp; with_reducible rfl))
  simp only [Act.put, List.setIfInBounds_toArray, List.set_cons_zero, List.set_cons_succ]
  refine take_yes (i := 5) (v := ?vs5) rfl (by kernel_rfl) (by kernel_rfl) (by kernel_rfl) (fun _ _ _ h => h) (by rfl) (by assumption) ?hys5 ?rests5
  case hys5 => (intro w hSw; (try dsimp only at hSw); first | (go_simp; done) | (go_simp; with_reducible rfl))
  simp only [Act.put, List.setIfInBounds_toArray, List.set_cons_zero, List.set_cons_succ]
  refine take_yes (i := 6) (v := ?vs6) rfl (by kernel_rfl) (by kernel_rfl) (by kernel_rfl) (fun _ _ _ h => h) (by rfl) (by assumption) ?hys6 ?rests6
  case hys6 => (intro w hSw; (try dsimp only at hSw); first | (go_simp; done) | (go_simp; with_reducible rfl))
  simp only [Act.put, List.setIfInBounds_toArray, List.set_cons_zero, List.set_cons_succ]
  refine take_yes (i := 7) (v := ?vs7) rfl (by kernel_rfl) (by kernel_rfl) (by kernel_rfl) (fun _ _ _ h => h) (by rfl) (by assumption) ?hys7 ?rests7
  case hys7 => (intro w hSw; (try dsimp only at hSw); first | (go_simp; done) | (go_simp; with_reducible rfl))
  simp only [Act.put, List.setIfInBounds_toArray, List.set_cons_zero, List.set_cons_succ]
  refine take_yes (i := 8) (v := ?vs8) rfl (by kernel_rfl) (by kernel_rfl) (by kernel_rfl) (fun _ _ _ h => h) (by rfl) (by assumption) ?hys8 ?rests8
  case hys8 => (intro w hSw; (try dsimp only at hSw); first | (go_simp; done) | (go_simp; with_reducible rfl))
  simp only [Act.put, List.setIfInBounds_toArray, List.set_cons_zero, List.set_cons_succ]
  refine take_yes (i := 11) (v := ?vs11) rfl (by kernel_rfl) (by kernel_rfl) (by kernel_rfl) (fun _ _ _ h => h) (by rfl) (by assumption) ?hys11 ?rests11
  case hys11 => (intro w hSw; (try dsimp only at hSw); first | (go_simp; done) | (go_simp; with_reducible rfl))
  simp only [Act.put, List.setIfInBounds_toArray, List.set_cons_zero, List.set_cons_succ]
  refine take_yes (i := 12) (v := ?vs12) rfl (by kernel_rfl) (by kernel_rfl) (by kernel_rfl) (fun _ _ _ h => h) (by rfl) (by assumption) ?hys12 ?rests12
  case hys12 => (intro w hSw; (try dsimp only at hSw); first | (go_simp; done) | (go_simp; with_reducible rfl))
  simp only [Act.put, List.setIfInBounds_toArray, List.set_cons_zero, List.set_cons_succ]
  refine take_yes (i := 13) (v := ?vs13) rfl (by kernel_rfl) (by kernel_rfl) (by kernel_rfl) (fun _ _ _ h => h) (by rfl) (by assumption) ?hys13 ?rests13
  case hys13 => (intro w hSw; (try dsimp only at hSw); first | (go_simp; done) | (go_simp; with_reducible rfl))
  simp only [Act.put, List.setIfInBounds_toArray, List.set_cons_zero, List.set_cons_succ]
  refine take_yes (i := 14) (v := ?vs14) rfl (by kernel_rfl) (by kernel_rfl) (by kernel_rfl) (fun _ _ _ h => h) (by rfl) (by assumption) ?hys14 ?rests14
  case hys14 => (intro w hSw; (try dsimp only at hSw); first | (go_simp; done) | (go_simp; with_reducible rfl))
  simp only [Act.put, List.setIfInBounds_toArray, List.set_cons_zero, List.set_cons_succ]
  refine take_yes (i := 16) (v := ?vs16) rfl (by kernel_rfl) (by kernel_rfl) (by kernel_rfl) (fun _ _ _ h => h) (by rfl) (by assumption) ?hys16 ?rests16
  case hys16 => (intro w hSw; (try dsimp only at hSw); first | (go_simp; done) | (go_simp; with_reducible rfl))
  simp only [Act.put, List.setIfInBounds_toArray, List.set_cons_zero, List.set_cons_succ]
  refine take_yes (i := 17) (v := ?vs17) rfl (by kernel_rfl) (by kernel_rfl) (by kernel_rfl) (fun _ _ _ h => h) (by rfl) (by assumption) ?hys17 ?rests17
  case hys17 => (intro w hSw; (try dsimp only at hSw); first | (go_simp; done) | (go_simp; with_reducible rfl))
  simp only [Act.put, List.setIfInBounds_toArray, List.set_cons_zero, List.set_cons_succ]
  refine take_yes (i := 18) (v := ?vs18) rfl (by kernel_rfl) (by kernel_rfl) (by kernel_rfl) (fun _ _ _ h => h) (by rfl) (by assumption) ?hys18 ?rests18
  case hys18 => (intro w hSw; (try dsimp only at hSw); first | (go_simp; done) | (go_simp; with_reducible rfl))
  simp only [Act.put, List.setIfInBounds_toArray, List.set_cons_zero, List.set_cons_succ]
  refine take_yes (i := 19) (v := ?vs19) rfl (by kernel_rfl) (by kernel_rfl) (by kernel_rfl) (fun _ _ _ h => h) (by rfl) (by assumption) ?hys19 ?rests19
  case hys19 => (intro w hSw; (try dsimp only at hSw); first | (go_simp; done) | (go_simp; with_reducible rfl))
  simp only [Act.put, List.setIfInBounds_toArray, List.set_cons_zero, List.set_cons_succ]
  refine take_call (i := 4) rfl (by kernel_rfl) (fun Kc hK => ?_)
  go_simp
  (go_at_call 63; refine (rpDiff a1 b1 _ Ra1.out Rb1.out Ex.out).mono ?_; rintro e w1 ⟨s11, d11, l11, c11, rfl, r11, f11, bw1⟩)
  refine hK.out _ _ ?_ (fun hHeld => ?_)
  · exact ⟨cell_on bw1 hHeld.1, cell_on bw1 hHeld.2.1, cell_on bw1 hHeld.2.2.1, cell_on bw1 hHeld.2.2.2.1, cell_on bw1 hHeld.2.2.2.2.1, cell_on bw1 hHeld.2.2.2.2.2.1, also hHeld.2.2.2.2.2.2 bw1⟩
  clear hK Kc
  have zbw1 := bw1.size
  replace BB := also BB bw1
  replace x_a := x_a.on bw1
  replace x_b := x_b.on bw1
  replace x_c := x_c.on bw1
  replace x_r := x_r.on bw1
  refine take_call (i := 9) rfl (by kernel_rfl) (fun Kc hK => ?_)
  go_simp
  (go_at_call 63; refine (rpDiff a2 c2 _ Ra2.out Rc2.out Ey.out).mono ?_; rintro e w2 ⟨s12, d12, l12, c12, rfl, r12, f12, bw2⟩)
  refine hK.out _ _ ?_ (fun hHeld => ?_)
  · exact ⟨cell_on bw2 hHeld.1, cell_on bw2 hHeld.2.1, cell_on bw2 hHeld.2.2.1, cell_on bw2 hHeld.2.2.2.1, cell_on bw2 hHeld.2.2.2.2.1, cell_on bw2 hHeld.2.2.2.2.2.1, also hHeld.2.2.2.2.2.2 bw2⟩
  clear hK Kc
  have zbw2 := bw2.size
  replace BB := also BB bw2
  replace x_a := x_a.on bw2
  replace x_b := x_b.on bw2
  replace x_c := x_c.on bw2
  replace x_r := x_r.on bw2
  replace r11 := r11.below bw2
  refine take_call (i := 10) rfl (by kernel_rfl) (fun Kc hK => ?_)
  go_simp
  (go_at_call 48; refine (rwMul s11 s12 d11 d12 l11 c11 l12 c12 x y p _ r11 r12 Fx.out Fy.out Ep.out).mono ?_; rintro e w3 ⟨s13, d13, l13, c13, rfl, r13, f13, bw3⟩)
  refine hK.out _ _ ?_ (fun hHeld => ?_)
  · exact ⟨cell_on bw3 hHeld.1, cell_on bw3 hHeld.2.1, cell_on bw3 hHeld.2.2.1, cell_on bw3 hHeld.2.2.2.1, cell_on bw3 hHeld.2.2.2.2.1, cell_on bw3 hHeld.2.2.2.2.2.1, also hHeld.2.2.2.2.2.2 bw3⟩
  clear hK Kc
  have zbw3 := bw3.size
  replace BB := also BB bw3
  replace x_a := x_a.on bw3
  replace x_b := x_b.on bw3
  replace x_c := x_c.on bw3
  replace x_r := x_r.on bw3
  replace r11 := r11.below bw3
  replace r12 := r12.below bw3
  refine take_call (i := 15) rfl (by kernel_rfl) (fun Kc hK => ?_)
  go_simp
  (go_at_call 63; refine (rpDiff a2 b2 _ Ra2.out Rb2.out Eu.out).mono ?_; rintro e w4 ⟨s14, d14, l14, c14, rfl, r14, f14, bw4⟩)
  refine hK.out _ _ ?_ (fun hHeld => ?_)
  · exact ⟨cell_on bw4 hHeld.1, cell_on bw4 hHeld.2.1, cell_on bw4 hHeld.2.2.1, cell_on bw4 hHeld.2.2.2.1, cell_on bw4 hHeld.2.2.2.2.1, cell_on bw4 hHeld.2.2.2.2.2.1, also hHeld.2.2.2.2.2.2 bw4⟩
  clear hK Kc
  have zbw4 := bw4.size
  replace BB := also BB bw4
  replace x_a := x_a.on bw4
  replace x_b := x_b.on bw4
  replace x_c := x_c.on bw4
  replace x_r := x_r.on bw4
  replace r11 := r11.below bw4
  replace r12 := r12.below bw4
  replace r13 := r13.below bw4
  refine take_call (i := 20) rfl (by kernel_rfl) (fun Kc hK => ?_)
  go_simp
  (go_at_call 63; refine (rpDiff a1 c1 _ Ra1.out Rc1.out Ev.out).mono ?_; rintro e w5 ⟨s15, d15, l15, c15, rfl, r15, f15, bw5⟩)
  refine hK.out _ _ ?_ (fun hHeld => ?_)
  · exact ⟨cell_on bw5 hHeld.1, cell_on bw5 hHeld.2.1, cell_on bw5 hHeld.2.2.1, cell_on bw5 hHeld.2.2.2.1, cell_on bw5 hHeld.2.2.2.2.1, cell_on bw5 hHeld.2.2.2.2.2.1, also hHeld.2.2.2.2.2.2 bw5⟩
  clear hK Kc
  have zbw5 := bw5.size
  replace BB := also BB bw5
  replace x_a := x_a.on bw5
  replace x_b := x_b.on bw5
  replace x_c := x_c.on bw5
  replace x_r := x_r.on bw5
  replace r11 := r11.below bw5
  replace r12 := r12.below bw5
  replace r13 := r13.below bw5
  replace r14 := r14.below bw5
  refine take_call (i := 21) rfl (by kernel_rfl) (fun Kc hK => ?_)
  go_simp
  (go_at_call 48; refine (rwMul s14 s15 d14 d15 l14 c14 l15 c15 u v q _ r14 r15 Fu.out Fv.out Eq.out).mono ?_; rintro e w6 ⟨s16, d16, l16, c16, rfl, r16, f16, bw6⟩)
  refine hK.out _ _ ?_ (fun hHeld => ?_)
  · exact ⟨cell_on bw6 hHeld.1, cell_on bw6 hHeld.2.1, cell_on bw6 hHeld.2.2.1, cell_on bw6 hHeld.2.2.2.1, cell_on bw6 hHeld.2.2.2.2.1, cell_on bw6 hHeld.2.2.2.2.2.1, also hHeld.2.2.2.2.2.2 bw6⟩
  clear hK Kc
  have zbw6 := bw6.size
  replace BB := also BB bw6
  replace x_a := x_a.on bw6
  replace x_b := x_b.on bw6
  replace x_c := x_c.on bw6
  replace x_r := x_r.on bw6
  replace r11 := r11.below bw6
  replace r12 := r12.below bw6
  replace r13 := r13.below bw6
  replace r14 := r14.below bw6
  replace r15 := r15.below bw6
  refine take_call (i := 22) rfl (by kernel_rfl) (fun Kc hK => ?_)
  go_simp
  (go_at_call 64; refine (rwSub s13 s16 d13 d16 l13 c13 l16 c16 p q z _ r13 r16 Fp.out Fq.out HZ.out).mono ?_; rintro e w7 ⟨s17, d17, l17, c17, rfl, r17, f17, bw7⟩)
  refine hK.out _ _ ?_ (fun hHeld => ?_)
  · exact ⟨cell_on bw7 hHeld.1, cell_on bw7 hHeld.2.1, cell_on bw7 hHeld.2.2.1, cell_on bw7 hHeld.2.2.2.1, cell_on bw7 hHeld.2.2.2.2.1, cell_on bw7 hHeld.2.2.2.2.2.1, also hHeld.2.2.2.2.2.2 bw7⟩
  clear hK Kc
  have zbw7 := bw7.size
  replace BB := also BB bw7
  replace x_a := x_a.on bw7
  replace x_b := x_b.on bw7
  replace x_c := x_c.on bw7
  replace x_r := x_r.on bw7
  replace r11 := r11.below bw7
  replace r12 := r12.below bw7
  replace r13 := r13.below bw7
  replace r14 := r14.below bw7
  replace r15 := r15.below bw7
  replace r16 := r16.below bw7
  have ⟨x_r_0, x_r_1, x_r_2, x_r_3⟩ := x_r
  refine take_call (i := 23) rfl (by kernel_rfl) (fun Kc hK => ?_)
  go_simp
  refine hK.out _ _ ?_ (fun hHeld => ?_)
  · first | exact ⟨cell_put2 hHeld.1 (by omega) _ _, cell_put2 hHeld.2.1 (by omega) _ _, cell_put2 hHeld.2.2.1 (by omega) _ _, cell_put2 hHeld.2.2.2.1 (by omega) _ _, cell_put2 hHeld.2.2.2.2.1 (by omega) _ _, cell_put2 hHeld.2.2.2.2.2.1 (by omega) _ _, below_put2 hHeld.2.2.2.2.2.2 (by omega) _ _⟩ | exact ⟨x_a.c0, x_a.c1, x_b.c0, x_b.c1, x_c.c0, x_c.c1, BB⟩
  clear hK Kc
  refine wpAnyH_done (by kernel_rfl) ?_ _
  go_wp2
  exact bodyPost_ret (v := .agg #[.int .i64 s17, .slice d17 l17 c17]) (by simp [results, Tryz.results60, go_sem, *]) rfl (endR _ (by omega) BB r17 (f17 _ (by omega) ⟨f13 _ (by omega) trivial, f16 _ (by omega) trivial⟩) (fun j hj _ => f17 j (by omega) ⟨f13 j (by omega) trivial, f16 j (by omega) trivial⟩) _ _)
end Go.Proofs.YtcaihoomcdbfnaaGreat

namespace Go.Proofs.YtcaihoomcdbfnaaGreat
open Go.RowKit
set_option linter.unusedVariables false

/-- A block of 6 cells. -/
structure B6 (w : World) (b : Nat) (x0 x1 x2 x3 x4 x5 : Value) : Prop where
  c0 : w.cell? ⟨b, 0, none⟩ = some x0
  c1 : w.cell? ⟨b, 1, none⟩ = some x1
  c2 : w.cell? ⟨b, 2, none⟩ = some x2
  c3 : w.cell? ⟨b, 3, none⟩ = some x3
  c4 : w.cell? ⟨b, 4, none⟩ = some x4
  c5 : w.cell? ⟨b, 5, none⟩ = some x5
  f0 : w.frozen? ⟨b, 0, none⟩ = false
  f1 : w.frozen? ⟨b, 1, none⟩ = false
  f2 : w.frozen? ⟨b, 2, none⟩ = false
  f3 : w.frozen? ⟨b, 3, none⟩ = false
  f4 : w.frozen? ⟨b, 4, none⟩ = false
  f5 : w.frozen? ⟨b, 5, none⟩ = false
theorem B6.on {w w' : World} {b : Nat} {x0 x1 x2 x3 x4 x5 : Value} (h : B6 w b x0 x1 x2 x3 x4 x5) (hb : Below w.heap.size w w') : B6 w' b x0 x1 x2 x3 x4 x5 := ⟨cell_on hb h.c0, cell_on hb h.c1, cell_on hb h.c2, cell_on hb h.c3, cell_on hb h.c4, cell_on hb h.c5, free_on hb h.c0 h.f0, free_on hb h.c1 h.f1, free_on hb h.c2 h.f2, free_on hb h.c3 h.f3, free_on hb h.c4 h.f4, free_on hb h.c5 h.f5⟩
theorem b6_new (w : World) (x0 x1 x2 x3 x4 x5 : Value) (t : TypeId) : B6 (w.alloc (.cells #[x0, x1, x2, x3, x4, x5] t)) w.heap.size x0 x1 x2 x3 x4 x5 := by
  have h := Row.new w [x0, x1, x2, x3, x4, x5] t
  exact ⟨h.cell 0 _ rfl, h.cell 1 _ rfl, h.cell 2 _ rfl, h.cell 3 _ rfl, h.cell 4 _ rfl, h.cell 5 _ rfl, h.free 0 (by simp), h.free 1 (by simp), h.free 2 (by simp), h.free 3 (by simp), h.free 4 (by simp), h.free 5 (by simp)⟩
theorem B6.put {w : World} {b k i : Nat} {x0 x1 x2 x3 x4 x5 v : Value} (h : B6 w b x0 x1 x2 x3 x4 x5) (hk : k ≠ b) : B6 (w.setCell ⟨k, i, none⟩ v) b x0 x1 x2 x3 x4 x5 := by
  refine ⟨?_, ?_, ?_, ?_, ?_, ?_, by rw [World.frozen?_setCell]; exact h.f0, by rw [World.frozen?_setCell]; exact h.f1, by rw [World.frozen?_setCell]; exact h.f2, by rw [World.frozen?_setCell]; exact h.f3, by rw [World.frozen?_setCell]; exact h.f4, by rw [World.frozen?_setCell]; exact h.f5⟩
  · rw [World.cell?_setCell_other _ _ _ _ (by intro q; simp only [Addr.mk.injEq] at q; omega)]; exact h.c0
  · rw [World.cell?_setCell_other _ _ _ _ (by intro q; simp only [Addr.mk.injEq] at q; omega)]; exact h.c1
  · rw [World.cell?_setCell_other _ _ _ _ (by intro q; simp only [Addr.mk.injEq] at q; omega)]; exact h.c2
  · rw [World.cell?_setCell_other _ _ _ _ (by intro q; simp only [Addr.mk.injEq] at q; omega)]; exact h.c3
  · rw [World.cell?_setCell_other _ _ _ _ (by intro q; simp only [Addr.mk.injEq] at q; omega)]; exact h.c4
  · rw [World.cell?_setCell_other _ _ _ _ (by intro q; simp only [Addr.mk.injEq] at q; omega)]; exact h.c5
theorem B6.set {w : World} {b : Nat} {x0 x1 x2 x3 x4 x5 u0 u1 u2 u3 u4 u5 : Value} (h : B6 w b x0 x1 x2 x3 x4 x5) : B6 ((((((w.setCell ⟨b, 0, none⟩ u0).setCell ⟨b, 1, none⟩ u1).setCell ⟨b, 2, none⟩ u2).setCell ⟨b, 3, none⟩ u3).setCell ⟨b, 4, none⟩ u4).setCell ⟨b, 5, none⟩ u5) b u0 u1 u2 u3 u4 u5 := by
  refine ⟨?_, ?_, ?_, ?_, ?_, ?_, by simp only [World.frozen?_setCell]; exact h.f0, by simp only [World.frozen?_setCell]; exact h.f1, by simp only [World.frozen?_setCell]; exact h.f2, by simp only [World.frozen?_setCell]; exact h.f3, by simp only [World.frozen?_setCell]; exact h.f4, by simp only [World.frozen?_setCell]; exact h.f5⟩
  · rw [World.cell?_setCell_other _ _ _ _ (by intro q; simp only [Addr.mk.injEq] at q; omega)]; rw [World.cell?_setCell_other _ _ _ _ (by intro q; simp only [Addr.mk.injEq] at q; omega)]; rw [World.cell?_setCell_other _ _ _ _ (by intro q; simp only [Addr.mk.injEq] at q; omega)]; rw [World.cell?_setCell_other _ _ _ _ (by intro q; simp only [Addr.mk.injEq] at q; omega)]; rw [World.cell?_setCell_other _ _ _ _ (by intro q; simp only [Addr.mk.injEq] at q; omega)]; have hh : _ = some x0 := h.c0
    have h1 : w.cell? ⟨b, 0, none⟩ = some x0 := by
      exact hh
    exact World.cell?_setCell_same _ _ _ h1
  · rw [World.cell?_setCell_other _ _ _ _ (by intro q; simp only [Addr.mk.injEq] at q; omega)]; rw [World.cell?_setCell_other _ _ _ _ (by intro q; simp only [Addr.mk.injEq] at q; omega)]; rw [World.cell?_setCell_other _ _ _ _ (by intro q; simp only [Addr.mk.injEq] at q; omega)]; rw [World.cell?_setCell_other _ _ _ _ (by intro q; simp only [Addr.mk.injEq] at q; omega)]; have hh : _ = some x1 := h.c1
    have h1 : (w.setCell ⟨b, 0, none⟩ u0).cell? ⟨b, 1, none⟩ = some x1 := by
      rw [World.cell?_setCell_other _ _ _ _ (by intro q; simp only [Addr.mk.injEq] at q; omega)]; exact hh
    exact World.cell?_setCell_same _ _ _ h1
  · rw [World.cell?_setCell_other _ _ _ _ (by intro q; simp only [Addr.mk.injEq] at q; omega)]; rw [World.cell?_setCell_other _ _ _ _ (by intro q; simp only [Addr.mk.injEq] at q; omega)]; rw [World.cell?_setCell_other _ _ _ _ (by intro q; simp only [Addr.mk.injEq] at q; omega)]; have hh : _ = some x2 := h.c2
    have h1 : ((w.setCell ⟨b, 0, none⟩ u0).setCell ⟨b, 1, none⟩ u1).cell? ⟨b, 2, none⟩ = some x2 := by
      rw [World.cell?_setCell_other _ _ _ _ (by intro q; simp only [Addr.mk.injEq] at q; omega)]; rw [World.cell?_setCell_other _ _ _ _ (by intro q; simp only [Addr.mk.injEq] at q; omega)]; exact hh
    exact World.cell?_setCell_same _ _ _ h1
  · rw [World.cell?_setCell_other _ _ _ _ (by intro q; simp only [Addr.mk.injEq] at q; omega)]; rw [World.cell?_setCell_other _ _ _ _ (by intro q; simp only [Addr.mk.injEq] at q; omega)]; have hh : _ = some x3 := h.c3
    have h1 : (((w.setCell ⟨b, 0, none⟩ u0).setCell ⟨b, 1, none⟩ u1).setCell ⟨b, 2, none⟩ u2).cell? ⟨b, 3, none⟩ = some x3 := by
      rw [World.cell?_setCell_other _ _ _ _ (by intro q; simp only [Addr.mk.injEq] at q; omega)]; rw [World.cell?_setCell_other _ _ _ _ (by intro q; simp only [Addr.mk.injEq] at q; omega)]; rw [World.cell?_setCell_other _ _ _ _ (by intro q; simp only [Addr.mk.injEq] at q; omega)]; exact hh
    exact World.cell?_setCell_same _ _ _ h1
  · rw [World.cell?_setCell_other _ _ _ _ (by intro q; simp only [Addr.mk.injEq] at q; omega)]; have hh : _ = some x4 := h.c4
    have h1 : ((((w.setCell ⟨b, 0, none⟩ u0).setCell ⟨b, 1, none⟩ u1).setCell ⟨b, 2, none⟩ u2).setCell ⟨b, 3, none⟩ u3).cell? ⟨b, 4, none⟩ = some x4 := by
      rw [World.cell?_setCell_other _ _ _ _ (by intro q; simp only [Addr.mk.injEq] at q; omega)]; rw [World.cell?_setCell_other _ _ _ _ (by intro q; simp only [Addr.mk.injEq] at q; omega)]; rw [World.cell?_setCell_other _ _ _ _ (by intro q; simp only [Addr.mk.injEq] at q; omega)]; rw [World.cell?_setCell_other _ _ _ _ (by intro q; simp only [Addr.mk.injEq] at q; omega)]; exact hh
    exact World.cell?_setCell_same _ _ _ h1
  · have hh : _ = some x5 := h.c5
    have h1 : (((((w.setCell ⟨b, 0, none⟩ u0).setCell ⟨b, 1, none⟩ u1).setCell ⟨b, 2, none⟩ u2).setCell ⟨b, 3, none⟩ u3).setCell ⟨b, 4, none⟩ u4).cell? ⟨b, 5, none⟩ = some x5 := by
      rw [World.cell?_setCell_other _ _ _ _ (by intro q; simp only [Addr.mk.injEq] at q; omega)]; rw [World.cell?_setCell_other _ _ _ _ (by intro q; simp only [Addr.mk.injEq] at q; omega)]; rw [World.cell?_setCell_other _ _ _ _ (by intro q; simp only [Addr.mk.injEq] at q; omega)]; rw [World.cell?_setCell_other _ _ _ _ (by intro q; simp only [Addr.mk.injEq] at q; omega)]; rw [World.cell?_setCell_other _ _ _ _ (by intro q; simp only [Addr.mk.injEq] at q; omega)]; exact hh
    exact World.cell?_setCell_same _ _ _ h1
theorem B6.drew {w : World} {b : Nat} {x0 x1 x2 x3 x4 x5 : Value} (h : B6 w b x0 x1 x2 x3 x4 x5) : B6 w.drew b x0 x1 x2 x3 x4 x5 := ⟨h.c0, h.c1, h.c2, h.c3, h.c4, h.c5, h.f0, h.f1, h.f2, h.f3, h.f4, h.f5⟩
theorem B6.grown {w w' : World} {b g : Nat} {x0 x1 x2 x3 x4 x5 : Value} (h : B6 w b x0 x1 x2 x3 x4 x5) (hg : w.grownBy w' (some g)) (hne : b ≠ g) : B6 w' b x0 x1 x2 x3 x4 x5 := ⟨cell_far h.c0 hg hne, cell_far h.c1 hg hne, cell_far h.c2 hg hne, cell_far h.c3 hg hne, cell_far h.c4 hg hne, cell_far h.c5 hg hne, free_far h.c0 h.f0 hg hne, free_far h.c1 h.f1 hg hne, free_far h.c2 h.f2 hg hne, free_far h.c3 h.f3 hg hne, free_far h.c4 h.f4 hg hne, free_far h.c5 h.f5 hg hne⟩
end Go.Proofs.YtcaihoomcdbfnaaGreat

namespace Go.Proofs.YtcaihoomcdbfnaaGreat.lq
open Go.RowKit

/-- Digit i of v, to the base 256 (of a number below nought: of v modulo as many digits as you like). -/
def dg (v : Int) (i : Nat) : Int := v / 256 ^ i % 256
theorem dg_range (v : Int) (i : Nat) : 0 ≤ dg v i ∧ dg v i < 256 := by unfold dg; omega
theorem p256 (i : Nat) : (0 : Int) < 256 ^ i := Int.pow_pos (by decide)
/-- n digits: at the places that p names those of u, at the others those of v. -/
def fill (n : Nat) (p : Nat → Bool) (u v : Int) : List Value := (List.range n).map fun j => .int .i64 (if p j then dg u j else dg v j)
def dcells (n : Nat) (v : Int) : List Value := (List.range n).map fun j => .int .i64 (dg v j)
def mix (n i : Nat) (u v : Int) : List Value := fill n (fun j => decide (j < i)) u v
theorem fill_length (n : Nat) (p : Nat → Bool) (u v : Int) : (fill n p u v).length = n := by simp [fill]
theorem mix_length (n i : Nat) (u v : Int) : (mix n i u v).length = n := fill_length _ _ _ _
theorem dcells_length (n : Nat) (v : Int) : (dcells n v).length = n := by simp [dcells]
theorem dcells_at (n : Nat) (v : Int) (i : Nat) (h : i < n) : (dcells n v)[i]? = some (.int .i64 (dg v i)) := by simp [dcells, h]
theorem fill_at (n : Nat) (p : Nat → Bool) (u v : Int) (i : Nat) (h : i < n) : (fill n p u v)[i]? = some (.int .i64 (if p i then dg u i else dg v i)) := by simp [fill, h]
theorem mix_at (n k : Nat) (u v : Int) (i : Nat) (h : i < n) (hk : k ≤ i) : (mix n k u v)[i]? = some (.int .i64 (dg v i)) := by
  rw [mix, fill_at _ _ _ _ _ h]; simp; omega
theorem fill_congr {n : Nat} {p q : Nat → Bool} {u v u' v' : Int} (h : ∀ j, j < n → (if p j then dg u j else dg v j) = (if q j then dg u' j else dg v' j)) : fill n p u v = fill n q u' v' := by
  unfold fill
  refine List.map_congr_left fun j hj => ?_
  rw [h j (by simpa using hj)]
theorem fill_set (n : Nat) (p : Nat → Bool) (u v : Int) (i : Nat) : (fill n p u v).set i (.int .i64 (dg u i)) = fill n (fun j => p j || j == i) u v := by
  refine List.ext_getElem? fun j => ?_
  rw [List.getElem?_set]
  by_cases e : i = j
  · subst e
    by_cases h : i < n
    · rw [if_pos rfl, if_pos (by rw [fill_length]; exact h), fill_at _ _ _ _ _ h]; simp
    · rw [if_pos rfl, if_neg (by rw [fill_length]; exact h), List.getElem?_eq_none (by rw [fill_length]; omega)]
  · by_cases h : j < n
    · rw [if_neg e, fill_at _ _ _ _ _ h, fill_at _ _ _ _ _ h]
      have e' : (j == i) = false := by simp; omega
      simp [e']
    · rw [if_neg e, List.getElem?_eq_none (by simp [fill_length]; omega), List.getElem?_eq_none (by simp [fill_length]; omega)]
theorem mix_set (n i : Nat) (u v : Int) : (mix n i u v).set i (.int .i64 (dg u i)) = mix n (i + 1) u v := by
  unfold mix
  rw [fill_set]
  refine fill_congr fun j _ => ?_
  have : (decide (j < i) || j == i) = decide (j < i + 1) := by rw [Bool.eq_iff_iff]; simp; omega
  rw [this]
theorem mix_zero (n : Nat) (u v : Int) : mix n 0 u v = dcells n v := by unfold mix fill dcells; simp
theorem mix_full (n : Nat) (u v : Int) : mix n n u v = dcells n u := by
  unfold mix fill dcells
  refine List.map_congr_left fun j hj => ?_
  have : j < n := by simpa using hj
  simp [this]
/-- The digits of two numbers that are the same modulo 256^i are the same below place i. -/
theorem dg_congr {u v : Int} {i j : Nat} (t : Int) (h : u = v + t * 256 ^ i) (hj : j < i) : dg u j = dg v j := by
  unfold dg
  obtain ⟨d, rfl⟩ : ∃ d, i = j + 1 + d := ⟨i - (j + 1), by omega⟩
  have e : t * (256 : Int) ^ (j + 1 + d) = (256 * (t * 256 ^ d)) * 256 ^ j := by
    rw [show j + 1 + d = d + 1 + j by omega, Int.pow_add, Int.pow_succ, ← Int.mul_assoc, ← Int.mul_assoc, Int.mul_comm (t * 256 ^ d) 256]
  rw [h, e, Int.add_mul_ediv_right _ _ (Int.ne_of_gt (p256 j))]
  omega
theorem dcells_congr {n : Nat} {u v : Int} (t : Int) (h : u = v + t * 256 ^ n) : dcells n u = dcells n v := by
  unfold dcells
  refine List.map_congr_left fun j hj => ?_
  rw [dg_congr t h (by simpa using hj)]
/-- The carry into place i when x and y are added. -/
def carry (x y : Int) (i : Nat) : Int := (x % 256 ^ i + y % 256 ^ i) / 256 ^ i
theorem carry_zero (x y : Int) : carry x y 0 = 0 := by simp [carry]
theorem emod_succ (x : Int) (i : Nat) : x % 256 ^ (i + 1) = dg x i * 256 ^ i + x % 256 ^ i := by
  unfold dg
  have hp := p256 i
  have h1 := Int.mul_ediv_add_emod x (256 ^ i)
  have h2 := Int.mul_ediv_add_emod (x / 256 ^ i) 256
  have b := Int.emod_nonneg x (Int.ne_of_gt hp)
  have b' := Int.emod_lt_of_pos x hp
  have c := Int.emod_nonneg (x / 256 ^ i) (show (256 : Int) ≠ 0 by decide)
  have c' := Int.emod_lt_of_pos (x / 256 ^ i) (show (0 : Int) < 256 by decide)
  have e : x = (x / 256 ^ i % 256 * 256 ^ i + x % 256 ^ i) + (x / 256 ^ i / 256) * 256 ^ (i + 1) := by
    have : (x / 256 ^ i / 256) * (256 : Int) ^ (i + 1) = (256 * (x / 256 ^ i / 256)) * 256 ^ i := by rw [Int.pow_succ, Int.mul_comm ((256 : Int) ^ i) 256, ← Int.mul_assoc, Int.mul_comm _ 256]
    rw [this]
    have h3 : (256 * (x / 256 ^ i / 256)) * (256 : Int) ^ i + x / 256 ^ i % 256 * 256 ^ i = x / 256 ^ i * 256 ^ i := by rw [← Int.add_mul, h2]
    have h4 : x / 256 ^ i * (256 : Int) ^ i = 256 ^ i * (x / 256 ^ i) := Int.mul_comm _ _
    omega
  have l0 : 0 ≤ x / 256 ^ i % 256 * 256 ^ i + x % 256 ^ i := Int.add_nonneg (Int.mul_nonneg c (Int.le_of_lt hp)) b
  have l1 : x / 256 ^ i % 256 * 256 ^ i + x % 256 ^ i < 256 ^ (i + 1) := by
    have : x / 256 ^ i % 256 * (256 : Int) ^ i ≤ 255 * 256 ^ i := Int.mul_le_mul_of_nonneg_right (by omega) (Int.le_of_lt hp)
    rw [Int.pow_succ]
    omega
  have key : x % 256 ^ (i + 1) = (x / 256 ^ i % 256 * 256 ^ i + x % 256 ^ i) % 256 ^ (i + 1) := by
    have := congrArg (· % (256 : Int) ^ (i + 1)) e
    simpa [Int.add_mul_emod_self_right] using this
  rw [key, Int.emod_eq_of_lt l0 l1]
theorem carry_sum (x y : Int) (i : Nat) : (x % 256 ^ (i + 1) + y % 256 ^ (i + 1)) / 256 ^ i = carry x y i + dg x i + dg y i := by
  rw [emod_succ, emod_succ]
  unfold carry
  have e : dg x i * 256 ^ i + x % 256 ^ i + (dg y i * 256 ^ i + y % 256 ^ i) = (x % 256 ^ i + y % 256 ^ i) + (dg x i + dg y i) * 256 ^ i := by rw [Int.add_mul]; omega
  rw [e, Int.add_mul_ediv_right _ _ (Int.ne_of_gt (p256 i))]
  omega
theorem carry_succ (x y : Int) (i : Nat) : carry x y (i + 1) = (carry x y i + dg x i + dg y i) / 256 := by
  rw [← carry_sum]
  show (x % 256 ^ (i + 1) + y % 256 ^ (i + 1)) / 256 ^ (i + 1) = _
  have hp := p256 i
  rw [Int.pow_succ, Int.ediv_ediv, if_neg (by omega)]
  omega
theorem add_digit (x y : Int) (i : Nat) : (carry x y i + dg x i + dg y i) % 256 = dg (x + y) i := by
  unfold dg carry
  have hp := p256 i
  have h1 := Int.mul_ediv_add_emod x (256 ^ i)
  have h2 := Int.mul_ediv_add_emod y (256 ^ i)
  have e : x + y = (x % 256 ^ i + y % 256 ^ i) + (x / 256 ^ i + y / 256 ^ i) * 256 ^ i := by
    have a1 : x / 256 ^ i * (256 : Int) ^ i = 256 ^ i * (x / 256 ^ i) := Int.mul_comm _ _
    have a2 : y / 256 ^ i * (256 : Int) ^ i = 256 ^ i * (y / 256 ^ i) := Int.mul_comm _ _
    rw [Int.add_mul]; omega
  have e2 : (x + y) / 256 ^ i = (x % 256 ^ i + y % 256 ^ i) / 256 ^ i + (x / 256 ^ i + y / 256 ^ i) := by
    conv => lhs; rw [e]
    exact Int.add_mul_ediv_right _ _ (Int.ne_of_gt hp)
  rw [e2]
  omega
theorem carry_range (x y : Int) (i : Nat) : 0 ≤ carry x y i ∧ carry x y i ≤ 1 := by
  unfold carry
  have hp := p256 i
  have a := Int.emod_nonneg x (Int.ne_of_gt hp)
  have a' := Int.emod_lt_of_pos x hp
  have b := Int.emod_nonneg y (Int.ne_of_gt hp)
  have b' := Int.emod_lt_of_pos y hp
  refine ⟨Int.ediv_nonneg (by omega) (by omega), ?_⟩
  have : (x % 256 ^ i + y % 256 ^ i) / 256 ^ i < 2 := Int.ediv_lt_of_lt_mul hp (by omega)
  omega
end Go.Proofs.YtcaihoomcdbfnaaGreat.lq

namespace Go.Proofs.YtcaihoomcdbfnaaGreat.lq.q
open Go.RowKit

/-- Digit i of v, to the base 18446744073709551616 (of a number below nought: of v modulo as many digits as you like). -/
def dg (v : Int) (i : Nat) : Int := v / 18446744073709551616 ^ i % 18446744073709551616
theorem dg_range (v : Int) (i : Nat) : 0 ≤ dg v i ∧ dg v i < 18446744073709551616 := by unfold dg; omega
theorem p256 (i : Nat) : (0 : Int) < 18446744073709551616 ^ i := Int.pow_pos (by decide)
/-- n digits: at the places that p names those of u, at the others those of v. -/
def fill (n : Nat) (p : Nat → Bool) (u v : Int) : List Value := (List.range n).map fun j => .int .u64 (if p j then dg u j else dg v j)
def dcells (n : Nat) (v : Int) : List Value := (List.range n).map fun j => .int .u64 (dg v j)
def mix (n i : Nat) (u v : Int) : List Value := fill n (fun j => decide (j < i)) u v
theorem fill_length (n : Nat) (p : Nat → Bool) (u v : Int) : (fill n p u v).length = n := by simp [fill]
theorem mix_length (n i : Nat) (u v : Int) : (mix n i u v).length = n := fill_length _ _ _ _
theorem dcells_length (n : Nat) (v : Int) : (dcells n v).length = n := by simp [dcells]
theorem dcells_at (n : Nat) (v : Int) (i : Nat) (h : i < n) : (dcells n v)[i]? = some (.int .u64 (dg v i)) := by simp [dcells, h]
theorem fill_at (n : Nat) (p : Nat → Bool) (u v : Int) (i : Nat) (h : i < n) : (fill n p u v)[i]? = some (.int .u64 (if p i then dg u i else dg v i)) := by simp [fill, h]
theorem mix_at (n k : Nat) (u v : Int) (i : Nat) (h : i < n) (hk : k ≤ i) : (mix n k u v)[i]? = some (.int .u64 (dg v i)) := by
  rw [mix, fill_at _ _ _ _ _ h]; simp; omega
theorem fill_congr {n : Nat} {p q : Nat → Bool} {u v u' v' : Int} (h : ∀ j, j < n → (if p j then dg u j else dg v j) = (if q j then dg u' j else dg v' j)) : fill n p u v = fill n q u' v' := by
  unfold fill
  refine List.map_congr_left fun j hj => ?_
  rw [h j (by simpa using hj)]
theorem fill_set (n : Nat) (p : Nat → Bool) (u v : Int) (i : Nat) : (fill n p u v).set i (.int .u64 (dg u i)) = fill n (fun j => p j || j == i) u v := by
  refine List.ext_getElem? fun j => ?_
  rw [List.getElem?_set]
  by_cases e : i = j
  · subst e
    by_cases h : i < n
    · rw [if_pos rfl, if_pos (by rw [fill_length]; exact h), fill_at _ _ _ _ _ h]; simp
    · rw [if_pos rfl, if_neg (by rw [fill_length]; exact h), List.getElem?_eq_none (by rw [fill_length]; omega)]
  · by_cases h : j < n
    · rw [if_neg e, fill_at _ _ _ _ _ h, fill_at _ _ _ _ _ h]
      have e' : (j == i) = false := by simp; omega
      simp [e']
    · rw [if_neg e, List.getElem?_eq_none (by simp [fill_length]; omega), List.getElem?_eq_none (by simp [fill_length]; omega)]
theorem mix_set (n i : Nat) (u v : Int) : (mix n i u v).set i (.int .u64 (dg u i)) = mix n (i + 1) u v := by
  unfold mix
  rw [fill_set]
  refine fill_congr fun j _ => ?_
  have : (decide (j < i) || j == i) = decide (j < i + 1) := by rw [Bool.eq_iff_iff]; simp; omega
  rw [this]
theorem mix_zero (n : Nat) (u v : Int) : mix n 0 u v = dcells n v := by unfold mix fill dcells; simp
theorem mix_full (n : Nat) (u v : Int) : mix n n u v = dcells n u := by
  unfold mix fill dcells
  refine List.map_congr_left fun j hj => ?_
  have : j < n := by simpa using hj
  simp [this]
/-- The digits of two numbers that are the same modulo 18446744073709551616^i are the same below place i. -/
theorem dg_congr {u v : Int} {i j : Nat} (t : Int) (h : u = v + t * 18446744073709551616 ^ i) (hj : j < i) : dg u j = dg v j := by
  unfold dg
  obtain ⟨d, rfl⟩ : ∃ d, i = j + 1 + d := ⟨i - (j + 1), by omega⟩
  have e : t * (18446744073709551616 : Int) ^ (j + 1 + d) = (18446744073709551616 * (t * 18446744073709551616 ^ d)) * 18446744073709551616 ^ j := by
    rw [show j + 1 + d = d + 1 + j by omega, Int.pow_add, Int.pow_succ, ← Int.mul_assoc, ← Int.mul_assoc, Int.mul_comm (t * 18446744073709551616 ^ d) 18446744073709551616]
  rw [h, e, Int.add_mul_ediv_right _ _ (Int.ne_of_gt (p256 j))]
  omega
theorem dcells_congr {n : Nat} {u v : Int} (t : Int) (h : u = v + t * 18446744073709551616 ^ n) : dcells n u = dcells n v := by
  unfold dcells
  refine List.map_congr_left fun j hj => ?_
  rw [dg_congr t h (by simpa using hj)]
/-- The carry into place i when x and y are added. -/
def carry (x y : Int) (i : Nat) : Int := (x % 18446744073709551616 ^ i + y % 18446744073709551616 ^ i) / 18446744073709551616 ^ i
theorem carry_zero (x y : Int) : carry x y 0 = 0 := by simp [carry]
theorem emod_succ (x : Int) (i : Nat) : x % 18446744073709551616 ^ (i + 1) = dg x i * 18446744073709551616 ^ i + x % 18446744073709551616 ^ i := by
  unfold dg
  have hp := p256 i
  have h1 := Int.mul_ediv_add_emod x (18446744073709551616 ^ i)
  have h2 := Int.mul_ediv_add_emod (x / 18446744073709551616 ^ i) 18446744073709551616
  have b := Int.emod_nonneg x (Int.ne_of_gt hp)
  have b' := Int.emod_lt_of_pos x hp
  have c := Int.emod_nonneg (x / 18446744073709551616 ^ i) (show (18446744073709551616 : Int) ≠ 0 by decide)
  have c' := Int.emod_lt_of_pos (x / 18446744073709551616 ^ i) (show (0 : Int) < 18446744073709551616 by decide)
  have e : x = (x / 18446744073709551616 ^ i % 18446744073709551616 * 18446744073709551616 ^ i + x % 18446744073709551616 ^ i) + (x / 18446744073709551616 ^ i / 18446744073709551616) * 18446744073709551616 ^ (i + 1) := by
    have : (x / 18446744073709551616 ^ i / 18446744073709551616) * (18446744073709551616 : Int) ^ (i + 1) = (18446744073709551616 * (x / 18446744073709551616 ^ i / 18446744073709551616)) * 18446744073709551616 ^ i := by rw [Int.pow_succ, Int.mul_comm ((18446744073709551616 : Int) ^ i) 18446744073709551616, ← Int.mul_assoc, Int.mul_comm _ 18446744073709551616]
    rw [this]
    have h3 : (18446744073709551616 * (x / 18446744073709551616 ^ i / 18446744073709551616)) * (18446744073709551616 : Int) ^ i + x / 18446744073709551616 ^ i % 18446744073709551616 * 18446744073709551616 ^ i = x / 18446744073709551616 ^ i * 18446744073709551616 ^ i := by rw [← Int.add_mul, h2]
    have h4 : x / 18446744073709551616 ^ i * (18446744073709551616 : Int) ^ i = 18446744073709551616 ^ i * (x / 18446744073709551616 ^ i) := Int.mul_comm _ _
    omega
  have l0 : 0 ≤ x / 18446744073709551616 ^ i % 18446744073709551616 * 18446744073709551616 ^ i + x % 18446744073709551616 ^ i := Int.add_nonneg (Int.mul_nonneg c (Int.le_of_lt hp)) b
  have l1 : x / 18446744073709551616 ^ i % 18446744073709551616 * 18446744073709551616 ^ i + x % 18446744073709551616 ^ i < 18446744073709551616 ^ (i + 1) := by
    have : x / 18446744073709551616 ^ i % 18446744073709551616 * (18446744073709551616 : Int) ^ i ≤ 18446744073709551615 * 18446744073709551616 ^ i := Int.mul_le_mul_of_nonneg_right (by omega) (Int.le_of_lt hp)
    rw [Int.pow_succ]
    omega
  have key : x % 18446744073709551616 ^ (i + 1) = (x / 18446744073709551616 ^ i % 18446744073709551616 * 18446744073709551616 ^ i + x % 18446744073709551616 ^ i) % 18446744073709551616 ^ (i + 1) := by
    have := congrArg (· % (18446744073709551616 : Int) ^ (i + 1)) e
    simpa [Int.add_mul_emod_self_right] using this
  rw [key, Int.emod_eq_of_lt l0 l1]
theorem carry_sum (x y : Int) (i : Nat) : (x % 18446744073709551616 ^ (i + 1) + y % 18446744073709551616 ^ (i + 1)) / 18446744073709551616 ^ i = carry x y i + dg x i + dg y i := by
  rw [emod_succ, emod_succ]
  unfold carry
  have e : dg x i * 18446744073709551616 ^ i + x % 18446744073709551616 ^ i + (dg y i * 18446744073709551616 ^ i + y % 18446744073709551616 ^ i) = (x % 18446744073709551616 ^ i + y % 18446744073709551616 ^ i) + (dg x i + dg y i) * 18446744073709551616 ^ i := by rw [Int.add_mul]; omega
  rw [e, Int.add_mul_ediv_right _ _ (Int.ne_of_gt (p256 i))]
  omega
theorem carry_succ (x y : Int) (i : Nat) : carry x y (i + 1) = (carry x y i + dg x i + dg y i) / 18446744073709551616 := by
  rw [← carry_sum]
  show (x % 18446744073709551616 ^ (i + 1) + y % 18446744073709551616 ^ (i + 1)) / 18446744073709551616 ^ (i + 1) = _
  have hp := p256 i
  rw [Int.pow_succ, Int.ediv_ediv, if_neg (by omega)]
  omega
theorem add_digit (x y : Int) (i : Nat) : (carry x y i + dg x i + dg y i) % 18446744073709551616 = dg (x + y) i := by
  unfold dg carry
  have hp := p256 i
  have h1 := Int.mul_ediv_add_emod x (18446744073709551616 ^ i)
  have h2 := Int.mul_ediv_add_emod y (18446744073709551616 ^ i)
  have e : x + y = (x % 18446744073709551616 ^ i + y % 18446744073709551616 ^ i) + (x / 18446744073709551616 ^ i + y / 18446744073709551616 ^ i) * 18446744073709551616 ^ i := by
    have a1 : x / 18446744073709551616 ^ i * (18446744073709551616 : Int) ^ i = 18446744073709551616 ^ i * (x / 18446744073709551616 ^ i) := Int.mul_comm _ _
    have a2 : y / 18446744073709551616 ^ i * (18446744073709551616 : Int) ^ i = 18446744073709551616 ^ i * (y / 18446744073709551616 ^ i) := Int.mul_comm _ _
    rw [Int.add_mul]; omega
  have e2 : (x + y) / 18446744073709551616 ^ i = (x % 18446744073709551616 ^ i + y % 18446744073709551616 ^ i) / 18446744073709551616 ^ i + (x / 18446744073709551616 ^ i + y / 18446744073709551616 ^ i) := by
    conv => lhs; rw [e]
    exact Int.add_mul_ediv_right _ _ (Int.ne_of_gt hp)
  rw [e2]
  omega
theorem carry_range (x y : Int) (i : Nat) : 0 ≤ carry x y i ∧ carry x y i ≤ 1 := by
  unfold carry
  have hp := p256 i
  have a := Int.emod_nonneg x (Int.ne_of_gt hp)
  have a' := Int.emod_lt_of_pos x hp
  have b := Int.emod_nonneg y (Int.ne_of_gt hp)
  have b' := Int.emod_lt_of_pos y hp
  refine ⟨Int.ediv_nonneg (by omega) (by omega), ?_⟩
  have : (x % 18446744073709551616 ^ i + y % 18446744073709551616 ^ i) / 18446744073709551616 ^ i < 2 := Int.ediv_lt_of_lt_mul hp (by omega)
  omega
end Go.Proofs.YtcaihoomcdbfnaaGreat.lq.q

namespace Go.Proofs.YtcaihoomcdbfnaaGreat.lq.q
set_option linter.unusedVariables false

/-- What stands below place i + k, and over it, when k digits of y have been taken times digit i of x. -/
def tk (O xi y : Int) (i k : Nat) : Int := O % 18446744073709551616 ^ (i + k) + xi * 18446744073709551616 ^ i * (y % 18446744073709551616 ^ k)
def cy (O xi y : Int) (i k : Nat) : Int := tk O xi y i k / 18446744073709551616 ^ (i + k)
theorem pow_ik (i k : Nat) : (18446744073709551616 : Int) ^ (i + k) = 18446744073709551616 ^ i * 18446744073709551616 ^ k := Int.pow_add _ _ _
theorem tk_succ (O xi y : Int) (i k : Nat) : tk O xi y i (k + 1) = tk O xi y i k + (dg O (i + k) + xi * dg y k) * 18446744073709551616 ^ (i + k) := by
  unfold tk
  rw [← Nat.add_assoc, emod_succ, emod_succ, Int.add_mul, Int.mul_add, pow_ik]
  have e : xi * 18446744073709551616 ^ i * (dg y k * 18446744073709551616 ^ k) = xi * dg y k * (18446744073709551616 ^ i * 18446744073709551616 ^ k) := by
    rw [Int.mul_assoc xi, Int.mul_left_comm (18446744073709551616 ^ i) (dg y k), Int.mul_assoc xi (dg y k)]
  rw [e]; omega
theorem cy_sum (O xi y : Int) (i k : Nat) : tk O xi y i (k + 1) / 18446744073709551616 ^ (i + k) = cy O xi y i k + dg O (i + k) + xi * dg y k := by
  rw [tk_succ, Int.add_mul_ediv_right _ _ (Int.ne_of_gt (p256 _))]; unfold cy; omega
theorem cy_succ (O xi y : Int) (i k : Nat) : cy O xi y i (k + 1) = (cy O xi y i k + dg O (i + k) + xi * dg y k) / 18446744073709551616 := by
  rw [← cy_sum]
  show tk O xi y i (k + 1) / 18446744073709551616 ^ (i + k + 1) = _
  have hp := p256 (i + k)
  rw [Int.pow_succ, Int.ediv_ediv, if_neg (by omega)]; omega
theorem mul_digit (O xi y : Int) (i k : Nat) : (cy O xi y i k + dg O (i + k) + xi * dg y k) % 18446744073709551616 = dg (O + xi * 18446744073709551616 ^ i * y) (i + k) := by
  rw [← cy_sum]
  show dg (tk O xi y i (k + 1)) (i + k) = _
  refine (dg_congr (i := i + k + 1) (O / 18446744073709551616 ^ (i + k + 1) + xi * (y / 18446744073709551616 ^ (k + 1))) ?_ (by omega)).symm
  unfold tk
  have h1 := Int.mul_ediv_add_emod O (18446744073709551616 ^ (i + k + 1))
  have h2 := Int.mul_ediv_add_emod y (18446744073709551616 ^ (k + 1))
  have e0 : i + (k + 1) = i + k + 1 := by omega
  rw [e0, Int.add_mul]
  have e1 : O / 18446744073709551616 ^ (i + k + 1) * (18446744073709551616 : Int) ^ (i + k + 1) = 18446744073709551616 ^ (i + k + 1) * (O / 18446744073709551616 ^ (i + k + 1)) := Int.mul_comm _ _
  have e2 : xi * (y / 18446744073709551616 ^ (k + 1)) * (18446744073709551616 : Int) ^ (i + k + 1) = xi * 18446744073709551616 ^ i * (18446744073709551616 ^ (k + 1) * (y / 18446744073709551616 ^ (k + 1))) := by
    rw [← e0, pow_ik i (k + 1)]
    generalize (18446744073709551616 : Int) ^ (k + 1) = K
    rw [Int.mul_assoc xi, Int.mul_assoc xi, Int.mul_left_comm (y / K) (18446744073709551616 ^ i) K, Int.mul_comm (y / K) K]
  have e3 : xi * 18446744073709551616 ^ i * y = xi * 18446744073709551616 ^ i * (18446744073709551616 ^ (k + 1) * (y / 18446744073709551616 ^ (k + 1))) + xi * 18446744073709551616 ^ i * (y % 18446744073709551616 ^ (k + 1)) := by rw [← Int.mul_add, h2]
  rw [e1, e2, e3]; omega
theorem cy_zero (O xi y : Int) (i : Nat) : cy O xi y i 0 = 0 := by
  unfold cy tk
  have hp := p256 i
  have a := Int.emod_nonneg O (Int.ne_of_gt hp)
  have a' := Int.emod_lt_of_pos O hp
  have e : y % (18446744073709551616 : Int) ^ 0 = 0 := by simp [Int.emod_one]
  rw [e]
  simp only [Nat.add_zero, Int.mul_zero, Int.add_zero]
  exact Int.ediv_eq_zero_of_lt a a'
theorem cy_range (O xi y : Int) (i k : Nat) (h0 : 0 ≤ xi) (h1 : xi < 18446744073709551616) : 0 ≤ cy O xi y i k ∧ cy O xi y i k ≤ 18446744073709551615 := by
  unfold cy tk
  have hp := p256 (i + k)
  have hi := p256 i
  have hk := p256 k
  have a := Int.emod_nonneg O (Int.ne_of_gt hp)
  have a' := Int.emod_lt_of_pos O hp
  have b := Int.emod_nonneg y (Int.ne_of_gt hk)
  have b' := Int.emod_lt_of_pos y hk
  have c : 0 ≤ xi * 18446744073709551616 ^ i * (y % 18446744073709551616 ^ k) := Int.mul_nonneg (Int.mul_nonneg h0 (Int.le_of_lt hi)) b
  have c' : xi * 18446744073709551616 ^ i * (y % 18446744073709551616 ^ k) ≤ 18446744073709551615 * 18446744073709551616 ^ (i + k) := by
    rw [pow_ik, ← Int.mul_assoc]
    exact Int.mul_le_mul (Int.mul_le_mul_of_nonneg_right (by omega) (Int.le_of_lt hi)) (by omega) b (Int.mul_nonneg (by decide) (Int.le_of_lt hi))
  refine ⟨Int.ediv_nonneg (by omega) (by omega), ?_⟩
  have : (O % 18446744073709551616 ^ (i + k) + xi * 18446744073709551616 ^ i * (y % 18446744073709551616 ^ k)) / 18446744073709551616 ^ (i + k) < 18446744073709551616 := Int.ediv_lt_of_lt_mul hp (by omega)
  omega
theorem mul_next (x y : Int) (i : Nat) : x % 18446744073709551616 ^ i * y + dg x i * 18446744073709551616 ^ i * y = x % 18446744073709551616 ^ (i + 1) * y := by rw [emod_succ, Int.add_mul]; omega
theorem mix_start (n i : Nat) (O xi y : Int) : mix n i (O + xi * 18446744073709551616 ^ i * y) O = dcells n O := by
  rw [← mix_zero n O O]
  refine fill_congr fun j _ => ?_
  by_cases h : j < i
  · have e : dg (O + xi * 18446744073709551616 ^ i * y) j = dg O j := dg_congr (i := i) (xi * y) (by rw [Int.mul_assoc, Int.mul_comm (18446744073709551616 ^ i) y, ← Int.mul_assoc]) h
    simp [h, e]
  · simp [h]
end Go.Proofs.YtcaihoomcdbfnaaGreat.lq.q

namespace Go.Proofs.YtcaihoomcdbfnaaGreat.lq
open Go.RowKit

/-- The high word, with its sign, of a number taken modulo 2^128. -/
def hi (v : Int) : Int := (v / 18446744073709551616 + 9223372036854775808) % 18446744073709551616 - 9223372036854775808
/-- The low word, without a sign. -/
def lo (v : Int) : Int := v % 18446744073709551616

theorem lo_range (v : Int) : 0 ≤ lo v ∧ lo v < 18446744073709551616 := by unfold lo; omega
/-- The borrow, under a name. -/
def bor (x y : Int) : Int := if x < y then 1 else 0
theorem bor_range (x y : Int) : 0 ≤ bor x y ∧ bor x y ≤ 1 := by unfold bor; split <;> decide

theorem hi_0 : (0 : Int) = hi 0 := by decide
theorem lo_0 : (0 : Int) = lo 0 := by decide
theorem add_lo (a b : Int) : (lo a + lo b) % 18446744073709551616 = lo (a + b) := by unfold lo; omega
theorem add_hi (a b : Int) : wrap64 ((IntKind.u64.wrap (hi a) + IntKind.u64.wrap (hi b) + (lo a + lo b) / 18446744073709551616) % 18446744073709551616) = hi (a + b) := by
  rw [IntKind.wrap_u64, IntKind.wrap_u64]; unfold hi lo wrap64; omega
theorem sub_lo (a b : Int) : (lo a - lo b) % 18446744073709551616 = lo (a - b) := by unfold lo; omega
theorem sub_hi (a b : Int) : wrap64 ((IntKind.u64.wrap (hi a) - IntKind.u64.wrap (hi b) - bor (lo a) (lo b)) % 18446744073709551616) = hi (a - b) := by
  rw [IntKind.wrap_u64, IntKind.wrap_u64]; unfold bor wrap64; split <;> (simp only [hi, lo] at *; omega)
theorem of_hi (n : Int) (h0 : -9223372036854775808 ≤ n) (h1 : n ≤ 9223372036854775807) : n / 9223372036854775808 = hi n := by unfold hi; omega
theorem of_lo (n : Int) : IntKind.u64.wrap n = lo n := by rw [IntKind.wrap_u64]; rfl

theorem mask32 (x : Int) (h0 : 0 ≤ x) (h1 : x < 18446744073709551616) : bits .and .u64 x 4294967295 = x % 4294967296 := by
  obtain ⟨n, rfl⟩ := Int.eq_ofNat_of_zero_le h0
  have h := bits_and_u64_nat n 4294967295 (by omega) (by omega)
  have e : n &&& 4294967295 = n % 4294967296 := Nat.and_two_pow_sub_one_eq_mod n 32
  rw [e] at h
  exact h.trans (by omega)
theorem half_mul (a b : Int) (a0 : 0 ≤ a) (a1 : a < 4294967296) (b0 : 0 ≤ b) (b1 : b < 4294967296) : 0 ≤ a * b ∧ a * b ≤ 18446744065119617025 := by
  refine ⟨Int.mul_nonneg a0 b0, ?_⟩
  have := Int.mul_le_mul (show a ≤ 4294967295 by omega) (show b ≤ 4294967295 by omega) b0 (by decide)
  omega
theorem school (a b c d : Int) : (a * 4294967296 + b) * (c * 4294967296 + d) = a * c * 18446744073709551616 + a * d * 4294967296 + b * c * 4294967296 + b * d := by
  have h1 : a * 4294967296 * (c * 4294967296) = a * c * (4294967296 * 4294967296) := by rw [Int.mul_assoc a, Int.mul_left_comm 4294967296 c, ← Int.mul_assoc]
  have h2 : a * 4294967296 * d = a * d * 4294967296 := by rw [Int.mul_assoc a, Int.mul_comm 4294967296 d, ← Int.mul_assoc]
  have h3 : b * (c * 4294967296) = b * c * 4294967296 := (Int.mul_assoc b c _).symm
  rw [Int.add_mul, Int.mul_add, Int.mul_add, h1, h2, h3]
  omega
theorem mul64_hi (x y : Int) (x0 : 0 ≤ x) (x1 : x < 18446744073709551616) (y0 : 0 ≤ y) (y1 : y < 18446744073709551616) :
    IntKind.u64.wrap (IntKind.u64.wrap (IntKind.u64.wrap (x / 4294967296 * (y / 4294967296)) + IntKind.u64.wrap (IntKind.u64.wrap (x / 4294967296 * bits .and .u64 y 4294967295) + IntKind.u64.wrap (bits .and .u64 x 4294967295 * bits .and .u64 y 4294967295) / 4294967296) / 4294967296) +
      IntKind.u64.wrap (bits .and .u64 (IntKind.u64.wrap (IntKind.u64.wrap (x / 4294967296 * bits .and .u64 y 4294967295) + IntKind.u64.wrap (bits .and .u64 x 4294967295 * bits .and .u64 y 4294967295) / 4294967296)) 4294967295 + IntKind.u64.wrap (bits .and .u64 x 4294967295 * (y / 4294967296))) / 4294967296) = x * y / 18446744073709551616 := by
  rw [mask32 x x0 x1, mask32 y y0 y1, mask32 (IntKind.u64.wrap _) (wrap_u64_nonneg _) (by rw [IntKind.wrap_u64]; omega)]
  have e := school (x / 4294967296) (x % 4294967296) (y / 4294967296) (y % 4294967296)
  have ex : x / 4294967296 * 4294967296 + x % 4294967296 = x := by omega
  have ey : y / 4294967296 * 4294967296 + y % 4294967296 = y := by omega
  rw [ex, ey] at e
  rw [e]
  have b1 := half_mul (x / 4294967296) (y / 4294967296) (by omega) (by omega) (by omega) (by omega)
  have b2 := half_mul (x / 4294967296) (y % 4294967296) (by omega) (by omega) (by omega) (by omega)
  have b3 := half_mul (x % 4294967296) (y / 4294967296) (by omega) (by omega) (by omega) (by omega)
  have b4 := half_mul (x % 4294967296) (y % 4294967296) (by omega) (by omega) (by omega) (by omega)
  clear e ex ey
  generalize x / 4294967296 * (y / 4294967296) = p1 at *
  generalize x / 4294967296 * (y % 4294967296) = p2 at *
  generalize x % 4294967296 * (y / 4294967296) = p3 at *
  generalize x % 4294967296 * (y % 4294967296) = p4 at *
  simp only [IntKind.wrap_u64]
  omega

/-- What is left of a product of two words that were taken without their signs. -/
theorem mul_lo (a b : Int) : IntKind.u64.wrap a * IntKind.u64.wrap b % 18446744073709551616 = lo (a * b) := by
  rw [IntKind.wrap_u64, IntKind.wrap_u64]; unfold lo; exact (Int.mul_emod a b _).symm
theorem ret_tup2 {k l : IntKind} {a b c d : Int} (h : a = c) (h' : b = d) : Ending.returned (.tuple #[.int k a, .int l b]) = .returned (.tuple #[.int k c, .int l d]) := by rw [h, h']
theorem ret_int {k : IntKind} {a b : Int} (h : a = b) : Ending.returned (.int k a) = .returned (.int k b) := by rw [h]

theorem bd_i64 {x : Int} (h : (Lit.int .i64 x).wf = true) : -9223372036854775808 ≤ x ∧ x ≤ 9223372036854775807 := by
  simp [Lit.wf, IntKind.min, IntKind.max, IntKind.signed, IntKind.bits] at h
  exact ⟨by omega, by omega⟩
/-- -1, 0, 1: how two numbers lie. -/
def cmpI (x y : Int) : Int := if x < y then -1 else if y < x then 1 else 0
end Go.Proofs.YtcaihoomcdbfnaaGreat.lq

namespace Go.Proofs.YtcaihoomcdbfnaaGreat.lq
open Go.RowKit
set_option linter.unusedVariables false

/-- The four words of a number, modulo 2^256. -/
def Wd (a a0 a1 a2 a3 : Int) : Prop := a0 = q.dg a 0 ∧ a1 = q.dg a 1 ∧ a2 = q.dg a 2 ∧ a3 = q.dg a 3
theorem wd_self (a : Int) : Wd a (q.dg a 0) (q.dg a 1) (q.dg a 2) (q.dg a 3) := ⟨rfl, rfl, rfl, rfl⟩
theorem qdg_0 (j : Nat) : q.dg 0 j = 0 := by simp [q.dg]
theorem wd_0 : Wd 0 0 0 0 0 := ⟨(qdg_0 _).symm, (qdg_0 _).symm, (qdg_0 _).symm, (qdg_0 _).symm⟩
theorem qcells (a : Int) : q.dcells 4 a = [.int .u64 (q.dg a 0), .int .u64 (q.dg a 1), .int .u64 (q.dg a 2), .int .u64 (q.dg a 3)] := by simp [q.dcells, List.range, List.range.loop]
theorem qcells_0 : q.dcells 4 0 = [.int .u64 0, .int .u64 0, .int .u64 0, .int .u64 0] := by rw [qcells]; simp [qdg_0]
/-- A row of four. -/
theorem row4 {w : World} {b : Nat} {v0 v1 v2 v3 : Value} (h : Row w b [v0, v1, v2, v3]) : w.cell? ⟨b, 0, none⟩ = some v0 ∧ w.cell? ⟨b, 1, none⟩ = some v1 ∧ w.cell? ⟨b, 2, none⟩ = some v2 ∧ w.cell? ⟨b, 3, none⟩ = some v3 ∧
    w.frozen? ⟨b, 0, none⟩ = false ∧ w.frozen? ⟨b, 1, none⟩ = false ∧ w.frozen? ⟨b, 2, none⟩ = false ∧ w.frozen? ⟨b, 3, none⟩ = false :=
  ⟨h.cell 0 _ rfl, h.cell 1 _ rfl, h.cell 2 _ rfl, h.cell 3 _ rfl, h.free 0 (by simp), h.free 1 (by simp), h.free 2 (by simp), h.free 3 (by simp)⟩
theorem _root_.Go.Proofs.YtcaihoomcdbfnaaGreat.Row.cells {w : World} {b : Nat} {xs ys : List Value} (h : Row w b xs) (e : xs = ys) : Row w b ys := e ▸ h
/-- The borrow out of the places below i when y is taken off x. -/
def bw (x y : Int) (i : Nat) : Int := -((x % 18446744073709551616 ^ i - y % 18446744073709551616 ^ i) / 18446744073709551616 ^ i)
theorem bw_zero (x y : Int) : bw x y 0 = 0 := by simp [bw, Int.emod_one]
theorem bw_sum (x y : Int) (i : Nat) : (x % 18446744073709551616 ^ (i + 1) - y % 18446744073709551616 ^ (i + 1)) / 18446744073709551616 ^ i = q.dg x i - q.dg y i - bw x y i := by
  rw [q.emod_succ, q.emod_succ]
  unfold bw
  have e : q.dg x i * 18446744073709551616 ^ i + x % 18446744073709551616 ^ i - (q.dg y i * 18446744073709551616 ^ i + y % 18446744073709551616 ^ i) = (x % 18446744073709551616 ^ i - y % 18446744073709551616 ^ i) + (q.dg x i - q.dg y i) * 18446744073709551616 ^ i := by rw [Int.sub_mul]; omega
  rw [e, Int.add_mul_ediv_right _ _ (Int.ne_of_gt (q.p256 i))]
  omega
theorem bw_range (x y : Int) (i : Nat) : 0 ≤ bw x y i ∧ bw x y i ≤ 1 := by
  unfold bw
  have hp := q.p256 i
  have a := Int.emod_nonneg x (Int.ne_of_gt hp)
  have a' := Int.emod_lt_of_pos x hp
  have b := Int.emod_nonneg y (Int.ne_of_gt hp)
  have b' := Int.emod_lt_of_pos y hp
  have h1 : (x % 18446744073709551616 ^ i - y % 18446744073709551616 ^ i) / 18446744073709551616 ^ i < 1 := Int.ediv_lt_of_lt_mul hp (by omega)
  have h2 : -1 ≤ (x % 18446744073709551616 ^ i - y % 18446744073709551616 ^ i) / 18446744073709551616 ^ i := Int.le_ediv_of_mul_le hp (by omega)
  omega
theorem bw_succ (x y : Int) (i : Nat) : bor (q.dg x i) (q.dg y i + bw x y i) = bw x y (i + 1) := by
  have e : bw x y (i + 1) = -((q.dg x i - q.dg y i - bw x y i) / 18446744073709551616) := by
    rw [← bw_sum]
    show -((x % 18446744073709551616 ^ (i + 1) - y % 18446744073709551616 ^ (i + 1)) / 18446744073709551616 ^ (i + 1)) = _
    have hp := q.p256 i
    rw [Int.pow_succ, Int.ediv_ediv, if_neg (by omega)]
    omega
  rw [e]
  have h := bw_range x y i
  have a := q.dg_range x i
  have b := q.dg_range y i
  unfold bor
  split <;> omega
theorem sub_digit (x y : Int) (i : Nat) : (q.dg x i - q.dg y i - bw x y i) % 18446744073709551616 = q.dg (x - y) i := by
  unfold q.dg bw
  have hp := q.p256 i
  have h1 := Int.mul_ediv_add_emod x (18446744073709551616 ^ i)
  have h2 := Int.mul_ediv_add_emod y (18446744073709551616 ^ i)
  have e : x - y = (x % 18446744073709551616 ^ i - y % 18446744073709551616 ^ i) + (x / 18446744073709551616 ^ i - y / 18446744073709551616 ^ i) * 18446744073709551616 ^ i := by
    have a1 : x / 18446744073709551616 ^ i * (18446744073709551616 : Int) ^ i = 18446744073709551616 ^ i * (x / 18446744073709551616 ^ i) := Int.mul_comm _ _
    have a2 : y / 18446744073709551616 ^ i * (18446744073709551616 : Int) ^ i = 18446744073709551616 ^ i * (y / 18446744073709551616 ^ i) := Int.mul_comm _ _
    rw [Int.sub_mul]; omega
  have e2 : (x - y) / 18446744073709551616 ^ i = (x % 18446744073709551616 ^ i - y % 18446744073709551616 ^ i) / 18446744073709551616 ^ i + (x / 18446744073709551616 ^ i - y / 18446744073709551616 ^ i) := by
    conv => lhs; rw [e]
    exact Int.add_mul_ediv_right _ _ (Int.ne_of_gt hp)
  rw [e2]
  omega
end Go.Proofs.YtcaihoomcdbfnaaGreat.lq

namespace Go.Proofs.YtcaihoomcdbfnaaGreat.lq
open Go.RowKit
set_option linter.unusedVariables false

theorem add64 (x y c : Int) (hx : 0 ≤ x) (hy : 0 ≤ y) (hc0 : 0 ≤ c) (hc : c ≤ 1) (w : World) : (callFunc 55 #[.int .u64 x, .int .u64 y, .int .u64 c]).run Tryz.prog w =
    .ok (.value (.tuple #[.int .u64 ((x + y + c) % 18446744073709551616), .int .u64 ((x + y + c) / 18446744073709551616)])) w := by
  rw [run_callFunc_extern Tryz.func55 (by kernel_rfl) (by kernel_rfl) (by kernel_rfl) (e := add64Entry) (by kernel_rfl), run_add64 x y c hx hy hc0 hc]
  rfl
theorem add64_0 (x y : Int) (hx : 0 ≤ x) (hy : 0 ≤ y) (w : World) : (callFunc 55 #[.int .u64 x, .int .u64 y, .int .u64 0]).run Tryz.prog w =
    .ok (.value (.tuple #[.int .u64 ((x + y) % 18446744073709551616), .int .u64 ((x + y) / 18446744073709551616)])) w := by
  simpa using add64 x y 0 hx hy (Int.le_refl 0) (by decide) w
theorem sub64 (x y b : Int) (hx : 0 ≤ x) (hy : 0 ≤ y) (hy' : y < 18446744073709551616) (hb0 : 0 ≤ b) (hb : b ≤ 1) (w : World) : (callFunc 99 #[.int .u64 x, .int .u64 y, .int .u64 b]).run Tryz.prog w =
    .ok (.value (.tuple #[.int .u64 ((x - y - b) % 18446744073709551616), .int .u64 (bor x (y + b))])) w := by
  obtain ⟨x, rfl⟩ := Int.eq_ofNat_of_zero_le hx
  obtain ⟨y, rfl⟩ := Int.eq_ofNat_of_zero_le hy
  obtain ⟨b, rfl⟩ := Int.eq_ofNat_of_zero_le hb0
  have e1 : (((x + 18446744073709551616 - y - b) % 18446744073709551616 : Nat) : Int) = ((x : Int) - y - b) % 18446744073709551616 := by omega
  have e2 : ((if x < y + b then 1 else 0 : Nat) : Int) = bor x (y + b) := by unfold bor; split <;> split <;> omega
  rw [← e1, ← e2, run_callFunc_extern Tryz.func99 (by kernel_rfl) (by kernel_rfl) (by kernel_rfl) (e := sub64Entry) (by kernel_rfl), run_sub64 x y b (by omega)]
  rfl

theorem keep_other {w : World} {b c i k : Nat} {u v : Value} (h : w.cell? ⟨b, k, none⟩ = some u) (hne : c ≠ b) : ((w.setCell ⟨c, i, none⟩ v).drew).cell? ⟨b, k, none⟩ = some u :=
  (World.cell?_setCell_other _ _ _ _ (by intro q; simp only [Addr.mk.injEq] at q; omega)).trans h

/-- What holds at the head of each round of the sum's loop: both arguments, the answer's place, the sum so far. -/
structure AddRel (w : World) (x y z : Int) (k : Nat) (wr : World) : Prop where
  ra : Row wr w.heap.size (q.dcells 4 x)
  rb : Row wr (w.heap.size + 1) (q.dcells 4 y)
  rz : Row wr (w.heap.size + 1 + 1) (q.dcells 4 0)
  rs : Row wr (w.heap.size + 1 + 1 + 1) (q.mix 4 k z 0)
  bel : Below w.heap.size w wr
  size : w.heap.size + 1 + 1 + 1 < wr.heap.size
theorem addRel_start (w : World) (x y z : Int) (t : TypeId) : AddRel w x y z 0 ((((w.alloc (.cells #[.int .u64 (q.dg x 0), .int .u64 (q.dg x 1), .int .u64 (q.dg x 2), .int .u64 (q.dg x 3)] t)).alloc (.cells #[.int .u64 (q.dg y 0), .int .u64 (q.dg y 1), .int .u64 (q.dg y 2), .int .u64 (q.dg y 3)] t)).alloc
    (.cells #[.int .u64 0, .int .u64 0, .int .u64 0, .int .u64 0] t)).alloc (.cells #[.int .u64 0, .int .u64 0, .int .u64 0, .int .u64 0] t)) := by
  have h0 := (((Row.new w (q.dcells 4 x) t).alloc (.cells (q.dcells 4 y).toArray t) (by simp <;> omega)).alloc (.cells (q.dcells 4 0).toArray t) (by simp <;> omega)).alloc (.cells (q.dcells 4 0).toArray t) (by simp <;> omega)
  have h1 := ((Row.new (w.alloc (.cells (q.dcells 4 x).toArray t)) (q.dcells 4 y) t).alloc (.cells (q.dcells 4 0).toArray t) (by simp <;> omega)).alloc (.cells (q.dcells 4 0).toArray t) (by simp <;> omega)
  have h2 := (Row.new ((w.alloc (.cells (q.dcells 4 x).toArray t)).alloc (.cells (q.dcells 4 y).toArray t)) (q.dcells 4 0) t).alloc (.cells (q.dcells 4 0).toArray t) (by simp <;> omega)
  have h3 := Row.new (((w.alloc (.cells (q.dcells 4 x).toArray t)).alloc (.cells (q.dcells 4 y).toArray t)).alloc (.cells (q.dcells 4 0).toArray t)) (q.dcells 4 0) t
  simp only [World.size_alloc] at h1 h2 h3
  rw [qcells_0, qcells x, qcells y] at h0 h1 h2 h3
  refine ⟨by rw [qcells]; exact h0, by rw [qcells]; exact h1, by rw [qcells_0]; exact h2, by rw [q.mix_zero, qcells_0]; exact h3, ?_, by simp⟩
  exact ((((Below.refl _ _).alloc (Nat.le_refl _) _).alloc (by simp <;> omega) _).alloc (by simp <;> omega) _).alloc (by simp <;> omega) _
theorem addRel_next {w wr : World} {x y z d : Int} {k : Nat} (h : AddRel w x y z k wr) (hk : k < 4) (e : d = q.dg z k) :
    AddRel w x y z (k + 1) ((wr.setCell ⟨w.heap.size + 1 + 1 + 1, k, none⟩ (.int .u64 d)).drew) := by
  refine ⟨(h.ra.other _ (by omega)).drew, (h.rb.other _ (by omega)).drew, (h.rz.other _ (by omega)).drew, ?_, (h.bel.setCell (by show _ ≤ w.heap.size + 1 + 1 + 1; omega) _).drew, by simpa using h.size⟩
  rw [e, ← q.mix_set]
  exact (h.rs.set k _ (by rw [q.mix_length]; exact hk)).drew

set_option maxHeartbeats 1000000 in
theorem qadd_any {a0 a1 a2 a3 b0 b1 b2 b3 : Int} (a b : Int) (ha : Wd a a0 a1 a2 a3) (hb : Wd b b0 b1 b2 b3) (w : World) :
    Calls Tryz.prog 56 #[.agg #[.int .u64 a0, .int .u64 a1, .int .u64 a2, .int .u64 a3], .agg #[.int .u64 b0, .int .u64 b1, .int .u64 b2, .int .u64 b3]] w fun e w' =>
      e = .returned (.agg #[.int .u64 (q.dg (a + b) 0), .int .u64 (q.dg (a + b) 1), .int .u64 (q.dg (a + b) 2), .int .u64 (q.dg (a + b) 3)]) ∧ Below w.heap.size w w' := by
  obtain ⟨rfl, rfl, rfl, rfl⟩ := ha
  obtain ⟨rfl, rfl, rfl, rfl⟩ := hb
  go_enter Tryz.func56, Tryz.ntmps56
  go_wp2
  go_loopw [6, 8] (fun c i wr => ∃ k : Nat, k ≤ 4 ∧ i = .int .i64 (k : Int) ∧ c = .int .u64 (q.carry a b k) ∧ AddRel w a b (a + b) k wr) (fun _ i _ => 4 - (intOf i).toNat)
  case atStart => exact ⟨0, by omega, rfl, by rw [q.carry_zero], addRel_start w a b _ _⟩
  case round =>
    obtain ⟨k, hk, rfl, rfl, hr⟩ := hrel
    by_cases hlt : k < 4
    · have c1 : wr.cell? ⟨w.heap.size, k, none⟩ = some (.int .u64 (q.dg a k)) := hr.ra.cell k _ (q.dcells_at _ _ _ hlt)
      have c2 : wr.cell? ⟨w.heap.size + 1, k, none⟩ = some (.int .u64 (q.dg b k)) := hr.rb.cell k _ (q.dcells_at _ _ _ hlt)
      have c3 : wr.cell? ⟨w.heap.size + 1 + 1 + 1, k, none⟩ = some (.int .u64 (q.dg 0 k)) := hr.rs.cell k _ (q.mix_at _ _ _ _ _ hlt (Nat.le_refl _))
      have c4 : wr.frozen? ⟨w.heap.size + 1 + 1 + 1, k, none⟩ = false := hr.rs.free k (by rw [q.mix_length]; exact hlt)
      have hl : (k : Int) < 4 := by omega
      obtain ⟨d0, d1⟩ := q.dg_range a k
      obtain ⟨e0, e1⟩ := q.dg_range b k
      obtain ⟨f0, f1⟩ := q.carry_range a b k
      have hn := fun d e => addRel_next (d := d) hr hlt e
      go_wp2
      go_region_held3 (fun w' => w'.cell? ⟨w.heap.size, k, none⟩ = some (.int .u64 (q.dg a k)) ∧ w'.cell? ⟨w.heap.size + 1, k, none⟩ = some (.int .u64 (q.dg b k))) (first | exact ⟨c1, c2⟩ | exact ⟨keep_other c1 (by omega), keep_other c2 (by omega)⟩)
        (simp only [add64 _ _ _ d0 e0 f0 f1])
      go_wp2
      go_roundw
      case rel => exact ⟨k + 1, by omega, by simp, by rw [q.carry_succ, Int.add_comm (q.dg a k + q.dg b k), ← Int.add_assoc], hn _ (by rw [← q.add_digit]; congr 1; omega)⟩
      case measure => simp [intOf]; omega
    · obtain rfl : k = 4 := by omega
      obtain ⟨ra, rb, rz, rs, bel, size⟩ := hr
      rw [q.mix_full, qcells] at rs
      rw [qcells_0] at rz
      obtain ⟨c0, c1, c2, c3, _, _, _, _⟩ := row4 rs
      obtain ⟨z0, z1, z2, z3, y0, y1, y2, y3⟩ := row4 rz
      clear ra rb rs rz
      go_wp2
      refine bodyPost_ret (v := .agg #[.int .u64 (q.dg (a + b) 0), .int .u64 (q.dg (a + b) 1), .int .u64 (q.dg (a + b) 2), .int .u64 (q.dg (a + b) 3)]) (by simp [results, Tryz.results56, go_sem, *]) rfl ⟨rfl, ?_⟩
      exact (((bel.setCell (by show _ ≤ w.heap.size + 1 + 1; omega) _).setCell (by show _ ≤ w.heap.size + 1 + 1; omega) _).setCell (by show _ ≤ w.heap.size + 1 + 1; omega) _).setCell (by show _ ≤ w.heap.size + 1 + 1; omega) _

set_option maxHeartbeats 1000000 in
theorem qsub_any {a0 a1 a2 a3 b0 b1 b2 b3 : Int} (a b : Int) (ha : Wd a a0 a1 a2 a3) (hb : Wd b b0 b1 b2 b3) (w : World) :
    Calls Tryz.prog 71 #[.agg #[.int .u64 a0, .int .u64 a1, .int .u64 a2, .int .u64 a3], .agg #[.int .u64 b0, .int .u64 b1, .int .u64 b2, .int .u64 b3]] w fun e w' =>
      e = .returned (.agg #[.int .u64 (q.dg (a - b) 0), .int .u64 (q.dg (a - b) 1), .int .u64 (q.dg (a - b) 2), .int .u64 (q.dg (a - b) 3)]) ∧ Below w.heap.size w w' := by
  obtain ⟨rfl, rfl, rfl, rfl⟩ := ha
  obtain ⟨rfl, rfl, rfl, rfl⟩ := hb
  go_enter Tryz.func71, Tryz.ntmps71
  go_wp2
  go_loopw [6, 8] (fun c i wr => ∃ k : Nat, k ≤ 4 ∧ i = .int .i64 (k : Int) ∧ c = .int .u64 (bw a b k) ∧ AddRel w a b (a - b) k wr) (fun _ i _ => 4 - (intOf i).toNat)
  case atStart => exact ⟨0, by omega, rfl, by rw [bw_zero], addRel_start w a b _ _⟩
  case round =>
    obtain ⟨k, hk, rfl, rfl, hr⟩ := hrel
    by_cases hlt : k < 4
    · have c1 : wr.cell? ⟨w.heap.size, k, none⟩ = some (.int .u64 (q.dg a k)) := hr.ra.cell k _ (q.dcells_at _ _ _ hlt)
      have c2 : wr.cell? ⟨w.heap.size + 1, k, none⟩ = some (.int .u64 (q.dg b k)) := hr.rb.cell k _ (q.dcells_at _ _ _ hlt)
      have c3 : wr.cell? ⟨w.heap.size + 1 + 1 + 1, k, none⟩ = some (.int .u64 (q.dg 0 k)) := hr.rs.cell k _ (q.mix_at _ _ _ _ _ hlt (Nat.le_refl _))
      have c4 : wr.frozen? ⟨w.heap.size + 1 + 1 + 1, k, none⟩ = false := hr.rs.free k (by rw [q.mix_length]; exact hlt)
      have hl : (k : Int) < 4 := by omega
      obtain ⟨d0, d1⟩ := q.dg_range a k
      obtain ⟨e0, e1⟩ := q.dg_range b k
      obtain ⟨f0, f1⟩ := bw_range a b k
      have hn := fun d e => addRel_next (d := d) hr hlt e
      go_wp2
      go_region_held3 (fun w' => w'.cell? ⟨w.heap.size, k, none⟩ = some (.int .u64 (q.dg a k)) ∧ w'.cell? ⟨w.heap.size + 1, k, none⟩ = some (.int .u64 (q.dg b k))) (first | exact ⟨c1, c2⟩ | exact ⟨keep_other c1 (by omega), keep_other c2 (by omega)⟩)
        (simp only [sub64 _ _ _ d0 e0 e1 f0 f1])
      go_wp2
      go_roundw
      case rel => exact ⟨k + 1, by omega, by simp, by rw [bw_succ], hn _ (sub_digit _ _ _)⟩
      case measure => simp [intOf]; omega
    · obtain rfl : k = 4 := by omega
      obtain ⟨ra, rb, rz, rs, bel, size⟩ := hr
      rw [q.mix_full, qcells] at rs
      rw [qcells_0] at rz
      obtain ⟨c0, c1, c2, c3, _, _, _, _⟩ := row4 rs
      obtain ⟨z0, z1, z2, z3, y0, y1, y2, y3⟩ := row4 rz
      clear ra rb rs rz
      go_wp2
      refine bodyPost_ret (v := .agg #[.int .u64 (q.dg (a - b) 0), .int .u64 (q.dg (a - b) 1), .int .u64 (q.dg (a - b) 2), .int .u64 (q.dg (a - b) 3)]) (by simp [results, Tryz.results71, go_sem, *]) rfl ⟨rfl, ?_⟩
      exact (((bel.setCell (by show _ ≤ w.heap.size + 1 + 1; omega) _).setCell (by show _ ≤ w.heap.size + 1 + 1; omega) _).setCell (by show _ ≤ w.heap.size + 1 + 1; omega) _).setCell (by show _ ≤ w.heap.size + 1 + 1; omega) _

theorem qneg_any {a0 a1 a2 a3 : Int} (a : Int) (ha : Wd a a0 a1 a2 a3) (w : World) :
    Calls Tryz.prog 96 #[.agg #[.int .u64 a0, .int .u64 a1, .int .u64 a2, .int .u64 a3]] w fun e w' =>
      e = .returned (.agg #[.int .u64 (q.dg (-a) 0), .int .u64 (q.dg (-a) 1), .int .u64 (q.dg (-a) 2), .int .u64 (q.dg (-a) 3)]) ∧ Below w.heap.size w w' := by
  obtain ⟨rfl, rfl, rfl, rfl⟩ := ha
  have E : (0 : Int) - a = -a := by omega
  go_enter Tryz.func96, Tryz.ntmps96
  go_wp2_with (go_at_call 71; refine (qsub_any 0 a wd_0 (wd_self a) _).mono ?_; rw [E]; rintro e w' ⟨rfl, hb⟩; obtain ⟨hc, hf⟩ := bcell hb)
  refine bodyPost_ret (v := .agg #[.int .u64 (q.dg (-a) 0), .int .u64 (q.dg (-a) 1), .int .u64 (q.dg (-a) 2), .int .u64 (q.dg (-a) 3)]) (by simp [results, Tryz.results96, go_sem, hc]) rfl ⟨rfl, ?_⟩
  exact (((((((Below.refl _ _).alloc (Nat.le_refl _) _).alloc (by simp) _).trans (hb.mono (by simp <;> omega))).setCell (by simp <;> omega) _).setCell (by simp <;> omega) _).setCell (by simp <;> omega) _).setCell (by simp <;> omega) _
end Go.Proofs.YtcaihoomcdbfnaaGreat.lq
