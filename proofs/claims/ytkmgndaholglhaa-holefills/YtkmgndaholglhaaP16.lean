/-
  Joined texts, part 16:
  A slice of points that comes as an argument, opened; and appended to an empty one.
-/
import Derived.Test.YtkmgndaholglhaaP15
import Derived.Deep.SlicePairs
import Derived.Lib.AppendZeros
import Derived.ProofKit
import Derived.OpenShut
import Derived.ChangeSlices
import Derived.Lib.SmallJoins
namespace Go.Proofs.Ytkmgndaholglhaa
open Go.ChangeShapes Go.WideShapes Go.ChangeAt Go.RowKit
set_option linter.unusedVariables false

theorem laidOutP : laidOutB Try.prog = true := by kernel_rfl
theorem cellsPt : Try.prog.cellsOf 31 = 2 := by kernel_rfl
theorem cellsI64 : Try.prog.cellsOf 2 = 1 := by kernel_rfl
theorem bd_pt {x : Int} (h : (Lit.int .i64 x).wf = true) : R64 x := bd_i64 h
def numV (v : Value) : Int := match v with | .int _ n => n | _ => 0
theorem pts_view {H : Type} {enc : TypeId × Value → H} {W : World} {fuel : Nat} {a0 : Option Addr} {len cap : Nat} {d : DataW H} {p : List MemPlace}
  (hf : DataW.trod enc Try.prog W 0 (fun _ => true) true fuel 22 (Value.slice a0 len cap).cells.toList = some (d, p)) (hfz : W.noneFrozen p) (hlt : ∀ x ∈ p, x.block < W.heap.size) :
  ∃ L : List Pt, PSl W a0 len cap L ∧ cap ≤ maxLen ∧ ∀ (j : Nat) (x y : Int), L[j]? = some (x, y) → R2 (x, y) := by
 rcases Go.Deep.open_slice_pairs Try.underlying22 Try.underlying31 cellsPt rfl rfl cellsI64 cellsI64 hf with ⟨hcs, hx⟩ | ⟨a, len', cap', m, n, V0, V1, D0, D1, P0, P1, hcs, _, hl, hm, hmm, hx, hcell⟩
 ·simp [Value.cells] at hcs
  obtain ⟨rfl, rfl, rfl⟩ := hcs
  exact ⟨[], ⟨rfl, Nat.le_refl _, fun _ => ⟨rfl, rfl⟩, Or.inl rfl⟩, by decide, fun j x y h => by simp at h⟩
 ·simp [Value.cells] at hcs
  obtain ⟨rfl, rfl, rfl⟩ := hcs
  simp only [Prod.mk.injEq] at hx
  obtain ⟨_, rfl⟩ := hx
  simp only [if_true] at hmm
  subst hmm
  have hv : ∀ i, i < m → V0 i = .int .i64 (numV (V0 i)) ∧ V1 i = .int .i64 (numV (V1 i)) ∧ R64 (numV (V0 i)) ∧ R64 (numV (V1 i)) := by
   intro i hi
   obtain ⟨_, _, t0, t1⟩ := hcell i hi
   obtain ⟨x, e0, _, w0⟩ := DataW.trod_int Try.underlying2 t0
   obtain ⟨y, e1, _, w1⟩ := DataW.trod_int Try.underlying2 t1
   simp at e0 e1
   rw [e0, e1]
   exact ⟨rfl, rfl, bd_pt w0, bd_pt w1⟩
  have hat : ∀ (j : Nat) (x y : Int), ((List.range len).map fun i => (numV (V0 i), numV (V1 i)))[j]? = some (x, y) → j < len ∧ x = numV (V0 j) ∧ y = numV (V1 j) := by
   intro j x y h
   rw [List.getElem?_map] at h
   by_cases hj : j < len
   ·rw [List.getElem?_range hj] at h
    simp at h
    exact ⟨hj, h.1.symm, h.2.symm⟩
   ·rw [List.getElem?_eq_none (by simp; omega)] at h
    simp at h
  refine ⟨(List.range len).map fun i => (numV (V0 i), numV (V1 i)), ⟨by simp, hl, (fun h => by cases h), ?_⟩, hm, fun j x y h => ?_⟩
  ·rcases Nat.eq_zero_or_pos len with h0 | h0
   ·exact Or.inl h0
   right
   have hsp : a.spot = none := by
    have h1 := (hcell 0 (by omega)).1
    rw [show a.add (0 * 2) = a from rfl] at h1
    unfold World.cell? at h1
    split at h1
    ·split at h1
     ·cases h1
     ·rename_i hs
      simpa using hs
    ·cases h1
   obtain ⟨b, o, sp⟩ := a
   dsimp only at hsp
   subst hsp
   have hmem : ∀ j, j < m * 2 → MemPlace.cell b (o + j) ∈ MemPlace.row ⟨b, o, none⟩ (m * 2) ++ (List.range m).flatMap fun i => P0 i ++ P1 i := fun j hj => by
    refine List.mem_append_left _ ?_
    unfold MemPlace.row
    exact List.mem_map.2 ⟨j, List.mem_range.2 hj, rfl⟩
   refine ⟨b, o, rfl, hlt _ (hmem 0 (by omega)), ?_⟩
   intro j v hj
   have hjl := (List.getElem?_eq_some_iff.1 hj).1
   rw [pcells_length] at hjl
   simp at hjl
   refine ⟨?_, hfz _ _ (hmem j (by omega))⟩
   have hk : j / 2 < len := by omega
   have hp : ((List.range len).map fun i => (numV (V0 i), numV (V1 i)))[j / 2]? = some (numV (V0 (j / 2)), numV (V1 (j / 2))) := by rw [List.getElem?_map, List.getElem?_range hk]; rfl
   obtain ⟨q0, q1⟩ := pcells_at _ _ _ _ hp
   obtain ⟨c0, c1, _, _⟩ := hcell (j / 2) (by omega)
   obtain ⟨v0, v1, _, _⟩ := hv (j / 2) (by omega)
   rw [Addr.add_lit] at c0 c1
   rcases Nat.mod_two_eq_zero_or_one j with e | e
   ·have ej : j / 2 * 2 = j := by omega
    rw [ej] at q0 c0
    rw [hj] at q0
    rw [c0, v0]
    exact q0.symm
   ·have ej : j / 2 * 2 + 1 = j := by omega
    rw [ej] at q1 c1
    rw [hj] at q1
    rw [c1, v1]
    exact q1.symm
  ·obtain ⟨hj, rfl, rfl⟩ := hat j x y h
   exact ⟨(hv j (by omega)).2.2.1, (hv j (by omega)).2.2.2⟩
theorem PSl.take {w : World} {a : Option Addr} {n cap m : Nat} {L : List Pt} (h : PSl w a n cap L) (h0 : 0 < m) (hm : m ≤ n) : PSl w a m cap (L.take m) := by
 refine ⟨by rw [List.length_take, h.len]; omega, Nat.le_trans hm h.room, (fun e => by have := (h.nil e).1; omega), ?_⟩
 rcases h.seg with e | ⟨b, o, e, hlt, hs⟩
 ·omega
 ·refine Or.inr ⟨b, o, e, hlt, ?_⟩
  have hp : pcells (L.take m) = (pcells L).take (m * 2) := by
   clear h hm hs e hlt h0
   induction L generalizing m with
   | nil => simp [pcells]
   | cons p l ih =>
    cases m with
    | zero => simp [pcells]
    | succ k =>
     rw [show (k + 1) * 2 = k * 2 + 1 + 1 by omega]
     simp only [List.take_succ_cons, pcells, ih]
  rw [hp]
  exact hs.take _
theorem infoPt : (Try.prog.info? 31).map (fun i => (i.zero, i.size, i.bytes)) = some (some (.agg #[.int .i64 0, .int .i64 0]), 2, 16) := by kernel_rfl
theorem pcells_one : ∀ (L : List Pt), ∀ v ∈ pcells L, v.oneCell' = true
 | [], v, h => by simp [pcells] at h
 | p :: l, v, h => by
  simp only [pcells, List.mem_cons] at h
  rcases h with rfl | rfl | h
  ·rfl
  ·rfl
  ·exact pcells_one l v h
theorem append_pts_run (w : World) (ty : TypeId) (a : Option Addr) (n cap : Nat) (L : List Pt) (hL : PSl w a n cap L) (hn : n ≤ 1000000) :
  ∃ a' cap' w', (Builtin.append_ #[22, 22] ty #[.slice (some ⟨w.heap.size, 0, none⟩) 0 0, .slice a n cap]).run Try.prog (w.alloc (.cells #[] 31)) = .ok (.slice a' n cap') w' ∧ PSl w' a' n cap' L ∧ Below w.heap.size w w' := by
 obtain ⟨i0, hi0, hz0, hz1, hz2⟩ := info_parts infoPt
 have hown0 : (w.alloc (.cells #[] 31)).ownsRow w.heap.size 31 2 (.slice (some ⟨w.heap.size, 0, none⟩) 0 0) 0 [] := World.ownsRow_lit w #[] 0 (Nat.le_refl _) (by decide) rfl
 have hB0 : Below w.heap.size w (w.alloc (.cells #[] 31)) := (Below.refl _ _).alloc (Nat.le_refl _) _
 have hL' := hL.below hB0
 cases a with
 | none =>
  obtain ⟨rfl, rfl⟩ := hL.nil rfl
  have hrun := run_append_owned_none (P := Try.prog) (w := w.alloc (.cells #[] 31)) w.heap.size 22 ty 31 i0 2 Try.underlying22 hi0 _ 0 [] hown0
  exact ⟨_, 0, _, hrun, ⟨hL.len, Nat.le_refl _, (fun h => by cases h), Or.inl rfl⟩, hB0⟩
 | some ad =>
  obtain ⟨v', w', hr, h2, h3, _, _⟩ := run_append_own_at (P := Try.prog) (w.alloc (.cells #[] 31)) w.heap.size 22 ty 31 i0 (.agg #[.int .i64 0, .int .i64 0]) 2 16 Try.underlying22 hi0 hz0 hz1 hz2 rfl (by decide) _ 0 [] hown0 ad n cap (pcells L) (by rw [pcells_length, hL.len]) (by
   intro j u hu
   have hj := (List.getElem?_eq_some_iff.1 hu).1
   rw [pcells_length, hL.len] at hj
   rcases hL'.seg with e | ⟨b, o, e, _, hs⟩
   ·omega
   ·cases e
    rw [Addr.add_lit]
    exact hs.cell j u hu) (pcells_one L) (by unfold maxLen; omega) (by omega) (by simp)
  rw [Nat.zero_add, List.nil_append] at h2
  have hbel : Below w.heap.size w w' := hB0.grown h3 (by simp) (fun k' hk' => by simp [Value.ownBlock] at hk'; omega)
  have h2' := h2
  obtain ⟨hl, ⟨e1, e2⟩ | ⟨g, cap', cur, hv, hb, hg, h4, h5, h6, h7⟩⟩ := h2
  ·subst e2
   subst e1
   exact ⟨none, 0, w', hr, ⟨hL.len, Nat.le_refl _, fun _ => ⟨rfl, rfl⟩, Or.inl rfl⟩, hbel⟩
  ·subst hv
   refine ⟨_, cap', w', hr, ⟨hL.len, h4, (fun h => by cases h), Or.inr ⟨g, 0, rfl, (Array.getElem?_eq_some_iff.1 hg).1, ?_⟩⟩, hbel⟩
   intro j u hu
   have hj := (List.getElem?_eq_some_iff.1 hu).1
   rw [Nat.zero_add]
   exact ⟨(World.ownsRow.cellAt h2' j (by omega)).trans hu, World.ownsRow.frozenAt h2' j⟩
end Go.Proofs.Ytkmgndaholglhaa
