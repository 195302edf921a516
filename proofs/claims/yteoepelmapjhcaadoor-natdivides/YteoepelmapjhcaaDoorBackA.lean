/-
  slices.Backward over a nat: what a loop over it is handed.
-/
import Derived.RangeFuncNested
import Derived.RangeFuncBound
import Derived.RangeFuncCalls
import Derived.RangeFuncLeaves
import Derived.RangeFuncBox
import Derived.Shelf.Abstract
import Derived.Shelf.RegionOpen
import Derived.WalkKit
import Derived.OwnWalkIn
import Derived.TacticsInMore
import Derived.LoopNIn
import Derived.LoopIn
import Derived.Test.YteoepelmapjhcaaDoorNatA
namespace Go.Proofs.YteoepelmapjhcaaDoor
open Go.RowKit Go.Shelf
set_option linter.unusedVariables false
attribute [local go_sem] Oper.semAt_some

/-- What has come when r are left: p, p - 1, .., r. -/
def dn (p r : Nat) : List (Fin (p + 1)) := (List.range (p + 1 - r)).map fun j => ⟨p - j, by omega⟩
theorem dn_start (p : Nat) : dn p (p + 1) = [] := by simp [dn]
theorem dn_next (p q : Nat) (h : q < p + 1) : dn p q = dn p (q + 1) ++ [⟨q, h⟩] := by
  unfold dn
  rw [show p + 1 - q = (p + 1 - (q + 1)) + 1 by omega, List.range_succ, List.map_append]
  congr 1
  simp
  omega
theorem dn_length (p r : Nat) : (dn p r).length = p + 1 - r := by simp [dn]
theorem dn_mem (p r : Nat) (x : Fin (p + 1)) : x ∈ dn p r ↔ r ≤ x.1 := by
  unfold dn
  simp only [List.mem_map, List.mem_range]
  refine ⟨fun ⟨j, hj, e⟩ => by rw [← e]; show r ≤ p - j; omega, fun h => ⟨p - x.1, by have := x.2; omega, by have := x.2; apply Fin.ext; show p - (p - x.1) = x.1; omega⟩⟩

set_option maxRecDepth 100000 in
set_option maxHeartbeats 2000000 in
theorem backward1_in (F : Fence) (n : Nat) (h7 : F.fn 63) (hro : F.round = none) (hn : 1 ≤ n) (l Bs n₀ b off p cap u : Nat) (hcap : p + 1 ≤ cap) (hreach : cap ≤ 9223372036854775807) (hb : b < n₀) (J Jx : List (Fin (p + 1)) → World → Prop)
    (hY : ∀ pre x W, J pre W → pre.length < p + 1 → YieldAt F (n - 1) Tryd.prog l #[.int .i64 ((x.1 : Nat) : Int), .int .u32 (wd.dg u x.1)] W fun e W' =>
      (e = .returned (.bool true) ∧ J (pre ++ [x]) W' ∧ Below n₀ W W') ∨ (e = .returned (.bool false) ∧ Jx (pre ++ [x]) W'))
    (W : World) (hBs : W.cell? ⟨Bs, 0, none⟩ = some (.slice (some ⟨b, off, none⟩) (p + 1) cap)) (hBn : Bs < n₀) (hc : Seg W b off (wd.dcells (p + 1) u)) (h0 : J [] W) :
    CallsIn F n Tryd.prog 63 #[.func (.yield l) #[] #[], .pointer (some ⟨Bs, 0, none⟩)] W fun e W' => (∃ v, e = .returned v) ∧
      ((∃ ys, ys = dn p 0 ∧ J ys W') ∨ (∃ pre, (∃ r, r ≤ p ∧ pre = dn p r) ∧ Jx pre W')) := by
  refine callsIn_of_wp Tryd.func63 rfl h7 ?_ hro
  simp only [Tryd.ntmps63, List.size_toArray, List.length_cons, List.length_nil, Nat.reduceAdd, Nat.reduceSub, Array.replicate_succ, Array.replicate_zero, List.push_toArray, List.append_toArray, List.nil_append, List.cons_append]
  gi_wp2
  gi_loopw [3] (fun i wr => ∃ r : Nat, r ≤ p + 1 ∧ i = .int .i64 ((r : Int) - 1) ∧ J (dn p r) wr ∧ Below n₀ W wr)
    (fun i _ => (intOf i + 1).toNat)
  case atStart => exact ⟨p + 1, Nat.le_refl _, by go_num, by rw [dn_start]; exact h0, Below.refl _ _⟩
  case round =>
    obtain ⟨r, hr, rfl, hJs, hnx⟩ := hrel
    have hBx : wr.cell? ⟨Bs, 0, none⟩ = some (.slice (some ⟨b, off, none⟩) (p + 1) cap) := (hnx.cell (p := ⟨Bs, 0, none⟩) hBn).trans hBs
    rcases r with _ | q
    · gi_wp2
      go_end0
      exact ⟨⟨_, rfl⟩, .inl ⟨_, rfl, hJs⟩⟩
    · have hcx : wr.cell? ⟨b, off + q, none⟩ = some (.int .u32 (wd.dg u q)) := (hnx.cell (p := ⟨b, off + q, none⟩) hb).trans (hc.cell q _ (wd.dcells_at _ _ _ (by omega)))
      obtain ⟨fn, tmps, assign, body, hy, hR⟩ := hY _ ⟨q, by omega⟩ wr hJs (by rw [dn_length]; omega)
      dsimp only at hy
      have e1 : ((q + 1 : Nat) : Int) - 1 = (q : Int) := by omega
      gi_wp2
      refine hR.mono ?_
      rintro e W3 (⟨rfl, hJ3, hk3⟩ | ⟨rfl, hJx3⟩)
      · -- THE ROUND GOES ON
        gi_wp2
        go_roundw
        case rel => exact ⟨q, by omega, by go_num, by rw [dn_next p q (by omega)]; exact hJ3, hnx.trans hk3⟩
        case measure => simp [intOf]
      · gi_wp2
        refine bodyPost_ret (results_none rfl _ _ _) rfl ?_
        exact ⟨⟨_, rfl⟩, .inr ⟨_, ⟨q, by omega, (dn_next p q (by omega)).symm⟩, hJx3⟩⟩

set_option maxHeartbeats 1000000 in
theorem backward_in (F : Fence) (n : Nat) (h5 : F.fn 48) (hro : F.round = none) (a : Option Addr) (len cap : Nat) (w : World) :
    CallsIn F n Tryd.prog 48 #[.slice a len cap] w fun e w' => e = .returned (.func (.func 63) #[] #[.pointer (some ⟨w.heap.size, 0, none⟩)]) ∧ w' = w.alloc (.cells #[.slice a len cap] 23) := by
  refine callsIn_of_wp Tryd.func48 rfl h5 ?_ hro
  simp only [Tryd.ntmps48, List.size_toArray, List.length_cons, List.length_nil, Nat.reduceAdd, Nat.reduceSub, Array.replicate_succ, Array.replicate_zero, List.push_toArray, List.append_toArray, List.nil_append, List.cons_append]
  gi_wp2
  go_ret
  exact ⟨rfl, rfl⟩

theorem backward_stops (F : Fence) (n : Nat) (h7 : F.fn 63) (hro : F.round = none) (hn : 1 ≤ n) (Bs n₀ p cap u : Nat) (a : Option Addr) (w : World) (hBs : Bs < w.heap.size) (hn₀ : n₀ ≤ w.heap.size) (hBn : Bs < n₀)
    (hc : w.cell? ⟨Bs, 0, none⟩ = some (.slice a (p + 1) cap)) (b off : Nat) (ha : a = some ⟨b, off, none⟩) (hb : b < n₀) (hcap : p + 1 ≤ cap) (hreach : cap ≤ 9223372036854775807) (hI : Seg w b off (wd.dcells (p + 1) u)) :
    SeqStopsK F n Tryd.prog 63 #[.pointer (some ⟨Bs, 0, none⟩)] (fun x : Fin (p + 1) => #[Value.int .i64 ((x.1 : Nat) : Int), Value.int .u32 (wd.dg u x.1)]) (Below n₀) (fun ys => ys = dn p 0)
      (fun pre => ∃ r, r ≤ p ∧ pre = dn p r) (p + 1) w := fun l J Jx W hW _ _ hY h0 => by
  subst ha
  have hc' := (hW.cell (p := ⟨Bs, 0, none⟩) hBs).trans hc
  exact backward1_in F n h7 hro hn l Bs n₀ b off p cap u hcap hreach hb J Jx hY W hc' hBn (hI.below hW (by omega)) h0
set_option maxRecDepth 100000 in
set_option maxHeartbeats 1000000 in
/-- .. at a slice without elements: no round. -/
theorem backward_nil_stops (F : Fence) (n : Nat) (h7 : F.fn 63) (hro : F.round = none) (Bs n₀ cap : Nat) (a : Option Addr) (w : World) (hBs : Bs < w.heap.size) (hc : w.cell? ⟨Bs, 0, none⟩ = some (.slice a 0 cap)) (enc : Empty → Array Value) :
    SeqStopsK F n Tryd.prog 63 #[.pointer (some ⟨Bs, 0, none⟩)] enc (Below n₀) (fun ys => ys = []) (fun _ => True) 0 w := fun l J Jx W hW _ _ hY h0 => by
  have hc' := (hW.cell (p := ⟨Bs, 0, none⟩) hBs).trans hc
  refine callsIn_of_wp Tryd.func63 rfl h7 ?_ hro
  simp only [Tryd.ntmps63, List.size_toArray, List.length_cons, List.length_nil, Nat.reduceAdd, Nat.reduceSub, Array.replicate_succ, Array.replicate_zero, List.push_toArray, List.append_toArray, List.nil_append, List.cons_append]
  gi_wp2
  gi_loopw [3] (fun i wr => i = .int .i64 (-1) ∧ J [] wr) (fun _ _ => 0)
  case atStart => exact ⟨rfl, h0⟩
  case round =>
    obtain ⟨rfl, hJs⟩ := hrel
    gi_wp2
    go_end0
    exact ⟨⟨_, rfl⟩, .inl ⟨_, rfl, hJs⟩⟩
end Go.Proofs.YteoepelmapjhcaaDoor
