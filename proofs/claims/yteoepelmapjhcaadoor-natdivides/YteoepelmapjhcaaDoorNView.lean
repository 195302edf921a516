/-
  A nat that comes as an argument, opened.
-/
import Derived.Test.YteoepelmapjhcaaDoorNatA
import Derived.ProofKit
import Derived.OpenShut
import Derived.ChangeSlices
namespace Go.Proofs.YteoepelmapjhcaaDoor
open Go.ChangeShapes Go.WideShapes Go.ChangeAt Go.RowKit
set_option linter.unusedVariables false

theorem cellsWord : Tryd.prog.cellsOf 44 = 1 := by kernel_rfl
theorem laidOutAll : laidOutB Tryd.prog = true := by kernel_rfl
theorem bd_u32 {x : Int} (h : (Lit.int .u32 x).wf = true) : 0 ≤ x ∧ x < 4294967296 := by
  have h1 : IntKind.u32.min = 0 := rfl
  have h2 : IntKind.u32.max = 4294967295 := rfl
  simp only [Lit.wf, Bool.and_eq_true, decide_eq_true_eq, h1, h2] at h
  omega
theorem bd_u64 {x : Int} (h : (Lit.int .u64 x).wf = true) : 0 ≤ x ∧ x < 18446744073709551616 := by
  have h1 : IntKind.u64.min = 0 := rfl
  have h2 : IntKind.u64.max = 18446744073709551615 := rfl
  simp only [Lit.wf, Bool.and_eq_true, decide_eq_true_eq, h1, h2] at h
  omega
theorem nat_view {H : Type} {enc : TypeId × Value → H} {W : World} {fuel : Nat} {a0 : Option Addr} {len cap : Nat} {d : DataW H} {p : List MemPlace}
    (hf : DataW.trod enc Tryd.prog W 0 (fun _ => true) true fuel 23 (Value.slice a0 len cap).cells.toList = some (d, p)) (hfz : W.noneFrozen p) (hlt : ∀ x ∈ p, x.block < W.heap.size) :
    ∃ u : Nat, u < 4294967296 ^ len ∧ Sl W a0 len cap (wd.dcells len (u : Int)) := by
  rcases open_ints Tryd.underlying23 Tryd.underlying44 cellsWord hf with ⟨hcs, hx⟩ | ⟨a, len', cap', zs, hcs, _, hl, hm, hz, hx, hcell, hwz⟩
  · simp [Value.cells] at hcs
    obtain ⟨rfl, rfl, rfl⟩ := hcs
    exact ⟨0, by decide, sl_nil W⟩
  · simp [Value.cells] at hcs
    obtain ⟨rfl, rfl, rfl⟩ := hcs
    simp only [Prod.mk.injEq] at hx
    obtain ⟨rfl, rfl⟩ := hx
    simp only [if_true] at hz
    have hlen : (zs.take len).length = len := by simp; omega
    obtain ⟨u, hu, e⟩ := wd.digits_num (zs.take len) (fun z hz' => bd_u32 (hwz z (List.mem_of_mem_take hz')))
    rw [hlen] at hu e
    refine ⟨u, hu, wd.dcells_length _ _, hl, hm, (fun h => by cases h), ?_⟩
    rcases Nat.eq_zero_or_pos len with h0 | h0
    · exact Or.inl h0
    · right
      have hsp : a.spot = none := by
        have h1 := hcell 0 (by omega)
        rw [show a.add 0 = a from rfl] at h1
        unfold World.cell? at h1
        split at h1
        · split at h1
          · cases h1
          · rename_i hs
            simpa using hs
        · cases h1
      obtain ⟨b, o, sp⟩ := a
      dsimp only at hsp
      subst hsp
      have hmem : ∀ j, j < zs.length → MemPlace.cell b (o + j) ∈ MemPlace.row ⟨b, o, none⟩ zs.length := fun j hj => by
        unfold MemPlace.row
        exact List.mem_map.2 ⟨j, List.mem_range.2 hj, rfl⟩
      refine ⟨b, o, rfl, hlt _ (hmem 0 (by omega)), ?_⟩
      intro j v hv
      have hj := (List.getElem?_eq_some_iff.1 hv).1
      rw [wd.dcells_length] at hj
      refine ⟨?_, hfz _ _ (hmem j (by omega))⟩
      have h1 := hcell j (by omega)
      rw [Addr.add_lit] at h1
      rw [h1]
      rw [← e, List.getElem?_map, List.getElem?_take, if_pos hj, List.getElem?_eq_getElem (by omega)] at hv
      simp only [Option.map_some, Option.some.injEq] at hv
      rw [← hv, List.getD, List.getElem?_eq_getElem (by omega)]
      rfl
end Go.Proofs.YteoepelmapjhcaaDoor
