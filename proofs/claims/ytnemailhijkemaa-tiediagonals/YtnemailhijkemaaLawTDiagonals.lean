/-
  TieDiagonals: of four points that turn left all the way just one diagonal is taken, whichever triangle is asked.
-/
import Derived.Test.YtnemailhijkemaaChecked
import Derived.Test.YtnemailhijkemaaRows
import Derived.Test.YtnemailhijkemaaP15
import Derived.Test.YtnemailhijkemaaP7
import Derived.Deep.RegionHeld3
import Derived.ProofKit
import Derived.OpenShut
import Derived.Lib.SmallJoins
namespace Go.Proofs.Ytnemailhijkemaa
open Go.RowKit
set_option linter.unusedVariables false

namespace tdiagonals
open Go.ChangeShapes Go.WideShapes Go.ChangeAt Go.Joins
def SpT : Nat → Value → (World → Prop) → (Nat → Prop) → Prop
  | _ => ValIs undef
theorem SpT_good : GoodSp (SpT ) := fun j x R A h => match j with
  | _ => valIs_good h
def SpTZ : Nat → List Value
  | 0 => [.int .i64 0, .int .i64 0]
  | 1 => [.int .i64 0, .int .i64 0]
  | 2 => [.int .i64 0, .int .i64 0]
  | _ => []
theorem fuel_SpT_e0 {eD : Nat → Bool} {f : Nat} (hf : f = 3 + (nb (eD 0) + nb (eD 1) + nb (eD 2))) (h : eD 0 = false) : f - 1 = 3 + (nb (upd eD 0 true 0) + nb (upd eD 0 true 1) + nb (upd eD 0 true 2)) := by
  have h1 : nb (eD 0) = 1 := by rw [h]; rfl
  have h2 : nb (upd eD 0 true 0) = 0 := rfl
  have q1 : nb (upd eD 0 true 1) = nb (eD 1) := rfl
  have q2 : nb (upd eD 0 true 2) = nb (eD 2) := rfl
  omega
theorem fuel_SpT_e1 {eD : Nat → Bool} {f : Nat} (hf : f = 3 + (nb (eD 0) + nb (eD 1) + nb (eD 2))) (h : eD 1 = false) : f - 1 = 3 + (nb (upd eD 1 true 0) + nb (upd eD 1 true 1) + nb (upd eD 1 true 2)) := by
  have h1 : nb (eD 1) = 1 := by rw [h]; rfl
  have h2 : nb (upd eD 1 true 1) = 0 := rfl
  have q0 : nb (upd eD 1 true 0) = nb (eD 0) := rfl
  have q2 : nb (upd eD 1 true 2) = nb (eD 2) := rfl
  omega
theorem fuel_SpT_e2 {eD : Nat → Bool} {f : Nat} (hf : f = 3 + (nb (eD 0) + nb (eD 1) + nb (eD 2))) (h : eD 2 = false) : f - 1 = 3 + (nb (upd eD 2 true 0) + nb (upd eD 2 true 1) + nb (upd eD 2 true 2)) := by
  have h1 : nb (eD 2) = 1 := by rw [h]; rfl
  have h2 : nb (upd eD 2 true 2) = 0 := rfl
  have q0 : nb (upd eD 2 true 0) = nb (eD 0) := rfl
  have q1 : nb (upd eD 2 true 1) = nb (eD 1) := rfl
  omega
set_option maxRecDepth 100000 in
set_option maxHeartbeats 20000000 in
theorem walk (a1 a2 : Int) (ha1_1 : -9223372036854775808 ≤ a1) (ha1_2 : a1 ≤ 9223372036854775807) (ha2_1 : -9223372036854775808 ≤ a2) (ha2_2 : a2 ≤ 9223372036854775807) (b1 b2 : Int) (hb1_1 : -9223372036854775808 ≤ b1) (hb1_2 : b1 ≤ 9223372036854775807) (hb2_1 : -9223372036854775808 ≤ b2) (hb2_2 : b2 ≤ 9223372036854775807) (c1 c2 : Int) (hc1_1 : -9223372036854775808 ≤ c1) (hc1_2 : c1 ≤ 9223372036854775807) (hc2_1 : -9223372036854775808 ≤ c2) (hc2_2 : c2 ≤ 9223372036854775807) (d1 d2 : Int) (hd1_1 : -9223372036854775808 ≤ d1) (hd1_2 : d1 ≤ 9223372036854775807) (hd2_1 : -9223372036854775808 ≤ d2) (hd2_2 : d2 ≤ 9223372036854775807) (w : World) :
    Calls Try.prog 5 #[.agg #[.int .i64 a1, .int .i64 a2, .int .i64 b1, .int .i64 b2, .int .i64 c1, .int .i64 c2], .agg #[.int .i64 d1, .int .i64 d2]] w fun e w' => e = .returned (.bool true) ∧ Below w.heap.size w w' := by
  have Ra : Hid (R2 (a1, a2)) := ⟨⟨ha1_1, ha1_2⟩, ⟨ha2_1, ha2_2⟩⟩
  have Rb : Hid (R2 (b1, b2)) := ⟨⟨hb1_1, hb1_2⟩, ⟨hb2_1, hb2_2⟩⟩
  have Rc : Hid (R2 (c1, c2)) := ⟨⟨hc1_1, hc1_2⟩, ⟨hc2_1, hc2_2⟩⟩
  have Rd : Hid (R2 (d1, d2)) := ⟨⟨hd1_1, hd1_2⟩, ⟨hd2_1, hd2_2⟩⟩
  clear ha1_1 ha1_2 ha2_1 ha2_2 hb1_1 hb1_2 hb2_1 hb2_2 hc1_1 hc1_2 hc2_1 hc2_2 hd1_1 hd1_2 hd2_1 hd2_2
  obtain ⟨W, hW, bW, x_t, x_d, sW⟩ := bs_62 w (.int .i64 a1) (.int .i64 a2) (.int .i64 b1) (.int .i64 b2) (.int .i64 c1) (.int .i64 c2) (.int .i64 d1) (.int .i64 d2) 24 23
  have zbW := bW.size
  have BB := bW
  go_enter Try.func5, Try.ntmps5
  go_wp2
  rw [← hW]
  clear hW
  obtain ⟨QQ, hQQ⟩ : ∃ QQ : Exit → Act → World → Prop, QQ = fun e act wr => e = .normal ∧ ∃ (pma0 : Nat) (pma1 : Nat) (pma2 : Nat) , act = ⟨#[.agg #[.int .i64 a1, .int .i64 a2, .int .i64 b1, .int .i64 b2, .int .i64 c1, .int .i64 c2], .agg #[.int .i64 d1, .int .i64 d2], .pointer (some ⟨w.heap.size, 0, none⟩), .pointer (some ⟨w.heap.size + 1, 0, none⟩), .bool false, .pointer (some ⟨pma0, 0, none⟩), .pointer (some ⟨pma1, 0, none⟩), .pointer (some ⟨pma2, 0, none⟩), undef, .pointer (some ⟨w.heap.size, 0, none⟩), .agg #[.int .i64 a1, .int .i64 a2], .pointer (some ⟨w.heap.size, 2, none⟩), .agg #[.int .i64 b1, .int .i64 b2], .pointer (some ⟨w.heap.size, 4, none⟩), .agg #[.int .i64 c1, .int .i64 c2], undef, undef, undef, undef, undef, undef, undef, undef, undef, undef, undef, undef, undef, undef, undef, undef, undef, undef, undef, undef, undef, undef, undef, undef, undef, undef, undef, undef, undef, undef, undef, undef, undef, undef, undef, undef, undef, undef, undef, undef, undef, undef, undef, undef, undef, undef, undef, undef, undef, undef, undef, undef, undef, undef, undef, undef, undef, undef, undef, undef, undef, undef, undef, undef, undef, undef, undef, undef, undef, undef], []⟩ ∧ B6 wr (w.heap.size) (.int .i64 a1) (.int .i64 a2) (.int .i64 b1) (.int .i64 b2) (.int .i64 c1) (.int .i64 c2) ∧ Bx wr (w.heap.size + 1) (.int .i64 d1) (.int .i64 d2) ∧ Bx wr pma0 (.int .i64 a1) (.int .i64 a2) ∧ Bx wr pma1 (.int .i64 b1) (.int .i64 b2) ∧ Bx wr pma2 (.int .i64 c1) (.int .i64 c2) ∧ Below w.heap.size w wr ∧ W.heap.size ≤ wr.heap.size ∧ (W.heap.size ≤ pma0 ∧ pma0 < wr.heap.size) ∧ (W.heap.size ≤ pma1 ∧ pma1 < wr.heap.size) ∧ (W.heap.size ≤ pma2 ∧ pma2 < wr.heap.size) := ⟨_, rfl⟩
  have HQQ : Hid _ := hQQ
  clear hQQ
  refine wp_mono (Q := QQ) ?_ ?_
  · refine wp_region_held_drew (S := (fun w' => w'.cell? ⟨w.heap.size, 0, none⟩ = some (.int .i64 a1) ∧ w'.cell? ⟨w.heap.size, 1, none⟩ = some (.int .i64 a2) ∧ w'.cell? ⟨w.heap.size, 2, none⟩ = some (.int .i64 b1) ∧ w'.cell? ⟨w.heap.size, 3, none⟩ = some (.int .i64 b2) ∧ w'.cell? ⟨w.heap.size, 4, none⟩ = some (.int .i64 c1) ∧ w'.cell? ⟨w.heap.size, 5, none⟩ = some (.int .i64 c2) ∧ Below w.heap.size w w')) (by kernel_rfl) ?_ (fun hHeld => ?_)
    · exact ⟨x_t.c0, x_t.c1, x_t.c2, x_t.c3, x_t.c4, x_t.c5, BB.drew⟩
    refine take_yes (i := 0) (v := ?vma0x1) rfl (by kernel_rfl) (by kernel_rfl) (by kernel_rfl) (fun _ _ _ h => by rw [HQQ.out] at h; exact Exit.noConfusion h.1) (by rfl) (by assumption) ?hyma0x1 ?restma0x1
    case hyma0x1 => (intro w hSw; (try dsimp only at hSw); first | (go_simp; done) | (go_simp; with_reducible rfl))
    simp only [Act.put, List.setIfInBounds_toArray, List.set_cons_zero, List.set_cons_succ]
    refine take_yes (i := 1) (v := ?vma1x2) rfl (by kernel_rfl) (by kernel_rfl) (by kernel_rfl) (fun _ _ _ h => by rw [HQQ.out] at h; exact Exit.noConfusion h.1) (by rfl) (by assumption) ?hyma1x2 ?restma1x2
    case hyma1x2 => (intro w hSw; (try dsimp only at hSw); first | (go_simp; done) | (go_simp; with_reducible rfl))
    simp only [Act.put, List.setIfInBounds_toArray, List.set_cons_zero, List.set_cons_succ]
    refine take_yes (i := 2) (v := ?vma2x3) rfl (by kernel_rfl) (by kernel_rfl) (by kernel_rfl) (fun _ _ _ h => by rw [HQQ.out] at h; exact Exit.noConfusion h.1) (by rfl) (by assumption) ?hyma2x3 ?restma2x3
    case hyma2x3 => (intro w hSw; (try dsimp only at hSw); first | (go_simp; done) | (go_simp; with_reducible rfl))
    simp only [Act.put, List.setIfInBounds_toArray, List.set_cons_zero, List.set_cons_succ]
    refine take_yes (i := 3) (v := ?vma3x4) rfl (by kernel_rfl) (by kernel_rfl) (by kernel_rfl) (fun _ _ _ h => by rw [HQQ.out] at h; exact Exit.noConfusion h.1) (by rfl) (by assumption) ?hyma3x4 ?restma3x4
    case hyma3x4 => (intro w hSw; (try dsimp only at hSw); first | (go_simp; done) | (go_simp; with_reducible rfl))
    simp only [Act.put, List.setIfInBounds_toArray, List.set_cons_zero, List.set_cons_succ]
    refine take_yes (i := 4) (v := ?vma4x5) rfl (by kernel_rfl) (by kernel_rfl) (by kernel_rfl) (fun _ _ _ h => by rw [HQQ.out] at h; exact Exit.noConfusion h.1) (by rfl) (by assumption) ?hyma4x5 ?restma4x5
    case hyma4x5 => (intro w hSw; (try dsimp only at hSw); first | (go_simp; done) | (go_simp; with_reducible rfl))
    simp only [Act.put, List.setIfInBounds_toArray, List.set_cons_zero, List.set_cons_succ]
    refine take_yes (i := 5) (v := ?vma5x6) rfl (by kernel_rfl) (by kernel_rfl) (by kernel_rfl) (fun _ _ _ h => by rw [HQQ.out] at h; exact Exit.noConfusion h.1) (by rfl) (by assumption) ?hyma5x6 ?restma5x6
    case hyma5x6 => (intro w hSw; (try dsimp only at hSw); first | (go_simp; done) | (go_simp; with_reducible rfl))
    simp only [Act.put, List.setIfInBounds_toArray, List.set_cons_zero, List.set_cons_succ]
    clear hHeld
    obtain ⟨INV, hINV⟩ : ∃ INV : Nat → Array Bool → Act → World → Prop, INV = fun f L act wr => ∃ (bD eD : Nat → Bool) (pD : Nat → Nat) (RD : Nat → World → Prop) (AD : Nat → Nat → Prop) (uD vD : Nat → Value), f = 3 + (nb (eD 0) + nb (eD 1) + nb (eD 2)) ∧ L = #[true, true, true, true, true, true, eD 0, eD 1, eD 2, false, false, false] ∧ act = ⟨#[.agg #[.int .i64 a1, .int .i64 a2, .int .i64 b1, .int .i64 b2, .int .i64 c1, .int .i64 c2], .agg #[.int .i64 d1, .int .i64 d2], .pointer (some ⟨w.heap.size, 0, none⟩), .pointer (some ⟨w.heap.size + 1, 0, none⟩), .bool false, vD 0, vD 1, vD 2, undef, .pointer (some ⟨w.heap.size, 0, none⟩), .agg #[.int .i64 a1, .int .i64 a2], .pointer (some ⟨w.heap.size, 2, none⟩), .agg #[.int .i64 b1, .int .i64 b2], .pointer (some ⟨w.heap.size, 4, none⟩), .agg #[.int .i64 c1, .int .i64 c2], undef, undef, undef, undef, undef, undef, undef, undef, undef, undef, undef, undef, undef, undef, undef, undef, undef, undef, undef, undef, undef, undef, undef, undef, undef, undef, undef, undef, undef, undef, undef, undef, undef, undef, undef, undef, undef, undef, undef, undef, undef, undef, undef, undef, undef, undef, undef, undef, undef, undef, undef, undef, undef, undef, undef, undef, undef, undef, undef, undef, undef, undef, undef, undef, undef, undef, undef, undef, undef, undef], []⟩ ∧ Mk W SpTZ (SpT ) bD eD pD RD AD uD vD wr := ⟨_, rfl⟩
    have HINV : Hid _ := hINV
    clear hINV
    refine phase INV ?stepma _ _ _ _ ?initma
    case initma => rw [HINV.out]; exact ⟨fun _ => false, fun _ => false, fun _ => 0, fun _ _ => True, fun _ _ => True, fun _ => undef, fun _ => undef, rfl, rfl, rfl, Mk.start _ _ _ (Below.refl _ _).drew⟩
    intro f L act wr hinv
    rw [HINV.out] at hinv
    obtain ⟨bD, eD, pD, RD, AD, uD, vD, hf, rfl, rfl, hm⟩ := hinv
    by_cases hall : eD 0 = true ∧ eD 1 = true ∧ eD 2 = true
    · refine Or.inl ?_
      obtain ⟨he0, he1, he2⟩ := hall
      simp only [he0, he1, he2, nb] at hf
      subst hf
      rw [he0, he1, he2, hm.ptr 0 he0, hm.ptr 1 he1, hm.ptr 2 he2]
      have y_pma0 : Bx wr (pD 0) (.int .i64 0) (.int .i64 0) := bx_row (hm.blk 0 he0)
      have gpma0 := hm.old 0 he0
      have ltpma0 := hm.lt 0 he0
      have y_pma1 : Bx wr (pD 1) (.int .i64 0) (.int .i64 0) := bx_row (hm.blk 1 he1)
      have gpma1 := hm.old 1 he1
      have ltpma1 := hm.lt 1 he1
      have y_pma2 : Bx wr (pD 2) (.int .i64 0) (.int .i64 0) := bx_row (hm.blk 2 he2)
      have gpma2 := hm.old 2 he2
      have ltpma2 := hm.lt 2 he2
      have ne_0_1 : pD 0 ≠ pD 1 := hm.ne 0 1 he0 he1 (by decide)
      have ne_0_2 : pD 0 ≠ pD 2 := hm.ne 0 2 he0 he2 (by decide)
      have ne_1_2 : pD 1 ≠ pD 2 := hm.ne 1 2 he1 he2 (by decide)
      have BU := hm.bel
      replace x_t := x_t.on BU
      replace x_d := x_d.on BU
      replace BB := also BB BU
      have hHeld : ((fun w' => w'.cell? ⟨w.heap.size, 0, none⟩ = some (.int .i64 a1) ∧ w'.cell? ⟨w.heap.size, 1, none⟩ = some (.int .i64 a2) ∧ w'.cell? ⟨w.heap.size, 2, none⟩ = some (.int .i64 b1) ∧ w'.cell? ⟨w.heap.size, 3, none⟩ = some (.int .i64 b2) ∧ w'.cell? ⟨w.heap.size, 4, none⟩ = some (.int .i64 c1) ∧ w'.cell? ⟨w.heap.size, 5, none⟩ = some (.int .i64 c2) ∧ Below w.heap.size w w')) wr := ⟨x_t.c0, x_t.c1, x_t.c2, x_t.c3, x_t.c4, x_t.c5, BB⟩
      clear hm HINV INV 
      generalize pD 0 = pma0 at *
      generalize pD 1 = pma1 at *
      generalize pD 2 = pma2 at *
      dsimp only at hHeld
      have ⟨c_pma0_0, c_pma0_1, c_pma0_2, c_pma0_3⟩ : Bx wr pma0 (.int .i64 0) (.int .i64 0) := y_pma0
      refine take_call (i := 9) rfl (by kernel_rfl) (fun Kc hK => ?_)
      go_simp
      refine hK.out _ _ ⟨cell_put2 hHeld.1 (by omega) _ _, cell_put2 hHeld.2.1 (by omega) _ _, cell_put2 hHeld.2.2.1 (by omega) _ _, cell_put2 hHeld.2.2.2.1 (by omega) _ _, cell_put2 hHeld.2.2.2.2.1 (by omega) _ _, cell_put2 hHeld.2.2.2.2.2.1 (by omega) _ _, below_put2 hHeld.2.2.2.2.2.2 (by omega) _ _⟩ (fun hHeld => ?_)
      clear hK Kc
      have ⟨c_pma1_0, c_pma1_1, c_pma1_2, c_pma1_3⟩ : Bx ((wr.setCell ⟨pma0, 0, none⟩ (.int .i64 a1)).setCell ⟨pma0, 1, none⟩ (.int .i64 a2)) pma1 (.int .i64 0) (.int .i64 0) := ((y_pma1.put ne_0_1).put ne_0_1)
      refine take_call (i := 10) rfl (by kernel_rfl) (fun Kc hK => ?_)
      go_simp
      refine hK.out _ _ ⟨cell_put2 hHeld.1 (by omega) _ _, cell_put2 hHeld.2.1 (by omega) _ _, cell_put2 hHeld.2.2.1 (by omega) _ _, cell_put2 hHeld.2.2.2.1 (by omega) _ _, cell_put2 hHeld.2.2.2.2.1 (by omega) _ _, cell_put2 hHeld.2.2.2.2.2.1 (by omega) _ _, below_put2 hHeld.2.2.2.2.2.2 (by omega) _ _⟩ (fun hHeld => ?_)
      clear hK Kc
      have ⟨c_pma2_0, c_pma2_1, c_pma2_2, c_pma2_3⟩ : Bx ((((wr.setCell ⟨pma0, 0, none⟩ (.int .i64 a1)).setCell ⟨pma0, 1, none⟩ (.int .i64 a2)).setCell ⟨pma1, 0, none⟩ (.int .i64 b1)).setCell ⟨pma1, 1, none⟩ (.int .i64 b2)) pma2 (.int .i64 0) (.int .i64 0) := ((((y_pma2.put ne_0_2).put ne_0_2).put ne_1_2).put ne_1_2)
      refine take_call (i := 11) rfl (by kernel_rfl) (fun Kc hK => ?_)
      go_simp
      refine hK.out _ _ ⟨cell_put2 hHeld.1 (by omega) _ _, cell_put2 hHeld.2.1 (by omega) _ _, cell_put2 hHeld.2.2.1 (by omega) _ _, cell_put2 hHeld.2.2.2.1 (by omega) _ _, cell_put2 hHeld.2.2.2.2.1 (by omega) _ _, cell_put2 hHeld.2.2.2.2.2.1 (by omega) _ _, below_put2 hHeld.2.2.2.2.2.2 (by omega) _ _⟩ (fun hHeld => ?_)
      clear hK Kc
      refine wpAnyH_done (by kernel_rfl) ?_ _
      rw [HQQ.out]
      exact ⟨rfl, pma0, pma1, pma2, rfl, ((((((x_t.put (by omega)).put (by omega)).put (by omega)).put (by omega)).put (by omega)).put (by omega)), ((((((x_d.put (by omega)).put (by omega)).put (by omega)).put (by omega)).put (by omega)).put (by omega)), ((((y_pma0.set.put (fun e => ne_0_1 e.symm)).put (fun e => ne_0_1 e.symm)).put (fun e => ne_0_2 e.symm)).put (fun e => ne_0_2 e.symm)), ((((y_pma1.put ne_0_1).put ne_0_1).set.put (fun e => ne_1_2 e.symm)).put (fun e => ne_1_2 e.symm)), ((((y_pma2.put ne_0_2).put ne_0_2).put ne_1_2).put ne_1_2).set, (below_put2 (below_put2 (below_put2 BB (by omega) _ _) (by omega) _ _) (by omega) _ _), by have := BU.size; simp only [World.size_setCell]; omega, ⟨gpma0, by simp only [World.size_setCell]; omega⟩, ⟨gpma1, by simp only [World.size_setCell]; omega⟩, ⟨gpma2, by simp only [World.size_setCell]; omega⟩⟩
    · refine Or.inr ⟨f - 1, by omega, ?nema, ?opsma⟩
      case nema =>
        cases he0 : eD 0
        · exact ready_ne (i := 6) (by decide) (by kernel_rfl)
        cases he1 : eD 1
        · exact ready_ne (i := 7) (by decide) (by kernel_rfl)
        cases he2 : eD 2
        · exact ready_ne (i := 8) (by decide) (by kernel_rfl)
        exact absurd ⟨he0, he1, he2⟩ hall
      case opsma =>
        intro i hi
        obtain ⟨hlt, hnot, hdep⟩ := ready_at hi
        replace hlt : i < 12 := hlt
        obtain rfl | rfl | rfl | rfl | rfl | rfl | rfl | rfl | rfl | rfl | rfl | rfl : i = 0 ∨ i = 1 ∨ i = 2 ∨ i = 3 ∨ i = 4 ∨ i = 5 ∨ i = 6 ∨ i = 7 ∨ i = 8 ∨ i = 9 ∨ i = 10 ∨ i = 11 := by omega
        · skip
          exact Bool.noConfusion (show true = false from hnot)
        · skip
          exact Bool.noConfusion (show true = false from hnot)
        · skip
          exact Bool.noConfusion (show true = false from hnot)
        · skip
          exact Bool.noConfusion (show true = false from hnot)
        · skip
          exact Bool.noConfusion (show true = false from hnot)
        · skip
          exact Bool.noConfusion (show true = false from hnot)
        · skip
          have hei : eD 0 = false := hnot
          refine ⟨_, rfl, fun K' hK => ?_⟩
          go_simp
          have hm' := hm.alloc (SpT_good ) 0 23 hei
          refine hK.out _ _ ⟨cell_on hm'.bel x_t.c0, cell_on hm'.bel x_t.c1, cell_on hm'.bel x_t.c2, cell_on hm'.bel x_t.c3, cell_on hm'.bel x_t.c4, cell_on hm'.bel x_t.c5, also BB hm'.bel⟩ ?_
          rw [HINV.out]
          exact ⟨bD, upd eD 0 true, upd pD 0 wr.heap.size, RD, AD, uD, upd vD 0 (.pointer (some ⟨wr.heap.size, 0, none⟩)), fuel_SpT_e0 hf hei, rfl, rfl, hm'⟩
        · skip
          have hei : eD 1 = false := hnot
          refine ⟨_, rfl, fun K' hK => ?_⟩
          go_simp
          have hm' := hm.alloc (SpT_good ) 1 23 hei
          refine hK.out _ _ ⟨cell_on hm'.bel x_t.c0, cell_on hm'.bel x_t.c1, cell_on hm'.bel x_t.c2, cell_on hm'.bel x_t.c3, cell_on hm'.bel x_t.c4, cell_on hm'.bel x_t.c5, also BB hm'.bel⟩ ?_
          rw [HINV.out]
          exact ⟨bD, upd eD 1 true, upd pD 1 wr.heap.size, RD, AD, uD, upd vD 1 (.pointer (some ⟨wr.heap.size, 0, none⟩)), fuel_SpT_e1 hf hei, rfl, rfl, hm'⟩
        · skip
          have hei : eD 2 = false := hnot
          refine ⟨_, rfl, fun K' hK => ?_⟩
          go_simp
          have hm' := hm.alloc (SpT_good ) 2 23 hei
          refine hK.out _ _ ⟨cell_on hm'.bel x_t.c0, cell_on hm'.bel x_t.c1, cell_on hm'.bel x_t.c2, cell_on hm'.bel x_t.c3, cell_on hm'.bel x_t.c4, cell_on hm'.bel x_t.c5, also BB hm'.bel⟩ ?_
          rw [HINV.out]
          exact ⟨bD, upd eD 2 true, upd pD 2 wr.heap.size, RD, AD, uD, upd vD 2 (.pointer (some ⟨wr.heap.size, 0, none⟩)), fuel_SpT_e2 hf hei, rfl, rfl, hm'⟩
        · skip
          exact absurd ⟨hdep _ rfl 0 _ rfl rfl, hdep _ rfl 9 _ rfl rfl, hdep _ rfl 10 _ rfl rfl⟩ hall
        · skip
          exact Bool.noConfusion (show false = true from hdep _ rfl 2 _ rfl rfl)
        · skip
          exact Bool.noConfusion (show false = true from hdep _ rfl 2 _ rfl rfl)
  rw [HQQ.out]
  rintro e act Y1 ⟨rfl, pma0, pma1, pma2, rfl, x_t, x_d, x_a, x_b, x_c, BB, z_Y1, z_Y1_pma0, z_Y1_pma1, z_Y1_pma2⟩
  clear HQQ QQ
  try dsimp only
  cases hq : canAll [(a1, a2), (b1, b2), (c1, c2), (d1, d2)]
  · skip
    have HQ : Hid _ := hq.symm
    clear hq
    have ⟨x_a_0, x_a_1, x_a_2, x_a_3⟩ := x_a
    have ⟨x_b_0, x_b_1, x_b_2, x_b_3⟩ := x_b
    have ⟨x_c_0, x_c_1, x_c_2, x_c_3⟩ := x_c
    have ⟨x_d_0, x_d_1, x_d_2, x_d_3⟩ := x_d
    go_wp2_with (go_at_call 11; fail)
    refine (rtCan a1 a2 b1 b2 c1 c2 d1 d2 Y1 Ra Rb Rc Rd HQ.out).mono ?_
    rintro e w1 ⟨rfl, bw1⟩
    clear x_a_0 x_a_1 x_a_2 x_a_3 x_b_0 x_b_1 x_b_2 x_b_3 x_c_0 x_c_1 x_c_2 x_c_3 x_d_0 x_d_1 x_d_2 x_d_3
    have zbw1 := bw1.size
    replace BB := also BB bw1
    replace x_t := x_t.on bw1
    replace x_d := x_d.on bw1
    replace x_a := x_a.on bw1
    replace x_b := x_b.on bw1
    replace x_c := x_c.on bw1
    have ⟨x_a_0, x_a_1, x_a_2, x_a_3⟩ := x_a
    have ⟨x_b_0, x_b_1, x_b_2, x_b_3⟩ := x_b
    have ⟨x_c_0, x_c_1, x_c_2, x_c_3⟩ := x_c
    have ⟨x_d_0, x_d_1, x_d_2, x_d_3⟩ := x_d
    go_wp2_with (go_at_call 10; fail)
    refine (lives8_any w1).mono ?_
    rintro e x9 ⟨rfl, bx9⟩
    clear x_a_0 x_a_1 x_a_2 x_a_3 x_b_0 x_b_1 x_b_2 x_b_3 x_c_0 x_c_1 x_c_2 x_c_3 x_d_0 x_d_1 x_d_2 x_d_3
    have zbx9 := bx9.size
    replace BB := also BB bx9
    replace x_t := x_t.on bx9
    replace x_d := x_d.on bx9
    replace x_a := x_a.on bx9
    replace x_b := x_b.on bx9
    replace x_c := x_c.on bx9
    go_wp2
    go_ret
    exact ⟨rfl, BB⟩
  · skip
    cases l0 : leftQ (a1, a2) (b1, b2) (c1, c2)
    · skip
      obtain ⟨ha, hb, hc, hd⟩ := can4.1 hq
      obtain ⟨g0, hg0⟩ : ∃ g, g = (areaP a1 a2 b1 b2 c1 c2).sign := ⟨_, rfl⟩
      have e0 := (left_area (a := (a1, a2)) (b := (b1, b2)) (c := (c1, c2)) ha hb hc).symm.trans l0
      have n0 : ¬ g0 = 1 := by rw [hg0]; exact of_decide_eq_false e0
      have G0 : Hid _ := hg0
      clear hg0 e0
      clear l0
      have HQ : Hid _ := hq.symm
      clear hq
      have ⟨x_a_0, x_a_1, x_a_2, x_a_3⟩ := x_a
      have ⟨x_b_0, x_b_1, x_b_2, x_b_3⟩ := x_b
      have ⟨x_c_0, x_c_1, x_c_2, x_c_3⟩ := x_c
      have ⟨x_d_0, x_d_1, x_d_2, x_d_3⟩ := x_d
      go_wp2_with (go_at_call 11; fail)
      refine (rtCan a1 a2 b1 b2 c1 c2 d1 d2 Y1 Ra Rb Rc Rd HQ.out).mono ?_
      rintro e w1 ⟨rfl, bw1⟩
      clear x_a_0 x_a_1 x_a_2 x_a_3 x_b_0 x_b_1 x_b_2 x_b_3 x_c_0 x_c_1 x_c_2 x_c_3 x_d_0 x_d_1 x_d_2 x_d_3
      have zbw1 := bw1.size
      replace BB := also BB bw1
      replace x_t := x_t.on bw1
      replace x_d := x_d.on bw1
      replace x_a := x_a.on bw1
      replace x_b := x_b.on bw1
      replace x_c := x_c.on bw1
      have ⟨x_a_0, x_a_1, x_a_2, x_a_3⟩ := x_a
      have ⟨x_b_0, x_b_1, x_b_2, x_b_3⟩ := x_b
      have ⟨x_c_0, x_c_1, x_c_2, x_c_3⟩ := x_c
      have ⟨x_d_0, x_d_1, x_d_2, x_d_3⟩ := x_d
      go_wp2_with (go_at_call 12; fail)
      refine (rpOrient a1 a2 b1 b2 c1 c2 w1 ha hb hc G0.out).mono ?_
      rintro e v0 ⟨rfl, bv0⟩
      clear x_a_0 x_a_1 x_a_2 x_a_3 x_b_0 x_b_1 x_b_2 x_b_3 x_c_0 x_c_1 x_c_2 x_c_3 x_d_0 x_d_1 x_d_2 x_d_3
      have zbv0 := bv0.size
      replace BB := also BB bv0
      replace x_t := x_t.on bv0
      replace x_d := x_d.on bv0
      replace x_a := x_a.on bv0
      replace x_b := x_b.on bv0
      replace x_c := x_c.on bv0
      have ⟨x_a_0, x_a_1, x_a_2, x_a_3⟩ := x_a
      have ⟨x_b_0, x_b_1, x_b_2, x_b_3⟩ := x_b
      have ⟨x_c_0, x_c_1, x_c_2, x_c_3⟩ := x_c
      have ⟨x_d_0, x_d_1, x_d_2, x_d_3⟩ := x_d
      go_wp2_with (go_at_call 10; fail)
      refine (lives8_any v0).mono ?_
      rintro e x9 ⟨rfl, bx9⟩
      clear x_a_0 x_a_1 x_a_2 x_a_3 x_b_0 x_b_1 x_b_2 x_b_3 x_c_0 x_c_1 x_c_2 x_c_3 x_d_0 x_d_1 x_d_2 x_d_3
      have zbx9 := bx9.size
      replace BB := also BB bx9
      replace x_t := x_t.on bx9
      replace x_d := x_d.on bx9
      replace x_a := x_a.on bx9
      replace x_b := x_b.on bx9
      replace x_c := x_c.on bx9
      go_wp2
      go_ret
      exact ⟨rfl, BB⟩
    · skip
      cases l1 : leftQ (b1, b2) (c1, c2) (d1, d2)
      · skip
        obtain ⟨ha, hb, hc, hd⟩ := can4.1 hq
        obtain ⟨g0, hg0⟩ : ∃ g, g = (areaP a1 a2 b1 b2 c1 c2).sign := ⟨_, rfl⟩
        have e0 := (left_area (a := (a1, a2)) (b := (b1, b2)) (c := (c1, c2)) ha hb hc).symm.trans l0
        obtain rfl : g0 = 1 := by rw [hg0]; exact of_decide_eq_true e0
        have G0 : Hid _ := hg0
        clear hg0 e0
        obtain ⟨g1, hg1⟩ : ∃ g, g = (areaP b1 b2 c1 c2 d1 d2).sign := ⟨_, rfl⟩
        have e1 := (left_area (a := (b1, b2)) (b := (c1, c2)) (c := (d1, d2)) hb hc hd).symm.trans l1
        have n1 : ¬ g1 = 1 := by rw [hg1]; exact of_decide_eq_false e1
        have G1 : Hid _ := hg1
        clear hg1 e1
        clear l0
        clear l1
        have HQ : Hid _ := hq.symm
        clear hq
        have ⟨x_a_0, x_a_1, x_a_2, x_a_3⟩ := x_a
        have ⟨x_b_0, x_b_1, x_b_2, x_b_3⟩ := x_b
        have ⟨x_c_0, x_c_1, x_c_2, x_c_3⟩ := x_c
        have ⟨x_d_0, x_d_1, x_d_2, x_d_3⟩ := x_d
        go_wp2_with (go_at_call 11; fail)
        refine (rtCan a1 a2 b1 b2 c1 c2 d1 d2 Y1 Ra Rb Rc Rd HQ.out).mono ?_
        rintro e w1 ⟨rfl, bw1⟩
        clear x_a_0 x_a_1 x_a_2 x_a_3 x_b_0 x_b_1 x_b_2 x_b_3 x_c_0 x_c_1 x_c_2 x_c_3 x_d_0 x_d_1 x_d_2 x_d_3
        have zbw1 := bw1.size
        replace BB := also BB bw1
        replace x_t := x_t.on bw1
        replace x_d := x_d.on bw1
        replace x_a := x_a.on bw1
        replace x_b := x_b.on bw1
        replace x_c := x_c.on bw1
        have ⟨x_a_0, x_a_1, x_a_2, x_a_3⟩ := x_a
        have ⟨x_b_0, x_b_1, x_b_2, x_b_3⟩ := x_b
        have ⟨x_c_0, x_c_1, x_c_2, x_c_3⟩ := x_c
        have ⟨x_d_0, x_d_1, x_d_2, x_d_3⟩ := x_d
        go_wp2_with (go_at_call 12; fail)
        refine (rpOrient a1 a2 b1 b2 c1 c2 w1 ha hb hc G0.out).mono ?_
        rintro e v0 ⟨rfl, bv0⟩
        clear x_a_0 x_a_1 x_a_2 x_a_3 x_b_0 x_b_1 x_b_2 x_b_3 x_c_0 x_c_1 x_c_2 x_c_3 x_d_0 x_d_1 x_d_2 x_d_3
        have zbv0 := bv0.size
        replace BB := also BB bv0
        replace x_t := x_t.on bv0
        replace x_d := x_d.on bv0
        replace x_a := x_a.on bv0
        replace x_b := x_b.on bv0
        replace x_c := x_c.on bv0
        have ⟨x_a_0, x_a_1, x_a_2, x_a_3⟩ := x_a
        have ⟨x_b_0, x_b_1, x_b_2, x_b_3⟩ := x_b
        have ⟨x_c_0, x_c_1, x_c_2, x_c_3⟩ := x_c
        have ⟨x_d_0, x_d_1, x_d_2, x_d_3⟩ := x_d
        go_wp2_with (go_at_call 12; fail)
        refine (rpOrient b1 b2 c1 c2 d1 d2 v0 hb hc hd G1.out).mono ?_
        rintro e v1 ⟨rfl, bv1⟩
        clear x_a_0 x_a_1 x_a_2 x_a_3 x_b_0 x_b_1 x_b_2 x_b_3 x_c_0 x_c_1 x_c_2 x_c_3 x_d_0 x_d_1 x_d_2 x_d_3
        have zbv1 := bv1.size
        replace BB := also BB bv1
        replace x_t := x_t.on bv1
        replace x_d := x_d.on bv1
        replace x_a := x_a.on bv1
        replace x_b := x_b.on bv1
        replace x_c := x_c.on bv1
        have ⟨x_a_0, x_a_1, x_a_2, x_a_3⟩ := x_a
        have ⟨x_b_0, x_b_1, x_b_2, x_b_3⟩ := x_b
        have ⟨x_c_0, x_c_1, x_c_2, x_c_3⟩ := x_c
        have ⟨x_d_0, x_d_1, x_d_2, x_d_3⟩ := x_d
        go_wp2_with (go_at_call 10; fail)
        refine (lives8_any v1).mono ?_
        rintro e x9 ⟨rfl, bx9⟩
        clear x_a_0 x_a_1 x_a_2 x_a_3 x_b_0 x_b_1 x_b_2 x_b_3 x_c_0 x_c_1 x_c_2 x_c_3 x_d_0 x_d_1 x_d_2 x_d_3
        have zbx9 := bx9.size
        replace BB := also BB bx9
        replace x_t := x_t.on bx9
        replace x_d := x_d.on bx9
        replace x_a := x_a.on bx9
        replace x_b := x_b.on bx9
        replace x_c := x_c.on bx9
        go_wp2
        go_ret
        exact ⟨rfl, BB⟩
      · skip
        cases l2 : leftQ (c1, c2) (d1, d2) (a1, a2)
        · skip
          obtain ⟨ha, hb, hc, hd⟩ := can4.1 hq
          obtain ⟨g0, hg0⟩ : ∃ g, g = (areaP a1 a2 b1 b2 c1 c2).sign := ⟨_, rfl⟩
          have e0 := (left_area (a := (a1, a2)) (b := (b1, b2)) (c := (c1, c2)) ha hb hc).symm.trans l0
          obtain rfl : g0 = 1 := by rw [hg0]; exact of_decide_eq_true e0
          have G0 : Hid _ := hg0
          clear hg0 e0
          obtain ⟨g1, hg1⟩ : ∃ g, g = (areaP b1 b2 c1 c2 d1 d2).sign := ⟨_, rfl⟩
          have e1 := (left_area (a := (b1, b2)) (b := (c1, c2)) (c := (d1, d2)) hb hc hd).symm.trans l1
          obtain rfl : g1 = 1 := by rw [hg1]; exact of_decide_eq_true e1
          have G1 : Hid _ := hg1
          clear hg1 e1
          obtain ⟨g2, hg2⟩ : ∃ g, g = (areaP c1 c2 d1 d2 a1 a2).sign := ⟨_, rfl⟩
          have e2 := (left_area (a := (c1, c2)) (b := (d1, d2)) (c := (a1, a2)) hc hd ha).symm.trans l2
          have n2 : ¬ g2 = 1 := by rw [hg2]; exact of_decide_eq_false e2
          have G2 : Hid _ := hg2
          clear hg2 e2
          clear l0
          clear l1
          clear l2
          have HQ : Hid _ := hq.symm
          clear hq
          have ⟨x_a_0, x_a_1, x_a_2, x_a_3⟩ := x_a
          have ⟨x_b_0, x_b_1, x_b_2, x_b_3⟩ := x_b
          have ⟨x_c_0, x_c_1, x_c_2, x_c_3⟩ := x_c
          have ⟨x_d_0, x_d_1, x_d_2, x_d_3⟩ := x_d
          go_wp2_with (go_at_call 11; fail)
          refine (rtCan a1 a2 b1 b2 c1 c2 d1 d2 Y1 Ra Rb Rc Rd HQ.out).mono ?_
          rintro e w1 ⟨rfl, bw1⟩
          clear x_a_0 x_a_1 x_a_2 x_a_3 x_b_0 x_b_1 x_b_2 x_b_3 x_c_0 x_c_1 x_c_2 x_c_3 x_d_0 x_d_1 x_d_2 x_d_3
          have zbw1 := bw1.size
          replace BB := also BB bw1
          replace x_t := x_t.on bw1
          replace x_d := x_d.on bw1
          replace x_a := x_a.on bw1
          replace x_b := x_b.on bw1
          replace x_c := x_c.on bw1
          have ⟨x_a_0, x_a_1, x_a_2, x_a_3⟩ := x_a
          have ⟨x_b_0, x_b_1, x_b_2, x_b_3⟩ := x_b
          have ⟨x_c_0, x_c_1, x_c_2, x_c_3⟩ := x_c
          have ⟨x_d_0, x_d_1, x_d_2, x_d_3⟩ := x_d
          go_wp2_with (go_at_call 12; fail)
          refine (rpOrient a1 a2 b1 b2 c1 c2 w1 ha hb hc G0.out).mono ?_
          rintro e v0 ⟨rfl, bv0⟩
          clear x_a_0 x_a_1 x_a_2 x_a_3 x_b_0 x_b_1 x_b_2 x_b_3 x_c_0 x_c_1 x_c_2 x_c_3 x_d_0 x_d_1 x_d_2 x_d_3
          have zbv0 := bv0.size
          replace BB := also BB bv0
          replace x_t := x_t.on bv0
          replace x_d := x_d.on bv0
          replace x_a := x_a.on bv0
          replace x_b := x_b.on bv0
          replace x_c := x_c.on bv0
          have ⟨x_a_0, x_a_1, x_a_2, x_a_3⟩ := x_a
          have ⟨x_b_0, x_b_1, x_b_2, x_b_3⟩ := x_b
          have ⟨x_c_0, x_c_1, x_c_2, x_c_3⟩ := x_c
          have ⟨x_d_0, x_d_1, x_d_2, x_d_3⟩ := x_d
          go_wp2_with (go_at_call 12; fail)
          refine (rpOrient b1 b2 c1 c2 d1 d2 v0 hb hc hd G1.out).mono ?_
          rintro e v1 ⟨rfl, bv1⟩
          clear x_a_0 x_a_1 x_a_2 x_a_3 x_b_0 x_b_1 x_b_2 x_b_3 x_c_0 x_c_1 x_c_2 x_c_3 x_d_0 x_d_1 x_d_2 x_d_3
          have zbv1 := bv1.size
          replace BB := also BB bv1
          replace x_t := x_t.on bv1
          replace x_d := x_d.on bv1
          replace x_a := x_a.on bv1
          replace x_b := x_b.on bv1
          replace x_c := x_c.on bv1
          have ⟨x_a_0, x_a_1, x_a_2, x_a_3⟩ := x_a
          have ⟨x_b_0, x_b_1, x_b_2, x_b_3⟩ := x_b
          have ⟨x_c_0, x_c_1, x_c_2, x_c_3⟩ := x_c
          have ⟨x_d_0, x_d_1, x_d_2, x_d_3⟩ := x_d
          go_wp2_with (go_at_call 12; fail)
          refine (rpOrient c1 c2 d1 d2 a1 a2 v1 hc hd ha G2.out).mono ?_
          rintro e v2 ⟨rfl, bv2⟩
          clear x_a_0 x_a_1 x_a_2 x_a_3 x_b_0 x_b_1 x_b_2 x_b_3 x_c_0 x_c_1 x_c_2 x_c_3 x_d_0 x_d_1 x_d_2 x_d_3
          have zbv2 := bv2.size
          replace BB := also BB bv2
          replace x_t := x_t.on bv2
          replace x_d := x_d.on bv2
          replace x_a := x_a.on bv2
          replace x_b := x_b.on bv2
          replace x_c := x_c.on bv2
          have ⟨x_a_0, x_a_1, x_a_2, x_a_3⟩ := x_a
          have ⟨x_b_0, x_b_1, x_b_2, x_b_3⟩ := x_b
          have ⟨x_c_0, x_c_1, x_c_2, x_c_3⟩ := x_c
          have ⟨x_d_0, x_d_1, x_d_2, x_d_3⟩ := x_d
          go_wp2_with (go_at_call 10; fail)
          refine (lives8_any v2).mono ?_
          rintro e x9 ⟨rfl, bx9⟩
          clear x_a_0 x_a_1 x_a_2 x_a_3 x_b_0 x_b_1 x_b_2 x_b_3 x_c_0 x_c_1 x_c_2 x_c_3 x_d_0 x_d_1 x_d_2 x_d_3
          have zbx9 := bx9.size
          replace BB := also BB bx9
          replace x_t := x_t.on bx9
          replace x_d := x_d.on bx9
          replace x_a := x_a.on bx9
          replace x_b := x_b.on bx9
          replace x_c := x_c.on bx9
          go_wp2
          go_ret
          exact ⟨rfl, BB⟩
        · skip
          cases l3 : leftQ (d1, d2) (a1, a2) (b1, b2)
          · skip
            obtain ⟨ha, hb, hc, hd⟩ := can4.1 hq
            obtain ⟨g0, hg0⟩ : ∃ g, g = (areaP a1 a2 b1 b2 c1 c2).sign := ⟨_, rfl⟩
            have e0 := (left_area (a := (a1, a2)) (b := (b1, b2)) (c := (c1, c2)) ha hb hc).symm.trans l0
            obtain rfl : g0 = 1 := by rw [hg0]; exact of_decide_eq_true e0
            have G0 : Hid _ := hg0
            clear hg0 e0
            obtain ⟨g1, hg1⟩ : ∃ g, g = (areaP b1 b2 c1 c2 d1 d2).sign := ⟨_, rfl⟩
            have e1 := (left_area (a := (b1, b2)) (b := (c1, c2)) (c := (d1, d2)) hb hc hd).symm.trans l1
            obtain rfl : g1 = 1 := by rw [hg1]; exact of_decide_eq_true e1
            have G1 : Hid _ := hg1
            clear hg1 e1
            obtain ⟨g2, hg2⟩ : ∃ g, g = (areaP c1 c2 d1 d2 a1 a2).sign := ⟨_, rfl⟩
            have e2 := (left_area (a := (c1, c2)) (b := (d1, d2)) (c := (a1, a2)) hc hd ha).symm.trans l2
            obtain rfl : g2 = 1 := by rw [hg2]; exact of_decide_eq_true e2
            have G2 : Hid _ := hg2
            clear hg2 e2
            obtain ⟨g3, hg3⟩ : ∃ g, g = (areaP d1 d2 a1 a2 b1 b2).sign := ⟨_, rfl⟩
            have e3 := (left_area (a := (d1, d2)) (b := (a1, a2)) (c := (b1, b2)) hd ha hb).symm.trans l3
            have n3 : ¬ g3 = 1 := by rw [hg3]; exact of_decide_eq_false e3
            have G3 : Hid _ := hg3
            clear hg3 e3
            clear l0
            clear l1
            clear l2
            clear l3
            have HQ : Hid _ := hq.symm
            clear hq
            have ⟨x_a_0, x_a_1, x_a_2, x_a_3⟩ := x_a
            have ⟨x_b_0, x_b_1, x_b_2, x_b_3⟩ := x_b
            have ⟨x_c_0, x_c_1, x_c_2, x_c_3⟩ := x_c
            have ⟨x_d_0, x_d_1, x_d_2, x_d_3⟩ := x_d
            go_wp2_with (go_at_call 11; fail)
            refine (rtCan a1 a2 b1 b2 c1 c2 d1 d2 Y1 Ra Rb Rc Rd HQ.out).mono ?_
            rintro e w1 ⟨rfl, bw1⟩
            clear x_a_0 x_a_1 x_a_2 x_a_3 x_b_0 x_b_1 x_b_2 x_b_3 x_c_0 x_c_1 x_c_2 x_c_3 x_d_0 x_d_1 x_d_2 x_d_3
            have zbw1 := bw1.size
            replace BB := also BB bw1
            replace x_t := x_t.on bw1
            replace x_d := x_d.on bw1
            replace x_a := x_a.on bw1
            replace x_b := x_b.on bw1
            replace x_c := x_c.on bw1
            have ⟨x_a_0, x_a_1, x_a_2, x_a_3⟩ := x_a
            have ⟨x_b_0, x_b_1, x_b_2, x_b_3⟩ := x_b
            have ⟨x_c_0, x_c_1, x_c_2, x_c_3⟩ := x_c
            have ⟨x_d_0, x_d_1, x_d_2, x_d_3⟩ := x_d
            go_wp2_with (go_at_call 12; fail)
            refine (rpOrient a1 a2 b1 b2 c1 c2 w1 ha hb hc G0.out).mono ?_
            rintro e v0 ⟨rfl, bv0⟩
            clear x_a_0 x_a_1 x_a_2 x_a_3 x_b_0 x_b_1 x_b_2 x_b_3 x_c_0 x_c_1 x_c_2 x_c_3 x_d_0 x_d_1 x_d_2 x_d_3
            have zbv0 := bv0.size
            replace BB := also BB bv0
            replace x_t := x_t.on bv0
            replace x_d := x_d.on bv0
            replace x_a := x_a.on bv0
            replace x_b := x_b.on bv0
            replace x_c := x_c.on bv0
            have ⟨x_a_0, x_a_1, x_a_2, x_a_3⟩ := x_a
            have ⟨x_b_0, x_b_1, x_b_2, x_b_3⟩ := x_b
            have ⟨x_c_0, x_c_1, x_c_2, x_c_3⟩ := x_c
            have ⟨x_d_0, x_d_1, x_d_2, x_d_3⟩ := x_d
            go_wp2_with (go_at_call 12; fail)
            refine (rpOrient b1 b2 c1 c2 d1 d2 v0 hb hc hd G1.out).mono ?_
            rintro e v1 ⟨rfl, bv1⟩
            clear x_a_0 x_a_1 x_a_2 x_a_3 x_b_0 x_b_1 x_b_2 x_b_3 x_c_0 x_c_1 x_c_2 x_c_3 x_d_0 x_d_1 x_d_2 x_d_3
            have zbv1 := bv1.size
            replace BB := also BB bv1
            replace x_t := x_t.on bv1
            replace x_d := x_d.on bv1
            replace x_a := x_a.on bv1
            replace x_b := x_b.on bv1
            replace x_c := x_c.on bv1
            have ⟨x_a_0, x_a_1, x_a_2, x_a_3⟩ := x_a
            have ⟨x_b_0, x_b_1, x_b_2, x_b_3⟩ := x_b
            have ⟨x_c_0, x_c_1, x_c_2, x_c_3⟩ := x_c
            have ⟨x_d_0, x_d_1, x_d_2, x_d_3⟩ := x_d
            go_wp2_with (go_at_call 12; fail)
            refine (rpOrient c1 c2 d1 d2 a1 a2 v1 hc hd ha G2.out).mono ?_
            rintro e v2 ⟨rfl, bv2⟩
            clear x_a_0 x_a_1 x_a_2 x_a_3 x_b_0 x_b_1 x_b_2 x_b_3 x_c_0 x_c_1 x_c_2 x_c_3 x_d_0 x_d_1 x_d_2 x_d_3
            have zbv2 := bv2.size
            replace BB := also BB bv2
            replace x_t := x_t.on bv2
            replace x_d := x_d.on bv2
            replace x_a := x_a.on bv2
            replace x_b := x_b.on bv2
            replace x_c := x_c.on bv2
            have ⟨x_a_0, x_a_1, x_a_2, x_a_3⟩ := x_a
            have ⟨x_b_0, x_b_1, x_b_2, x_b_3⟩ := x_b
            have ⟨x_c_0, x_c_1, x_c_2, x_c_3⟩ := x_c
            have ⟨x_d_0, x_d_1, x_d_2, x_d_3⟩ := x_d
            go_wp2_with (go_at_call 12; fail)
            refine (rpOrient d1 d2 a1 a2 b1 b2 v2 hd ha hb G3.out).mono ?_
            rintro e v3 ⟨rfl, bv3⟩
            clear x_a_0 x_a_1 x_a_2 x_a_3 x_b_0 x_b_1 x_b_2 x_b_3 x_c_0 x_c_1 x_c_2 x_c_3 x_d_0 x_d_1 x_d_2 x_d_3
            have zbv3 := bv3.size
            replace BB := also BB bv3
            replace x_t := x_t.on bv3
            replace x_d := x_d.on bv3
            replace x_a := x_a.on bv3
            replace x_b := x_b.on bv3
            replace x_c := x_c.on bv3
            have ⟨x_a_0, x_a_1, x_a_2, x_a_3⟩ := x_a
            have ⟨x_b_0, x_b_1, x_b_2, x_b_3⟩ := x_b
            have ⟨x_c_0, x_c_1, x_c_2, x_c_3⟩ := x_c
            have ⟨x_d_0, x_d_1, x_d_2, x_d_3⟩ := x_d
            go_wp2_with (go_at_call 10; fail)
            refine (lives8_any v3).mono ?_
            rintro e x9 ⟨rfl, bx9⟩
            clear x_a_0 x_a_1 x_a_2 x_a_3 x_b_0 x_b_1 x_b_2 x_b_3 x_c_0 x_c_1 x_c_2 x_c_3 x_d_0 x_d_1 x_d_2 x_d_3
            have zbx9 := bx9.size
            replace BB := also BB bx9
            replace x_t := x_t.on bx9
            replace x_d := x_d.on bx9
            replace x_a := x_a.on bx9
            replace x_b := x_b.on bx9
            replace x_c := x_c.on bx9
            go_wp2
            go_ret
            exact ⟨rfl, BB⟩
          · skip
            obtain ⟨ha, hb, hc, hd⟩ := can4.1 hq
            obtain ⟨g0, hg0⟩ : ∃ g, g = (areaP a1 a2 b1 b2 c1 c2).sign := ⟨_, rfl⟩
            have e0 := (left_area (a := (a1, a2)) (b := (b1, b2)) (c := (c1, c2)) ha hb hc).symm.trans l0
            obtain rfl : g0 = 1 := by rw [hg0]; exact of_decide_eq_true e0
            have G0 : Hid _ := hg0
            clear hg0 e0
            obtain ⟨g1, hg1⟩ : ∃ g, g = (areaP b1 b2 c1 c2 d1 d2).sign := ⟨_, rfl⟩
            have e1 := (left_area (a := (b1, b2)) (b := (c1, c2)) (c := (d1, d2)) hb hc hd).symm.trans l1
            obtain rfl : g1 = 1 := by rw [hg1]; exact of_decide_eq_true e1
            have G1 : Hid _ := hg1
            clear hg1 e1
            obtain ⟨g2, hg2⟩ : ∃ g, g = (areaP c1 c2 d1 d2 a1 a2).sign := ⟨_, rfl⟩
            have e2 := (left_area (a := (c1, c2)) (b := (d1, d2)) (c := (a1, a2)) hc hd ha).symm.trans l2
            obtain rfl : g2 = 1 := by rw [hg2]; exact of_decide_eq_true e2
            have G2 : Hid _ := hg2
            clear hg2 e2
            obtain ⟨g3, hg3⟩ : ∃ g, g = (areaP d1 d2 a1 a2 b1 b2).sign := ⟨_, rfl⟩
            have e3 := (left_area (a := (d1, d2)) (b := (a1, a2)) (c := (b1, b2)) hd ha hb).symm.trans l3
            obtain rfl : g3 = 1 := by rw [hg3]; exact of_decide_eq_true e3
            have G3 : Hid _ := hg3
            clear hg3 e3
            obtain ⟨n, hn⟩ : ∃ n, n = cfQ (a1, a2) (b1, b2) (c1, c2) (d1, d2) := ⟨_, rfl⟩
            obtain ⟨d1', d2', d3'⟩ := cf_diag l0 l1 l2 l3
            rw [← hn] at d1' d2' d3'
            have N0 : Hid _ := hn
            have N1 : Hid _ := d1'.symm
            have N2 : Hid _ := d2'.symm
            have N3 : Hid _ := d3'.symm
            clear hn d1' d2' d3'
            clear l0
            clear l1
            clear l2
            clear l3
            have HQ : Hid _ := hq.symm
            clear hq
            have ⟨x_a_0, x_a_1, x_a_2, x_a_3⟩ := x_a
            have ⟨x_b_0, x_b_1, x_b_2, x_b_3⟩ := x_b
            have ⟨x_c_0, x_c_1, x_c_2, x_c_3⟩ := x_c
            have ⟨x_d_0, x_d_1, x_d_2, x_d_3⟩ := x_d
            go_wp2_with (go_at_call 11; fail)
            refine (rtCan a1 a2 b1 b2 c1 c2 d1 d2 Y1 Ra Rb Rc Rd HQ.out).mono ?_
            rintro e w1 ⟨rfl, bw1⟩
            clear x_a_0 x_a_1 x_a_2 x_a_3 x_b_0 x_b_1 x_b_2 x_b_3 x_c_0 x_c_1 x_c_2 x_c_3 x_d_0 x_d_1 x_d_2 x_d_3
            have zbw1 := bw1.size
            replace BB := also BB bw1
            replace x_t := x_t.on bw1
            replace x_d := x_d.on bw1
            replace x_a := x_a.on bw1
            replace x_b := x_b.on bw1
            replace x_c := x_c.on bw1
            have ⟨x_a_0, x_a_1, x_a_2, x_a_3⟩ := x_a
            have ⟨x_b_0, x_b_1, x_b_2, x_b_3⟩ := x_b
            have ⟨x_c_0, x_c_1, x_c_2, x_c_3⟩ := x_c
            have ⟨x_d_0, x_d_1, x_d_2, x_d_3⟩ := x_d
            go_wp2_with (go_at_call 12; fail)
            refine (rpOrient a1 a2 b1 b2 c1 c2 w1 ha hb hc G0.out).mono ?_
            rintro e v0 ⟨rfl, bv0⟩
            clear x_a_0 x_a_1 x_a_2 x_a_3 x_b_0 x_b_1 x_b_2 x_b_3 x_c_0 x_c_1 x_c_2 x_c_3 x_d_0 x_d_1 x_d_2 x_d_3
            have zbv0 := bv0.size
            replace BB := also BB bv0
            replace x_t := x_t.on bv0
            replace x_d := x_d.on bv0
            replace x_a := x_a.on bv0
            replace x_b := x_b.on bv0
            replace x_c := x_c.on bv0
            have ⟨x_a_0, x_a_1, x_a_2, x_a_3⟩ := x_a
            have ⟨x_b_0, x_b_1, x_b_2, x_b_3⟩ := x_b
            have ⟨x_c_0, x_c_1, x_c_2, x_c_3⟩ := x_c
            have ⟨x_d_0, x_d_1, x_d_2, x_d_3⟩ := x_d
            go_wp2_with (go_at_call 12; fail)
            refine (rpOrient b1 b2 c1 c2 d1 d2 v0 hb hc hd G1.out).mono ?_
            rintro e v1 ⟨rfl, bv1⟩
            clear x_a_0 x_a_1 x_a_2 x_a_3 x_b_0 x_b_1 x_b_2 x_b_3 x_c_0 x_c_1 x_c_2 x_c_3 x_d_0 x_d_1 x_d_2 x_d_3
            have zbv1 := bv1.size
            replace BB := also BB bv1
            replace x_t := x_t.on bv1
            replace x_d := x_d.on bv1
            replace x_a := x_a.on bv1
            replace x_b := x_b.on bv1
            replace x_c := x_c.on bv1
            have ⟨x_a_0, x_a_1, x_a_2, x_a_3⟩ := x_a
            have ⟨x_b_0, x_b_1, x_b_2, x_b_3⟩ := x_b
            have ⟨x_c_0, x_c_1, x_c_2, x_c_3⟩ := x_c
            have ⟨x_d_0, x_d_1, x_d_2, x_d_3⟩ := x_d
            go_wp2_with (go_at_call 12; fail)
            refine (rpOrient c1 c2 d1 d2 a1 a2 v1 hc hd ha G2.out).mono ?_
            rintro e v2 ⟨rfl, bv2⟩
            clear x_a_0 x_a_1 x_a_2 x_a_3 x_b_0 x_b_1 x_b_2 x_b_3 x_c_0 x_c_1 x_c_2 x_c_3 x_d_0 x_d_1 x_d_2 x_d_3
            have zbv2 := bv2.size
            replace BB := also BB bv2
            replace x_t := x_t.on bv2
            replace x_d := x_d.on bv2
            replace x_a := x_a.on bv2
            replace x_b := x_b.on bv2
            replace x_c := x_c.on bv2
            have ⟨x_a_0, x_a_1, x_a_2, x_a_3⟩ := x_a
            have ⟨x_b_0, x_b_1, x_b_2, x_b_3⟩ := x_b
            have ⟨x_c_0, x_c_1, x_c_2, x_c_3⟩ := x_c
            have ⟨x_d_0, x_d_1, x_d_2, x_d_3⟩ := x_d
            go_wp2_with (go_at_call 12; fail)
            refine (rpOrient d1 d2 a1 a2 b1 b2 v2 hd ha hb G3.out).mono ?_
            rintro e v3 ⟨rfl, bv3⟩
            clear x_a_0 x_a_1 x_a_2 x_a_3 x_b_0 x_b_1 x_b_2 x_b_3 x_c_0 x_c_1 x_c_2 x_c_3 x_d_0 x_d_1 x_d_2 x_d_3
            have zbv3 := bv3.size
            replace BB := also BB bv3
            replace x_t := x_t.on bv3
            replace x_d := x_d.on bv3
            replace x_a := x_a.on bv3
            replace x_b := x_b.on bv3
            replace x_c := x_c.on bv3
            have ⟨x_a_0, x_a_1, x_a_2, x_a_3⟩ := x_a
            have ⟨x_b_0, x_b_1, x_b_2, x_b_3⟩ := x_b
            have ⟨x_c_0, x_c_1, x_c_2, x_c_3⟩ := x_c
            have ⟨x_d_0, x_d_1, x_d_2, x_d_3⟩ := x_d
            go_wp2_with (go_at_call 8; fail)
            refine (tConflict a1 a2 b1 b2 c1 c2 d1 d2 v3 N0.out).mono ?_
            rintro e x0 ⟨rfl, bx0⟩
            clear x_a_0 x_a_1 x_a_2 x_a_3 x_b_0 x_b_1 x_b_2 x_b_3 x_c_0 x_c_1 x_c_2 x_c_3 x_d_0 x_d_1 x_d_2 x_d_3
            have zbx0 := bx0.size
            replace BB := also BB bx0
            replace x_t := x_t.on bx0
            replace x_d := x_d.on bx0
            replace x_a := x_a.on bx0
            replace x_b := x_b.on bx0
            replace x_c := x_c.on bx0
            have ⟨x_a_0, x_a_1, x_a_2, x_a_3⟩ := x_a
            have ⟨x_b_0, x_b_1, x_b_2, x_b_3⟩ := x_b
            have ⟨x_c_0, x_c_1, x_c_2, x_c_3⟩ := x_c
            have ⟨x_d_0, x_d_1, x_d_2, x_d_3⟩ := x_d
            go_wp2_with (go_at_call 8; fail)
            refine (tConflict c1 c2 d1 d2 a1 a2 b1 b2 x0 N1.out).mono ?_
            rintro e x1 ⟨rfl, bx1⟩
            clear x_a_0 x_a_1 x_a_2 x_a_3 x_b_0 x_b_1 x_b_2 x_b_3 x_c_0 x_c_1 x_c_2 x_c_3 x_d_0 x_d_1 x_d_2 x_d_3
            have zbx1 := bx1.size
            replace BB := also BB bx1
            replace x_t := x_t.on bx1
            replace x_d := x_d.on bx1
            replace x_a := x_a.on bx1
            replace x_b := x_b.on bx1
            replace x_c := x_c.on bx1
            have ⟨x_a_0, x_a_1, x_a_2, x_a_3⟩ := x_a
            have ⟨x_b_0, x_b_1, x_b_2, x_b_3⟩ := x_b
            have ⟨x_c_0, x_c_1, x_c_2, x_c_3⟩ := x_c
            have ⟨x_d_0, x_d_1, x_d_2, x_d_3⟩ := x_d
            go_wp2_with (go_at_call 8; fail)
            refine (tConflict b1 b2 c1 c2 d1 d2 a1 a2 x1 N2.out).mono ?_
            rintro e x2 ⟨rfl, bx2⟩
            clear x_a_0 x_a_1 x_a_2 x_a_3 x_b_0 x_b_1 x_b_2 x_b_3 x_c_0 x_c_1 x_c_2 x_c_3 x_d_0 x_d_1 x_d_2 x_d_3
            have zbx2 := bx2.size
            replace BB := also BB bx2
            replace x_t := x_t.on bx2
            replace x_d := x_d.on bx2
            replace x_a := x_a.on bx2
            replace x_b := x_b.on bx2
            replace x_c := x_c.on bx2
            have ⟨x_a_0, x_a_1, x_a_2, x_a_3⟩ := x_a
            have ⟨x_b_0, x_b_1, x_b_2, x_b_3⟩ := x_b
            have ⟨x_c_0, x_c_1, x_c_2, x_c_3⟩ := x_c
            have ⟨x_d_0, x_d_1, x_d_2, x_d_3⟩ := x_d
            go_wp2_with (go_at_call 8; fail)
            refine (tConflict d1 d2 a1 a2 b1 b2 c1 c2 x2 N3.out).mono ?_
            rintro e x3 ⟨rfl, bx3⟩
            clear x_a_0 x_a_1 x_a_2 x_a_3 x_b_0 x_b_1 x_b_2 x_b_3 x_c_0 x_c_1 x_c_2 x_c_3 x_d_0 x_d_1 x_d_2 x_d_3
            have zbx3 := bx3.size
            replace BB := also BB bx3
            replace x_t := x_t.on bx3
            replace x_d := x_d.on bx3
            replace x_a := x_a.on bx3
            replace x_b := x_b.on bx3
            replace x_c := x_c.on bx3
            have ⟨x_a_0, x_a_1, x_a_2, x_a_3⟩ := x_a
            have ⟨x_b_0, x_b_1, x_b_2, x_b_3⟩ := x_b
            have ⟨x_c_0, x_c_1, x_c_2, x_c_3⟩ := x_c
            have ⟨x_d_0, x_d_1, x_d_2, x_d_3⟩ := x_d
            go_wp2_with (go_at_call 10; fail)
            refine (lives8_any x3).mono ?_
            rintro e x9 ⟨rfl, bx9⟩
            clear x_a_0 x_a_1 x_a_2 x_a_3 x_b_0 x_b_1 x_b_2 x_b_3 x_c_0 x_c_1 x_c_2 x_c_3 x_d_0 x_d_1 x_d_2 x_d_3
            have zbx9 := bx9.size
            replace BB := also BB bx9
            replace x_t := x_t.on bx9
            replace x_d := x_d.on bx9
            replace x_a := x_a.on bx9
            replace x_b := x_b.on bx9
            replace x_c := x_c.on bx9
            go_wp2
            go_ret
            exact ⟨rfl, BB⟩
theorem own : ownKnob Try.prog.godebug = none := by kernel_rfl
theorem cells_pt : Try.prog.cellsOf 23 = 2 := by kernel_rfl
theorem reads_pt {H : Type} (enc : TypeId × Value → H) (W : World) (bs : Nat) (sp : Nat → Bool) (hd : Bool) {a b : Int} (wa : (Lit.int .i64 a).wf = true) (wb : (Lit.int .i64 b).wf = true) : DataW.Trod enc Try.prog W bs sp hd 23 (.agg #[.int .i64 a, .int .i64 b]) (.agg [.lit (.int .i64 a), .lit (.int .i64 b)]) [] :=
  shut_agg2 (y0 := (.lit (.int .i64 a), [])) (y1 := (.lit (.int .i64 b), [])) Try.underlying23 (by kernel_rfl) cells_pt ⟨1, by simp [DataW.trod, Try.underlying2, wa]⟩ ⟨1, by simp [DataW.trod, Try.underlying2, wb]⟩
set_option maxRecDepth 100000 in
theorem lifted (os : Os) (started : os.Started) (H : Type) (enc : TypeId × Value → H) :
    ReturnsInHanded {} Try.checked os 5 .any (Rows.tieDiagonalsSpec.pre6 enc Try.prog Try.f5 Rows.tieDiagonalsRow.domain false) (Rows.tieDiagonalsSpec.post enc Try.prog Try.f5 false true false false) := by
  refine returnsInHanded_of_change (C := Try.checked) own started (by kernel_rfl) Try.func5
    (ChangeSpec.witness6 (enc := enc) (C := Try.checked) false ⟨#[], #[.agg #[.int .i64 0, .int .i64 0, .int .i64 0, .int .i64 0, .int .i64 0, .int .i64 0], .agg #[.int .i64 0, .int .i64 0]], []⟩ 8 (by kernel_rfl) (by kernel_rfl) (by kernel_rfl) (by kernel_rfl)) ?_
  intro W base args ds gs before hval0 hW hcnd _
  have hval : ∀ (j : Nat) t v, Try.f5.params[j]? = some t → args[j]? = some v → Value.okWide Try.prog W .any base t v := hval0
  have hW' := hW
  obtain ⟨p, q, hA0, hV, rfl, hfz, hnd⟩ := hW
  have hA : DataW.TrodAll enc Try.prog W 0 (fun _ => true) true Try.f5.params.toList args.toList ds p := hA0
  rw [Try.params5] at hA hval
  obtain ⟨v0, vs0, d0, ds0, p0, q0, hargs, rfl, rfl, h0, r0⟩ := trodAll_cons hA
  obtain ⟨v1, vs1, d1, ds1, p1, q1, rfl, rfl, rfl, h1, r1⟩ := trodAll_cons r0
  obtain ⟨rfl, rfl, rfl⟩ := trodAll_nil r1
  obtain rfl : args = #[v0, v1] := by cases args; simp_all
  obtain ⟨rfl, rfl⟩ := trodVars_none hV
  obtain ⟨a0_0, a0_1, a0_2, a0_3, a0_4, a0_5, rfl, rfl, rfl, w0_0, w0_1, w0_2, w0_3, w0_4, w0_5⟩ := open_pt3 (hval 0 24 v0 rfl rfl) h0
  obtain ⟨x1, y1, g1, k1, m1, rfl, rfl, rfl, hx1, hy1⟩ := open_agg2 Try.underlying23 (by kernel_rfl) cells_pt (hval 1 23 v1 rfl rfl) h1
  obtain ⟨a1, ex1, rfl, wa1⟩ := DataW.trod_int Try.underlying2 hx1
  obtain ⟨b1, ey1, rfl, wb1⟩ := DataW.trod_int Try.underlying2 hy1
  simp at ex1 ey1
  subst ex1 ey1
  clear hA0 hval0
  have hwalk := walk a0_0 a0_1 (bd_i64 w0_0).1 (bd_i64 w0_0).2 (bd_i64 w0_1).1 (bd_i64 w0_1).2 a0_2 a0_3 (bd_i64 w0_2).1 (bd_i64 w0_2).2 (bd_i64 w0_3).1 (bd_i64 w0_3).2 a0_4 a0_5 (bd_i64 w0_4).1 (bd_i64 w0_4).2 (bd_i64 w0_5).1 (bd_i64 w0_5).2 a1 b1 (bd_i64 wa1).1 (bd_i64 wa1).2 (bd_i64 wb1).1 (bd_i64 wb1).2 W
  refine hwalk.mono fun e W' ⟨he, bel⟩ => ?_
  subst he
  exact ⟨_, rfl, _, _, _, [], _, [], hW', trodAll_mk1 (shut_bool Try.underlying4 _), (trodAll_cons_mk (shut_pt3 w0_0 w0_1 w0_2 w0_3 w0_4 w0_5) (trodAll_cons_mk (reads_pt enc _ _ _ _ wa1 wb1) trodAll_mk0)), rfl, bel.frame _, fun h => by cases h⟩

/-- The statement. -/
theorem proved : Rows.TieDiagonalsSaid :=
  OpenClaim.holds_of_wide 5 Try.f5 rfl rfl rfl rfl rfl rfl rfl ⟨rfl, rfl, rfl, rfl, rfl⟩ rfl rfl rfl rfl rfl (by kernel_rfl) Try.func5 (by kernel_rfl)
    (of_decide_eq_true (by kernel_rfl)) (by unfold Func.isWrapper; first | (rw [if_pos (by decide +kernel)]; kernel_rfl) | (rw [if_neg (by decide +kernel)]; exact ⟨rfl, rfl⟩))
    (fun os started H enc _ => lifted os started H enc)
#print axioms proved
end tdiagonals
end Go.Proofs.Ytnemailhijkemaa
