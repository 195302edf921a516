/-
  Joined texts of this law, part 1:
  Blocks of two to four cells, made one behind the other, and what they hold behind a store into another. It imports nothing of the program.
  What the calls of an open region may tell: a number of zelligeref04 (its digits lie in memory), or a value that is known.
  What zelligeref07's diff, Area and Dist answer.
  What package rat's alike, bothDens, Norm, Neg, Add, Sub and Mul answer.
  What zelligeref05's functions answer: fractions as two whole numbers, the lower above nought.
  What the calls of an open region may tell, besides: a fraction of zelligeref05.
  The circle of three points: its center by the weights of the corners and by a determinant, and how great it is. It imports nothing of the program.
  What zelligeref05's Over, Mul, Div and Cmp answer.
-/
import Derived.Test.YtcaihoomcdbfnaaGreatP14
namespace Go.Proofs.YtcaihoomcdbfnaaGreat
open Go.RowKit
set_option linter.unusedVariables false
theorem bs_444 (w : World) (x00 x01 x02 x03 x10 x11 x12 x13 x20 x21 x22 x23 : Value) (t0 t1 t2 : TypeId) : ∃ W, W = (((w.alloc (.cells #[x00, x01, x02, x03] t0)).alloc (.cells #[x10, x11, x12, x13] t1)).alloc (.cells #[x20, x21, x22, x23] t2)) ∧ Below w.heap.size w W ∧ B4 W (w.heap.size) x00 x01 x02 x03 ∧ B4 W (w.heap.size + 1) x10 x11 x12 x13 ∧ B4 W (w.heap.size + 1 + 1) x20 x21 x22 x23 ∧ w.heap.size + 1 + 1 < W.heap.size := by
  have e0 : Below w.heap.size w (w.alloc (.cells #[x00, x01, x02, x03] t0)) := (Below.refl _ _).alloc (Nat.le_refl _) _
  have h0 := b4_new w x00 x01 x02 x03 t0
  have e1 : Below (w.alloc (.cells #[x00, x01, x02, x03] t0)).heap.size (w.alloc (.cells #[x00, x01, x02, x03] t0)) ((w.alloc (.cells #[x00, x01, x02, x03] t0)).alloc (.cells #[x10, x11, x12, x13] t1)) := (Below.refl _ _).alloc (Nat.le_refl _) _
  have h1 := b4_new (w.alloc (.cells #[x00, x01, x02, x03] t0)) x10 x11 x12 x13 t1
  rw [World.size_alloc] at h1
  have e2 : Below ((w.alloc (.cells #[x00, x01, x02, x03] t0)).alloc (.cells #[x10, x11, x12, x13] t1)).heap.size ((w.alloc (.cells #[x00, x01, x02, x03] t0)).alloc (.cells #[x10, x11, x12, x13] t1)) (((w.alloc (.cells #[x00, x01, x02, x03] t0)).alloc (.cells #[x10, x11, x12, x13] t1)).alloc (.cells #[x20, x21, x22, x23] t2)) := (Below.refl _ _).alloc (Nat.le_refl _) _
  have h2 := b4_new ((w.alloc (.cells #[x00, x01, x02, x03] t0)).alloc (.cells #[x10, x11, x12, x13] t1)) x20 x21 x22 x23 t2
  rw [World.size_alloc, World.size_alloc] at h2
  exact ⟨_, rfl, also (also (e0) e1) e2, ((h0.on e1).on e2), (h1.on e2), h2, by simp⟩
end Go.Proofs.YtcaihoomcdbfnaaGreat

namespace Go.Proofs.YtcaihoomcdbfnaaGreat
open Go.RowKit
set_option linter.unusedVariables false

def RNIs (X : Int) (x : Value) (R : World → Prop) (A : Nat → Prop) : Prop := ∃ (s : Int) (d : Option Addr) (l c : Nat), x = .agg #[.int .i64 s, .slice d l c] ∧ R = (fun w => RN w s d l c X) ∧ A = fun k => NA k d l
theorem rnIs_good {X : Int} {x : Value} {R : World → Prop} {A : Nat → Prop} (h : RNIs X x R A) : (∀ w w', R w → Below w.heap.size w w' → R w') ∧ ∀ w k, R w → w.heap.size ≤ k → A k := by
  obtain ⟨s, d, l, c, rfl, rfl, rfl⟩ := h
  exact ⟨fun w w' h hb => h.below hb, fun w k h hk => RN.apart h hk⟩
/-- As RNIs; and it is apart from all blocks below B. -/
def RNOs (B : Nat) (X : Int) (x : Value) (R : World → Prop) (A : Nat → Prop) : Prop := ∃ (s : Int) (d : Option Addr) (l c : Nat), x = .agg #[.int .i64 s, .slice d l c] ∧ R = (fun w => RN w s d l c X ∧ ∀ k, k < B → NA k d l) ∧ A = fun k => NA k d l
theorem rnOs_good {B : Nat} {X : Int} {x : Value} {R : World → Prop} {A : Nat → Prop} (h : RNOs B X x R A) : (∀ w w', R w → Below w.heap.size w w' → R w') ∧ ∀ w k, R w → w.heap.size ≤ k → A k := by
  obtain ⟨s, d, l, c, rfl, rfl, rfl⟩ := h
  exact ⟨fun w w' h hb => ⟨h.1.below hb, h.2⟩, fun w k h hk => RN.apart h.1 hk⟩
end Go.Proofs.YtcaihoomcdbfnaaGreat

namespace Go.Proofs.YtcaihoomcdbfnaaGreat
open Go.RowKit
set_option linter.unusedVariables false

def SpD (x y : Int) : Nat → Value → (World → Prop) → (Nat → Prop) → Prop
  | 0 => RNIs x
  | 1 => RNIs y
  | _ => ValIs undef
theorem SpD_good (x y : Int) : GoodSp (SpD x y) := fun j x R A h => match j with
  | 0 => rnIs_good h
  | 1 => rnIs_good h
  | k + 2 => valIs_good h
def SpDZ : Nat → List Value
  | 0 => [.int .i64 0, .slice none 0 0]
  | 1 => [.int .i64 0, .slice none 0 0]
  | _ => []
theorem fuel_SpD_b0 {bD eD : Nat → Bool} {f : Nat} (hf : f = 2 + (nb (bD 0) + nb (bD 1) + nb (eD 0) + nb (eD 1))) (h : bD 0 = false) : f - 1 = 2 + (nb (upd bD 0 true 0) + nb (upd bD 0 true 1) + nb (eD 0) + nb (eD 1)) := by
  have h1 : nb (bD 0) = 1 := by rw [h]; rfl
  have h2 : nb (upd bD 0 true 0) = 0 := rfl
  have q1 : nb (upd bD 0 true 1) = nb (bD 1) := rfl
  omega
theorem fuel_SpD_b1 {bD eD : Nat → Bool} {f : Nat} (hf : f = 2 + (nb (bD 0) + nb (bD 1) + nb (eD 0) + nb (eD 1))) (h : bD 1 = false) : f - 1 = 2 + (nb (upd bD 1 true 0) + nb (upd bD 1 true 1) + nb (eD 0) + nb (eD 1)) := by
  have h1 : nb (bD 1) = 1 := by rw [h]; rfl
  have h2 : nb (upd bD 1 true 1) = 0 := rfl
  have q0 : nb (upd bD 1 true 0) = nb (bD 0) := rfl
  omega
theorem fuel_SpD_e0 {bD eD : Nat → Bool} {f : Nat} (hf : f = 2 + (nb (bD 0) + nb (bD 1) + nb (eD 0) + nb (eD 1))) (h : eD 0 = false) : f - 1 = 2 + (nb (bD 0) + nb (bD 1) + nb (upd eD 0 true 0) + nb (upd eD 0 true 1)) := by
  have h1 : nb (eD 0) = 1 := by rw [h]; rfl
  have h2 : nb (upd eD 0 true 0) = 0 := rfl
  have q1 : nb (upd eD 0 true 1) = nb (eD 1) := rfl
  omega
theorem fuel_SpD_e1 {bD eD : Nat → Bool} {f : Nat} (hf : f = 2 + (nb (bD 0) + nb (bD 1) + nb (eD 0) + nb (eD 1))) (h : eD 1 = false) : f - 1 = 2 + (nb (bD 0) + nb (bD 1) + nb (upd eD 1 true 0) + nb (upd eD 1 true 1)) := by
  have h1 : nb (eD 1) = 1 := by rw [h]; rfl
  have h2 : nb (upd eD 1 true 1) = 0 := rfl
  have q0 : nb (upd eD 1 true 0) = nb (eD 0) := rfl
  omega
set_option maxRecDepth 100000 in
set_option maxHeartbeats 4000000 in
theorem rpDist (a1 a2 b1 b2 : Int) (w : World) (ha : canC a1 a2 = true) (hb : canC b1 b2 = true) {z : Int} (hz : z = distP a1 a2 b1 b2) : Calls Tryz.prog 28 #[.agg #[.int .i64 a1, .int .i64 a2], .agg #[.int .i64 b1, .int .i64 b2]] w (GotR w (fun _ => True) z) := by
  have Ra1 : Hid _ := in_64 (canC_true.1 ha).1
  have Ra2 : Hid _ := in_64 (canC_true.1 ha).2
  have Rb1 : Hid _ := in_64 (canC_true.1 hb).1
  have Rb2 : Hid _ := in_64 (canC_true.1 hb).2
  have qx := can_diff (canC_true.1 hb).1 (canC_true.1 ha).1
  have qy := can_diff (canC_true.1 hb).2 (canC_true.1 ha).2
  obtain ⟨x, hx⟩ : ∃ z : Int, z = b1 - a1 := ⟨_, rfl⟩
  have Ex : Hid _ := hx
  obtain ⟨y, hy⟩ : ∃ z : Int, z = b2 - a2 := ⟨_, rfl⟩
  have Ey : Hid _ := hy
  obtain ⟨p, hp⟩ : ∃ z : Int, z = x * x := ⟨_, rfl⟩
  have Ep : Hid _ := hp
  obtain ⟨q, hq⟩ : ∃ z : Int, z = y * y := ⟨_, rfl⟩
  have Eq : Hid _ := hq
  have HZ : Hid (z = p + q) := by unfold Hid; rw [hz, hp, hq, hx, hy]; rfl
  rw [← hx] at qx
  have Fx : Hid _ := few_num (z := x) (by omega)
  rw [← hy] at qy
  have Fy : Hid _ := few_num (z := y) (by omega)
  have qp := prod_abs qx qx
  have qq := prod_abs qy qy
  rw [← hp] at qp
  rw [← hq] at qq
  have Fp : Hid _ := few_num (z := p) (by omega)
  have Fq : Hid _ := few_num (z := q) (by omega)
  clear hz hx hy hp hq qx qy qp qq ha hb
  obtain ⟨W, hW, bW, x_a, x_b, x_r, sW⟩ := bs_222 w (.int .i64 a1) (.int .i64 a2) (.int .i64 b1) (.int .i64 b2) (.int .i64 0) (.slice none 0 0) 23 23 39
  have zbW := bW.size
  have BB := bW
  go_enter Tryz.func28, Tryz.ntmps28
  go_wp2
  rw [← hW]
  clear hW
  obtain ⟨QQ, hQQ⟩ : ∃ QQ : Exit → Act → World → Prop, QQ = fun e act wr => e = .normal ∧ ∃ (pma0 : Nat) (pma1 : Nat) (s11 : Int) (d11 : Option Addr) (l11 c11 : Nat) (s12 : Int) (d12 : Option Addr) (l12 c12 : Nat), act = ⟨#[.agg #[.int .i64 a1, .int .i64 a2], .agg #[.int .i64 b1, .int .i64 b2], .pointer (some ⟨w.heap.size, 0, none⟩), .pointer (some ⟨w.heap.size + 1, 0, none⟩), .pointer (some ⟨w.heap.size + 1 + 1, 0, none⟩), .pointer (some ⟨pma0, 0, none⟩), .pointer (some ⟨pma1, 0, none⟩), .pointer (some ⟨w.heap.size, 0, none⟩), .int .i64 a1, .pointer (some ⟨w.heap.size + 1, 0, none⟩), .int .i64 b1, .agg #[.int .i64 s11, .slice d11 l11 c11], .pointer (some ⟨w.heap.size, 1, none⟩), .int .i64 a2, .pointer (some ⟨w.heap.size + 1, 1, none⟩), .int .i64 b2, .agg #[.int .i64 s12, .slice d12 l12 c12], undef, undef, undef, undef, undef, undef, undef], []⟩ ∧ RN wr s11 d11 l11 c11 x ∧ RN wr s12 d12 l12 c12 y ∧ Bx wr (w.heap.size) (.int .i64 a1) (.int .i64 a2) ∧ Bx wr (w.heap.size + 1) (.int .i64 b1) (.int .i64 b2) ∧ Bx wr (w.heap.size + 1 + 1) (.int .i64 0) (.slice none 0 0) ∧ Bx wr pma0 (.int .i64 s11) (.slice d11 l11 c11) ∧ Bx wr pma1 (.int .i64 s12) (.slice d12 l12 c12) ∧ Below w.heap.size w wr ∧ W.heap.size ≤ wr.heap.size ∧ (W.heap.size ≤ pma0 ∧ pma0 < wr.heap.size) ∧ (W.heap.size ≤ pma1 ∧ pma1 < wr.heap.size) := ⟨_, rfl⟩
  have HQQ : Hid _ := hQQ
  clear hQQ
  refine wp_mono (Q := QQ) ?_ ?_
  · refine wp_region_held_drew (S := (fun w' => w'.cell? ⟨w.heap.size, 0, none⟩ = some (.int .i64 a1) ∧ w'.cell? ⟨w.heap.size, 1, none⟩ = some (.int .i64 a2) ∧ w'.cell? ⟨w.heap.size + 1, 0, none⟩ = some (.int .i64 b1) ∧ w'.cell? ⟨w.heap.size + 1, 1, none⟩ = some (.int .i64 b2) ∧ Below w.heap.size w w')) (by kernel_rfl) ?_ (fun hHeld => ?_)
    · exact ⟨x_a.c0, x_a.c1, x_b.c0, x_b.c1, BB.drew⟩
    refine take_yes (i := 0) (v := ?vma0x1) rfl (by kernel_rfl) (by kernel_rfl) (by kernel_rfl) (fun _ _ _ h => by rw [HQQ.out] at h; exact Exit.noConfusion h.1) (by rfl) (by assumption) ?hyma0x1 ?restma0x1
    case hyma0x1 => (intro w hSw; (try dsimp only at hSw); first | (go_simp; done) | (go_simp; with_reducible rfl))
    simp only [Act.put, List.setIfInBounds_toArray, List.set_cons_zero, List.set_cons_succ]
    refine take_yes (i := 1) (v := ?vma1x2) rfl (by kernel_rfl) (by kernel_rfl) (by kernel_rfl) (fun _ _ _ h => by rw [HQQ.out] at h; exact Exit.noConfusion h.1) (by rfl) (by assumption) ?hyma1x2 ?restma1x2
    case hyma1x2 => (intro w hSw; (try dsimp only at hSw); first | (go_simp; done) | (go_simp; with_reducible rfl))
    simp only [Act.put, List.setIfInBounds_toArray, List.set_cons_zero, List.set_cons_succ]
    refine take_yes (i := 2) (v := ?vma2x3) rfl (by kernel_rfl) (by kernel_rfl) (by kernel_rfl) (fun _ _ _ h => by rw [HQQ.out] at h; exact Exit.noConfusion h.1) (by rfl) (by assumption) ?hyma2x3 ?restma2x3
    case hyma2x3 => (intro w hSw; (try dsimp only at hSw); first | (go_simp; done) | (go_simp; with_reducible rfl))
    simp only [Act.put, List.setIfInBounds_toArray, List.set_cons_zero, List.set_cons_succ]
    refine take_yes (i := 3) (v := ?vma3x4) rfl (by kernel_rfl) (by kernel_rfl) (by kernel_rfl) (fun _ _ _ h => by rw [HQQ.out] at h; exact Exit.noConfusion h.1) (by rfl) (by assumption) ?hyma3x4 ?restma3x4
    case hyma3x4 => (intro w hSw; (try dsimp only at hSw); first | (go_simp; done) | (go_simp; with_reducible rfl))
    simp only [Act.put, List.setIfInBounds_toArray, List.set_cons_zero, List.set_cons_succ]
    refine take_yes (i := 5) (v := ?vma5x5) rfl (by kernel_rfl) (by kernel_rfl) (by kernel_rfl) (fun _ _ _ h => by rw [HQQ.out] at h; exact Exit.noConfusion h.1) (by rfl) (by assumption) ?hyma5x5 ?restma5x5
    case hyma5x5 => (intro w hSw; (try dsimp only at hSw); first | (go_simp; done) | (go_simp; with_reducible rfl))
    simp only [Act.put, List.setIfInBounds_toArray, List.set_cons_zero, List.set_cons_succ]
    refine take_yes (i := 6) (v := ?vma6x6) rfl (by kernel_rfl) (by kernel_rfl) (by kernel_rfl) (fun _ _ _ h => by rw [HQQ.out] at h; exact Exit.noConfusion h.1) (by rfl) (by assumption) ?hyma6x6 ?restma6x6
    case hyma6x6 => (intro w hSw; (try dsimp only at hSw); first | (go_simp; done) | (go_simp; with_reducible rfl))
    simp only [Act.put, List.setIfInBounds_toArray, List.set_cons_zero, List.set_cons_succ]
    refine take_yes (i := 7) (v := ?vma7x7) rfl (by kernel_rfl) (by kernel_rfl) (by kernel_rfl) (fun _ _ _ h => by rw [HQQ.out] at h; exact Exit.noConfusion h.1) (by rfl) (by assumption) ?hyma7x7 ?restma7x7
    case hyma7x7 => (intro w hSw; (try dsimp only at hSw); first | (go_simp; done) | (go_simp; with_reducible rfl))
    simp only [Act.put, List.setIfInBounds_toArray, List.set_cons_zero, List.set_cons_succ]
    refine take_yes (i := 8) (v := ?vma8x8) rfl (by kernel_rfl) (by kernel_rfl) (by kernel_rfl) (fun _ _ _ h => by rw [HQQ.out] at h; exact Exit.noConfusion h.1) (by rfl) (by assumption) ?hyma8x8 ?restma8x8
    case hyma8x8 => (intro w hSw; (try dsimp only at hSw); first | (go_simp; done) | (go_simp; with_reducible rfl))
    simp only [Act.put, List.setIfInBounds_toArray, List.set_cons_zero, List.set_cons_succ]
    clear hHeld
    obtain ⟨INV, hINV⟩ : ∃ INV : Nat → Array Bool → Act → World → Prop, INV = fun f L act wr => ∃ (bD eD : Nat → Bool) (pD : Nat → Nat) (RD : Nat → World → Prop) (AD : Nat → Nat → Prop) (uD vD : Nat → Value), f = 2 + (nb (bD 0) + nb (bD 1) + nb (eD 0) + nb (eD 1)) ∧ L = #[true, true, true, true, bD 0, true, true, true, true, bD 1, eD 0, eD 1, false, false] ∧ act = ⟨#[.agg #[.int .i64 a1, .int .i64 a2], .agg #[.int .i64 b1, .int .i64 b2], .pointer (some ⟨w.heap.size, 0, none⟩), .pointer (some ⟨w.heap.size + 1, 0, none⟩), .pointer (some ⟨w.heap.size + 1 + 1, 0, none⟩), vD 0, vD 1, .pointer (some ⟨w.heap.size, 0, none⟩), .int .i64 a1, .pointer (some ⟨w.heap.size + 1, 0, none⟩), .int .i64 b1, uD 0, .pointer (some ⟨w.heap.size, 1, none⟩), .int .i64 a2, .pointer (some ⟨w.heap.size + 1, 1, none⟩), .int .i64 b2, uD 1, undef, undef, undef, undef, undef, undef, undef], []⟩ ∧ (bD 1 = true → bD 0 = true) ∧ Mk W SpDZ (SpD x y) bD eD pD RD AD uD vD wr := ⟨_, rfl⟩
    have HINV : Hid _ := hINV
    clear hINV
    refine phase INV ?stepma _ _ _ _ ?initma
    case initma => rw [HINV.out]; exact ⟨fun _ => false, fun _ => false, fun _ => 0, fun _ _ => True, fun _ _ => True, fun _ => undef, fun _ => undef, rfl, rfl, rfl, fun h => Bool.noConfusion h, Mk.start _ _ _ (Below.refl _ _).drew⟩
    intro f L act wr hinv
    rw [HINV.out] at hinv
    obtain ⟨bD, eD, pD, RD, AD, uD, vD, hf, rfl, rfl, ch0, hm⟩ := hinv
    by_cases hall : bD 1 = true ∧ eD 0 = true ∧ eD 1 = true
    · refine Or.inl ?_
      obtain ⟨hb1, he0, he1⟩ := hall
      have hb0 := ch0 hb1
      simp only [hb0, hb1, he0, he1, nb] at hf
      subst hf
      rw [hb0, hb1, he0, he1, hm.ptr 0 he0, hm.ptr 1 he1]
      obtain ⟨s11, d11, l11, c11, hu0, hR0, hA0⟩ : RNIs _ _ _ _ := hm.spec 0 hb0
      rw [hu0]
      have r11 : RN wr s11 d11 l11 c11 x := by have := hm.res 0 hb0; rw [hR0] at this; exact this
      have n_r11_0_pma0 : NA (pD 0) d11 l11 := by have := hm.ap 0 0 he0 hb0; rw [hA0] at this; exact this
      have n_r11_0_pma1 : NA (pD 1) d11 l11 := by have := hm.ap 1 0 he1 hb0; rw [hA0] at this; exact this
      obtain ⟨s12, d12, l12, c12, hu1, hR1, hA1⟩ : RNIs _ _ _ _ := hm.spec 1 hb1
      rw [hu1]
      have r12 : RN wr s12 d12 l12 c12 y := by have := hm.res 1 hb1; rw [hR1] at this; exact this
      have n_r12_0_pma0 : NA (pD 0) d12 l12 := by have := hm.ap 0 1 he0 hb1; rw [hA1] at this; exact this
      have n_r12_0_pma1 : NA (pD 1) d12 l12 := by have := hm.ap 1 1 he1 hb1; rw [hA1] at this; exact this
      have y_pma0 : Bx wr (pD 0) (.int .i64 0) (.slice none 0 0) := bx_row (hm.blk 0 he0)
      have gpma0 := hm.old 0 he0
      have ltpma0 := hm.lt 0 he0
      have y_pma1 : Bx wr (pD 1) (.int .i64 0) (.slice none 0 0) := bx_row (hm.blk 1 he1)
      have gpma1 := hm.old 1 he1
      have ltpma1 := hm.lt 1 he1
      have ne_0_1 : pD 0 ≠ pD 1 := hm.ne 0 1 he0 he1 (by decide)
      have BU := hm.bel
      replace x_a := x_a.on BU
      replace x_b := x_b.on BU
      replace x_r := x_r.on BU
      replace BB := also BB BU
      have hHeld : ((fun w' => w'.cell? ⟨w.heap.size, 0, none⟩ = some (.int .i64 a1) ∧ w'.cell? ⟨w.heap.size, 1, none⟩ = some (.int .i64 a2) ∧ w'.cell? ⟨w.heap.size + 1, 0, none⟩ = some (.int .i64 b1) ∧ w'.cell? ⟨w.heap.size + 1, 1, none⟩ = some (.int .i64 b2) ∧ Below w.heap.size w w')) wr := ⟨x_a.c0, x_a.c1, x_b.c0, x_b.c1, BB⟩
      clear hm HINV INV ch0
      generalize pD 0 = pma0 at *
      generalize pD 1 = pma1 at *
      dsimp only at hHeld
      have ⟨c_pma0_0, c_pma0_1, c_pma0_2, c_pma0_3⟩ : Bx wr pma0 (.int .i64 0) (.slice none 0 0) := y_pma0
      refine take_call (i := 12) rfl (by kernel_rfl) (fun Kc hK => ?_)
      go_simp
      refine hK.out _ _ ⟨cell_put2 hHeld.1 (by omega) _ _, cell_put2 hHeld.2.1 (by omega) _ _, cell_put2 hHeld.2.2.1 (by omega) _ _, cell_put2 hHeld.2.2.2.1 (by omega) _ _, below_put2 hHeld.2.2.2.2 (by omega) _ _⟩ (fun hHeld => ?_)
      clear hK Kc
      have ⟨c_pma1_0, c_pma1_1, c_pma1_2, c_pma1_3⟩ : Bx ((wr.setCell ⟨pma0, 0, none⟩ (.int .i64 s11)).setCell ⟨pma0, 1, none⟩ (.slice d11 l11 c11)) pma1 (.int .i64 0) (.slice none 0 0) := ((y_pma1.put ne_0_1).put ne_0_1)
      refine take_call (i := 13) rfl (by kernel_rfl) (fun Kc hK => ?_)
      go_simp
      refine hK.out _ _ ⟨cell_put2 hHeld.1 (by omega) _ _, cell_put2 hHeld.2.1 (by omega) _ _, cell_put2 hHeld.2.2.1 (by omega) _ _, cell_put2 hHeld.2.2.2.1 (by omega) _ _, below_put2 hHeld.2.2.2.2 (by omega) _ _⟩ (fun hHeld => ?_)
      clear hK Kc
      refine wpAnyH_done (by kernel_rfl) ?_ _
      rw [HQQ.out]
      exact ⟨rfl, pma0, pma1, s11, d11, l11, c11, s12, d12, l12, c12, rfl, ((((r11.put n_r11_0_pma0 0 _).put n_r11_0_pma0 1 _).put n_r11_0_pma1 0 _).put n_r11_0_pma1 1 _), ((((r12.put n_r12_0_pma0 0 _).put n_r12_0_pma0 1 _).put n_r12_0_pma1 0 _).put n_r12_0_pma1 1 _), ((((x_a.put (by omega)).put (by omega)).put (by omega)).put (by omega)), ((((x_b.put (by omega)).put (by omega)).put (by omega)).put (by omega)), ((((x_r.put (by omega)).put (by omega)).put (by omega)).put (by omega)), ((y_pma0.set.put (fun e => ne_0_1 e.symm)).put (fun e => ne_0_1 e.symm)), ((y_pma1.put ne_0_1).put ne_0_1).set, (below_put2 (below_put2 BB (by omega) _ _) (by omega) _ _), by have := BU.size; simp only [World.size_setCell]; omega, ⟨gpma0, by simp only [World.size_setCell]; omega⟩, ⟨gpma1, by simp only [World.size_setCell]; omega⟩⟩
    · refine Or.inr ⟨f - 1, by omega, ?nema, ?opsma⟩
      case nema =>
        cases he0 : eD 0
        · exact ready_ne (i := 10) (by decide) (by kernel_rfl)
        cases he1 : eD 1
        · exact ready_ne (i := 11) (by decide) (by kernel_rfl)
        cases hb0 : bD 0
        · exact ready_ne (i := 4) (by decide) (by kernel_rfl)
        cases hb1 : bD 1
        · exact ready_ne (i := 9) (by decide) (by kernel_rfl)
        exact absurd ⟨hb1, he0, he1⟩ hall
      case opsma =>
        intro i hi
        obtain ⟨hlt, hnot, hdep⟩ := ready_at hi
        replace hlt : i < 14 := hlt
        obtain rfl | rfl | rfl | rfl | rfl | rfl | rfl | rfl | rfl | rfl | rfl | rfl | rfl | rfl : i = 0 ∨ i = 1 ∨ i = 2 ∨ i = 3 ∨ i = 4 ∨ i = 5 ∨ i = 6 ∨ i = 7 ∨ i = 8 ∨ i = 9 ∨ i = 10 ∨ i = 11 ∨ i = 12 ∨ i = 13 := by omega
        · skip
          exact Bool.noConfusion (show true = false from hnot)
        · skip
          exact Bool.noConfusion (show true = false from hnot)
        · skip
          exact Bool.noConfusion (show true = false from hnot)
        · skip
          exact Bool.noConfusion (show true = false from hnot)
        · skip
          have hbj : bD 0 = false := hnot
          refine ⟨_, rfl, fun K' hK => ?_⟩
          go_simp
          (go_at_call 63; refine (rpDiff a1 b1 _ Ra1.out Rb1.out Ex.out).mono ?_; rintro e' X ⟨s11, d11, l11, c11, rfl, r11, f11, bX⟩)
          have hm' := hm.call (SpD_good x y) 0 bX (.agg #[.int .i64 s11, .slice d11 l11 c11]) (fun w => RN w s11 d11 l11 c11 x) (fun k => NA k d11 l11) ⟨_, _, _, _, rfl, rfl, rfl⟩ r11 (fun i hi => f11 (pD i) (hm.lt i hi) trivial)
          refine hK.out _ _ ⟨cell_on hm'.bel x_a.c0, cell_on hm'.bel x_a.c1, cell_on hm'.bel x_b.c0, cell_on hm'.bel x_b.c1, also BB hm'.bel⟩ ?_
          rw [HINV.out]
          exact ⟨upd bD 0 true, eD, pD, upd RD 0 (fun w => RN w s11 d11 l11 c11 x), upd AD 0 (fun k => NA k d11 l11), upd uD 0 (.agg #[.int .i64 s11, .slice d11 l11 c11]), vD, fuel_SpD_b0 hf hbj, rfl, rfl, fun _ => rfl, hm'⟩
        · skip
          exact Bool.noConfusion (show true = false from hnot)
        · skip
          exact Bool.noConfusion (show true = false from hnot)
        · skip
          exact Bool.noConfusion (show true = false from hnot)
        · skip
          exact Bool.noConfusion (show true = false from hnot)
        · skip
          have hbj : bD 1 = false := hnot
          have hprev : bD 0 = true := hdep _ rfl 2 _ rfl rfl
          refine ⟨_, rfl, fun K' hK => ?_⟩
          go_simp
          (go_at_call 63; refine (rpDiff a2 b2 _ Ra2.out Rb2.out Ey.out).mono ?_; rintro e' X ⟨s12, d12, l12, c12, rfl, r12, f12, bX⟩)
          have hm' := hm.call (SpD_good x y) 1 bX (.agg #[.int .i64 s12, .slice d12 l12 c12]) (fun w => RN w s12 d12 l12 c12 y) (fun k => NA k d12 l12) ⟨_, _, _, _, rfl, rfl, rfl⟩ r12 (fun i hi => f12 (pD i) (hm.lt i hi) trivial)
          refine hK.out _ _ ⟨cell_on hm'.bel x_a.c0, cell_on hm'.bel x_a.c1, cell_on hm'.bel x_b.c0, cell_on hm'.bel x_b.c1, also BB hm'.bel⟩ ?_
          rw [HINV.out]
          exact ⟨upd bD 1 true, eD, pD, upd RD 1 (fun w => RN w s12 d12 l12 c12 y), upd AD 1 (fun k => NA k d12 l12), upd uD 1 (.agg #[.int .i64 s12, .slice d12 l12 c12]), vD, fuel_SpD_b1 hf hbj, rfl, rfl, fun _ => hprev, hm'⟩
        · skip
          have hei : eD 0 = false := hnot
          refine ⟨_, rfl, fun K' hK => ?_⟩
          go_simp
          have hm' := hm.alloc (SpD_good x y) 0 39 hei
          refine hK.out _ _ ⟨cell_on hm'.bel x_a.c0, cell_on hm'.bel x_a.c1, cell_on hm'.bel x_b.c0, cell_on hm'.bel x_b.c1, also BB hm'.bel⟩ ?_
          rw [HINV.out]
          exact ⟨bD, upd eD 0 true, upd pD 0 wr.heap.size, RD, AD, uD, upd vD 0 (.pointer (some ⟨wr.heap.size, 0, none⟩)), fuel_SpD_e0 hf hei, rfl, rfl, ch0, hm'⟩
        · skip
          have hei : eD 1 = false := hnot
          refine ⟨_, rfl, fun K' hK => ?_⟩
          go_simp
          have hm' := hm.alloc (SpD_good x y) 1 39 hei
          refine hK.out _ _ ⟨cell_on hm'.bel x_a.c0, cell_on hm'.bel x_a.c1, cell_on hm'.bel x_b.c0, cell_on hm'.bel x_b.c1, also BB hm'.bel⟩ ?_
          rw [HINV.out]
          exact ⟨bD, upd eD 1 true, upd pD 1 wr.heap.size, RD, AD, uD, upd vD 1 (.pointer (some ⟨wr.heap.size, 0, none⟩)), fuel_SpD_e1 hf hei, rfl, rfl, ch0, hm'⟩
        · skip
          exact absurd ⟨hdep _ rfl 2 _ rfl rfl, hdep _ rfl 0 _ rfl rfl, hdep _ rfl 14 _ rfl rfl⟩ hall
        · skip
          exact Bool.noConfusion (show false = true from hdep _ rfl 2 _ rfl rfl)
  rw [HQQ.out]
  rintro e act Y1 ⟨rfl, pma0, pma1, s11, d11, l11, c11, s12, d12, l12, c12, rfl, r11, r12, x_a, x_b, x_r, x_X, x_Y, BB, z_Y1, z_Y1_pma0, z_Y1_pma1⟩
  clear HQQ QQ
  try dsimp only
  go_wp2
  have dd1 : Below Y1.heap.size Y1 Y1.drew := (Below.refl _ _).drew
  have zdd1 := dd1.size
  replace BB := also BB dd1
  replace x_a := x_a.on dd1
  replace x_b := x_b.on dd1
  replace x_r := x_r.on dd1
  replace r11 := r11.below dd1
  replace r12 := r12.below dd1
  replace x_X := x_X.on dd1
  replace x_Y := x_Y.on dd1
  refine wp_region_held_drew (S := (fun w' => w'.cell? ⟨pma0, 0, none⟩ = some (.int .i64 s11) ∧ w'.cell? ⟨pma0, 1, none⟩ = some (.slice d11 l11 c11) ∧ w'.cell? ⟨pma1, 0, none⟩ = some (.int .i64 s12) ∧ w'.cell? ⟨pma1, 1, none⟩ = some (.slice d12 l12 c12) ∧ Below w.heap.size w w')) (by kernel_rfl) ?_ (fun hHeld => ?_)
  · exact ⟨x_X.c0, x_X.c1, x_Y.c0, x_Y.c1, BB⟩
  refine take_yes (i := 0) (v := ?vs0) rfl (by kernel_rfl) (by kernel_rfl) (by kernel_rfl) (fun _ _ _ h => h) (by rfl) (by assumption) ?hys0 ?rests0
  case hys0 => (intro w hSw; (try dsimp only at hSw); first | (go_simp; done) | (go_simp; with_reducible rfl))
  simp only [Act.put, List.setIfInBounds_toArray, List.set_cons_zero, List.set_cons_succ]
  refine take_yes (i := 1) (v := ?vs1) rfl (by kernel_rfl) (by kernel_rfl) (by kernel_rfl) (fun _ _ _ h => h) (by rfl) (by assumption) ?hys1 ?rests1
  case hys1 => (intro w hSw; (try dsimp only at hSw); first | (go_simp; done) | (go_simp; with_reducible rfl))
  simp only [Act.put, List.setIfInBounds_toArray, List.set_cons_zero, List.set_cons_succ]
  refine take_yes (i := 3) (v := ?vs3) rfl (by kernel_rfl) (by kernel_rfl) (by kernel_rfl) (fun _ _ _ h => h) (by rfl) (by assumption) ?hys3 ?rests3
  case hys3 => (intro w hSw; (try dsimp only at hSw); first | (go_simp; done) | (go_simp; with_reducible rfl))
  simp only [Act.put, List.setIfInBounds_toArray, List.set_cons_zero, List.set_cons_succ]
  refine take_yes (i := 4) (v := ?vs4) rfl (by kernel_rfl) (by kernel_rfl) (by kernel_rfl) (fun _ _ _ h => h) (by rfl) (by assumption) ?hys4 ?rests4
  case hys4 => (intro w hSw; (try dsimp only at hSw); first | (go_simp; done) | (go_simp; with_reducible rfl))
  simp only [Act.put, List.setIfInBounds_toArray, List.set_cons_zero, List.set_cons_succ]
  refine take_call (i := 2) rfl (by kernel_rfl) (fun Kc hK => ?_)
  go_simp
  (go_at_call 48; refine (rwMul s11 s11 d11 d11 l11 c11 l11 c11 x x p _ r11 r11 Fx.out Fx.out Ep.out).mono ?_; rintro e w3 ⟨s13, d13, l13, c13, rfl, r13, f13, bw3⟩)
  refine hK.out _ _ ?_ (fun hHeld => ?_)
  · exact ⟨cell_on bw3 hHeld.1, cell_on bw3 hHeld.2.1, cell_on bw3 hHeld.2.2.1, cell_on bw3 hHeld.2.2.2.1, also hHeld.2.2.2.2 bw3⟩
  clear hK Kc
  have zbw3 := bw3.size
  replace BB := also BB bw3
  replace x_a := x_a.on bw3
  replace x_b := x_b.on bw3
  replace x_r := x_r.on bw3
  replace r11 := r11.below bw3
  replace r12 := r12.below bw3
  replace x_X := x_X.on bw3
  replace x_Y := x_Y.on bw3
  refine take_call (i := 5) rfl (by kernel_rfl) (fun Kc hK => ?_)
  go_simp
  (go_at_call 48; refine (rwMul s12 s12 d12 d12 l12 c12 l12 c12 y y q _ r12 r12 Fy.out Fy.out Eq.out).mono ?_; rintro e w4 ⟨s14, d14, l14, c14, rfl, r14, f14, bw4⟩)
  refine hK.out _ _ ?_ (fun hHeld => ?_)
  · exact ⟨cell_on bw4 hHeld.1, cell_on bw4 hHeld.2.1, cell_on bw4 hHeld.2.2.1, cell_on bw4 hHeld.2.2.2.1, also hHeld.2.2.2.2 bw4⟩
  clear hK Kc
  have zbw4 := bw4.size
  replace BB := also BB bw4
  replace x_a := x_a.on bw4
  replace x_b := x_b.on bw4
  replace x_r := x_r.on bw4
  replace r11 := r11.below bw4
  replace r12 := r12.below bw4
  replace x_X := x_X.on bw4
  replace x_Y := x_Y.on bw4
  replace r13 := r13.below bw4
  refine take_call (i := 6) rfl (by kernel_rfl) (fun Kc hK => ?_)
  go_simp
  (go_at_call 47; refine (rwAdd s13 s14 d13 d14 l13 c13 l14 c14 p q z _ r13 r14 Fp.out Fq.out HZ.out).mono ?_; rintro e w5 ⟨s15, d15, l15, c15, rfl, r15, f15, bw5⟩)
  refine hK.out _ _ ?_ (fun hHeld => ?_)
  · exact ⟨cell_on bw5 hHeld.1, cell_on bw5 hHeld.2.1, cell_on bw5 hHeld.2.2.1, cell_on bw5 hHeld.2.2.2.1, also hHeld.2.2.2.2 bw5⟩
  clear hK Kc
  have zbw5 := bw5.size
  replace BB := also BB bw5
  replace x_a := x_a.on bw5
  replace x_b := x_b.on bw5
  replace x_r := x_r.on bw5
  replace r11 := r11.below bw5
  replace r12 := r12.below bw5
  replace x_X := x_X.on bw5
  replace x_Y := x_Y.on bw5
  replace r13 := r13.below bw5
  replace r14 := r14.below bw5
  have ⟨x_r_0, x_r_1, x_r_2, x_r_3⟩ := x_r
  refine take_call (i := 7) rfl (by kernel_rfl) (fun Kc hK => ?_)
  go_simp
  refine hK.out _ _ ?_ (fun hHeld => ?_)
  · first | exact ⟨cell_put2 hHeld.1 (by omega) _ _, cell_put2 hHeld.2.1 (by omega) _ _, cell_put2 hHeld.2.2.1 (by omega) _ _, cell_put2 hHeld.2.2.2.1 (by omega) _ _, below_put2 hHeld.2.2.2.2 (by omega) _ _⟩ | exact ⟨x_X.c0, x_X.c1, x_Y.c0, x_Y.c1, BB⟩
  clear hK Kc
  refine wpAnyH_done (by kernel_rfl) ?_ _
  go_wp2
  exact bodyPost_ret (v := .agg #[.int .i64 s15, .slice d15 l15 c15]) (by simp [results, Tryz.results28, go_sem, *]) rfl (endR _ (by omega) BB r15 (f15 _ (by omega) ⟨f13 _ (by omega) trivial, f14 _ (by omega) trivial⟩) (fun j hj _ => f15 j (by omega) ⟨f13 j (by omega) trivial, f14 j (by omega) trivial⟩) _ _)
end Go.Proofs.YtcaihoomcdbfnaaGreat

namespace Go.Proofs.YtcaihoomcdbfnaaGreat
open Go.RowKit
set_option linter.unusedVariables false

theorem abs_add' {X Y : Int} {K : Nat} (h1 : X.natAbs < 4294967296 ^ K) (h2 : Y.natAbs < 4294967296 ^ K) : (X + Y).natAbs < 4294967296 ^ (K + 1) := by
  have := Int.natAbs_add_le X Y
  rw [Nat.pow_succ]
  omega
theorem abs_mul' {X Y : Int} {K L : Nat} (h1 : X.natAbs < 4294967296 ^ K) (h2 : Y.natAbs < 4294967296 ^ L) : (X * Y).natAbs < 4294967296 ^ (K + L) := by
  rw [Int.natAbs_mul, Nat.pow_add]
  exact Nat.mul_lt_mul_of_lt_of_le h1 (Nat.le_of_lt h2) (Nat.pow_pos (by decide))
theorem nat_mul' {X Y : Nat} {K L : Nat} (h1 : X < 4294967296 ^ K) (h2 : Y < 4294967296 ^ L) : X * Y < 4294967296 ^ (K + L) := by
  rw [Nat.pow_add]
  exact Nat.mul_lt_mul_of_lt_of_le h1 (Nat.le_of_lt h2) (Nat.pow_pos (by decide))
end Go.Proofs.YtcaihoomcdbfnaaGreat

namespace Go.Proofs.YtcaihoomcdbfnaaGreat
open Go.RowKit
set_option linter.unusedVariables false

set_option maxRecDepth 100000 in
set_option maxHeartbeats 1000000 in
theorem rqNeg (s1 : Int) (d1 : Option Addr) (l1 c1 : Nat) (t1 : Int) (g1 : Option Addr) (h1 k1 : Nat) (N1 : Int) (D1 : Nat) (K : Nat) (w : World) (x : RQ w K s1 d1 l1 c1 t1 g1 h1 k1 N1 D1) (N : Int) (hN : N = -N1) :
    Calls Tryz.prog 75 #[.agg #[.int .i64 s1, .slice d1 l1 c1, .int .i64 t1, .slice g1 h1 k1]] w (GotRQ w (fun j => NA j d1 l1 ∧ NA j g1 h1) K N D1) := by
  have HN : Hid _ := hN
  have n1 : NA (w.heap.size + 1) d1 l1 := x.rn.hd.sl.na (by omega)
  have n2 : NA (w.heap.size + 1) g1 h1 := x.rd.hd.sl.na (by omega)
  have HS : Hid (N.natAbs < 4294967296 ^ K) := by unfold Hid; rw [hN, Int.natAbs_neg]; exact x.ns
  clear hN
  obtain ⟨W, hW, bW, x_a, x_z, sW⟩ := bs_44 w (.int .i64 s1) (.slice d1 l1 c1) (.int .i64 t1) (.slice g1 h1 k1) (.int .i64 0) (.slice none 0 0) (.int .i64 0) (.slice none 0 0) 41 41
  have zbW := bW.size
  replace x := x.below bW
  have BB := bW
  go_enter Tryz.func75, Tryz.ntmps75
  go_wp2
  rw [← hW]
  clear hW
  have dd1 : Below W.heap.size W W.drew := (Below.refl _ _).drew
  have zdd1 := dd1.size
  replace x := x.below dd1
  replace BB := also BB dd1
  replace x_a := x_a.on dd1
  replace x_z := x_z.on dd1
  refine wp_region_held_drew (S := (fun w' => w'.cell? ⟨w.heap.size, 0, none⟩ = some (.int .i64 s1) ∧ w'.cell? ⟨w.heap.size, 1, none⟩ = some (.slice d1 l1 c1) ∧ w'.cell? ⟨w.heap.size, 2, none⟩ = some (.int .i64 t1) ∧ w'.cell? ⟨w.heap.size, 3, none⟩ = some (.slice g1 h1 k1) ∧ Below w.heap.size w w')) (by kernel_rfl) ?_ (fun hHeld => ?_)
  · first | exact ⟨x_a.c0, x_a.c1, x_a.c2, x_a.c3, BB⟩ | exact ⟨cell_on bw3 hHeld.1, cell_on bw3 hHeld.2.1, cell_on bw3 hHeld.2.2.1, cell_on bw3 hHeld.2.2.2.1, also hHeld.2.2.2.2 bw3⟩ | exact ⟨cell_put4 hHeld.1 (by omega) _ _ _ _, cell_put4 hHeld.2.1 (by omega) _ _ _ _, cell_put4 hHeld.2.2.1 (by omega) _ _ _ _, cell_put4 hHeld.2.2.2.1 (by omega) _ _ _ _, below_put4 hHeld.2.2.2.2 (by omega) _ _ _ _⟩
  refine take_yes (i := 0) (v := ?vr0) rfl (by kernel_rfl) (by kernel_rfl) (by kernel_rfl) (fun _ _ _ h => h) (by rfl) (by assumption) ?hyr0 ?restr0
  case hyr0 => (intro w hSw; (try dsimp only at hSw); first | (go_simp; done) | (go_simp; with_reducible rfl))
  simp only [Act.put, List.setIfInBounds_toArray, List.set_cons_zero, List.set_cons_succ]
  refine take_yes (i := 1) (v := ?vr1) rfl (by kernel_rfl) (by kernel_rfl) (by kernel_rfl) (fun _ _ _ h => h) (by rfl) (by assumption) ?hyr1 ?restr1
  case hyr1 => (intro w hSw; (try dsimp only at hSw); first | (go_simp; done) | (go_simp; with_reducible rfl))
  simp only [Act.put, List.setIfInBounds_toArray, List.set_cons_zero, List.set_cons_succ]
  refine take_yes (i := 3) (v := ?vr3) rfl (by kernel_rfl) (by kernel_rfl) (by kernel_rfl) (fun _ _ _ h => h) (by rfl) (by assumption) ?hyr3 ?restr3
  case hyr3 => (intro w hSw; (try dsimp only at hSw); first | (go_simp; done) | (go_simp; with_reducible rfl))
  simp only [Act.put, List.setIfInBounds_toArray, List.set_cons_zero, List.set_cons_succ]
  refine take_yes (i := 4) (v := ?vr4) rfl (by kernel_rfl) (by kernel_rfl) (by kernel_rfl) (fun _ _ _ h => h) (by rfl) (by assumption) ?hyr4 ?restr4
  case hyr4 => (intro w hSw; (try dsimp only at hSw); first | (go_simp; done) | (go_simp; with_reducible rfl))
  simp only [Act.put, List.setIfInBounds_toArray, List.set_cons_zero, List.set_cons_succ]
  refine take_call (i := 2) rfl (by kernel_rfl) (fun Kc hK => ?_)
  go_simp
  (go_at_call 91; refine (rwNeg s1 d1 l1 c1 N1 N _ x.rn HN.out).mono ?_; rintro e w3 ⟨s3, d3, l3, c3, rfl, h3, f3, bw3⟩)
  refine hK.out _ _ ?_ (fun hHeld => ?_)
  · first | exact ⟨x_a.c0, x_a.c1, x_a.c2, x_a.c3, BB⟩ | exact ⟨cell_on bw3 hHeld.1, cell_on bw3 hHeld.2.1, cell_on bw3 hHeld.2.2.1, cell_on bw3 hHeld.2.2.2.1, also hHeld.2.2.2.2 bw3⟩ | exact ⟨cell_put4 hHeld.1 (by omega) _ _ _ _, cell_put4 hHeld.2.1 (by omega) _ _ _ _, cell_put4 hHeld.2.2.1 (by omega) _ _ _ _, cell_put4 hHeld.2.2.2.1 (by omega) _ _ _ _, below_put4 hHeld.2.2.2.2 (by omega) _ _ _ _⟩
  clear hK Kc
  have zbw3 := bw3.size
  replace x := x.below bw3
  replace BB := also BB bw3
  replace x_a := x_a.on bw3
  replace x_z := x_z.on bw3
  refine take_yes (i := 5) (v := ?vr5) rfl (by kernel_rfl) (by kernel_rfl) (by kernel_rfl) (fun _ _ _ h => h) (by rfl) (by assumption) ?hyr5 ?restr5
  case hyr5 => (intro w hSw; (try dsimp only at hSw); first | (go_simp; done) | (go_simp; with_reducible rfl))
  simp only [Act.put, List.setIfInBounds_toArray, List.set_cons_zero, List.set_cons_succ]
  have ⟨x_z_0, x_z_1, x_z_2, x_z_3, x_z_4, x_z_5, x_z_6, x_z_7⟩ := x_z
  refine take_call (i := 6) rfl (by kernel_rfl) (fun Kc hK => ?_)
  go_simp
  refine hK.out _ _ ?_ (fun hHeld => ?_)
  · first | exact ⟨x_a.c0, x_a.c1, x_a.c2, x_a.c3, BB⟩ | exact ⟨cell_on bw3 hHeld.1, cell_on bw3 hHeld.2.1, cell_on bw3 hHeld.2.2.1, cell_on bw3 hHeld.2.2.2.1, also hHeld.2.2.2.2 bw3⟩ | exact ⟨cell_put4 hHeld.1 (by omega) _ _ _ _, cell_put4 hHeld.2.1 (by omega) _ _ _ _, cell_put4 hHeld.2.2.1 (by omega) _ _ _ _, cell_put4 hHeld.2.2.2.1 (by omega) _ _ _ _, below_put4 hHeld.2.2.2.2 (by omega) _ _ _ _⟩
  clear hK Kc
  refine wpAnyH_done (by kernel_rfl) ?_ _
  go_wp2
  exact bodyPost_ret (v := .agg #[.int .i64 s3, .slice d3 l3 c3, .int .i64 t1, .slice g1 h1 k1]) (by simp [results, Tryz.results75, go_sem, *]) rfl (endRQ _ (by omega) BB ⟨h3, x.rd, x.dp, HS.out, x.ds, x.kk⟩ (f3 _ (by omega) n1) n2 (fun j hj q => ⟨f3 j (by omega) q.1, q.2⟩) _ _ _ _)
end Go.Proofs.YtcaihoomcdbfnaaGreat

namespace Go.Proofs.YtcaihoomcdbfnaaGreat
open Go.RowKit
set_option linter.unusedVariables false

def RQIs (K : Nat) (N : Int) (D : Nat) (x : Value) (R : World → Prop) (A : Nat → Prop) : Prop := ∃ (s : Int) (d : Option Addr) (l c : Nat) (t : Int) (g : Option Addr) (h k : Nat), x = .agg #[.int .i64 s, .slice d l c, .int .i64 t, .slice g h k] ∧ R = (fun w => RQ w K s d l c t g h k N D) ∧ A = fun j => NA j d l ∧ NA j g h
theorem rqIs_good {K : Nat} {N : Int} {D : Nat} {x : Value} {R : World → Prop} {A : Nat → Prop} (h : RQIs K N D x R A) : (∀ w w', R w → Below w.heap.size w w' → R w') ∧ ∀ w k, R w → w.heap.size ≤ k → A k := by
  obtain ⟨s, d, l, c, t, g, h, k, rfl, rfl, rfl⟩ := h
  exact ⟨fun w w' h hb => h.below hb, fun w k h hk => ⟨RN.apart h.rn hk, RN.apart h.rd hk⟩⟩
end Go.Proofs.YtcaihoomcdbfnaaGreat

namespace Go.Proofs.YtcaihoomcdbfnaaGreat
open Go.RowKit
set_option linter.unusedVariables false

theorem far_b (u v x y : Int) : (offX u v x y - 2 * (u * y - v * x) * u) * (offX u v x y - 2 * (u * y - v * x) * u) + (offY u v x y - 2 * (u * y - v * x) * v) * (offY u v x y - 2 * (u * y - v * x) * v) = (u * u + v * v) * (x * x + y * y) * ((x - u) * (x - u) + (y - v) * (y - v)) := by unfold offX offY; grind
theorem far_c (u v x y : Int) : (offX u v x y - 2 * (u * y - v * x) * x) * (offX u v x y - 2 * (u * y - v * x) * x) + (offY u v x y - 2 * (u * y - v * x) * y) * (offY u v x y - 2 * (u * y - v * x) * y) = (u * u + v * v) * (x * x + y * y) * ((x - u) * (x - u) + (y - v) * (y - v)) := by unfold offX offY; grind
/-- The center is as far from all three corners. -/
theorem cen_far_a (a1 a2 b1 b2 c1 c2 : Int) : (cenX a1 a2 b1 b2 c1 c2 - 2 * areaP a1 a2 b1 b2 c1 c2 * a1) * (cenX a1 a2 b1 b2 c1 c2 - 2 * areaP a1 a2 b1 b2 c1 c2 * a1) + (cenY a1 a2 b1 b2 c1 c2 - 2 * areaP a1 a2 b1 b2 c1 c2 * a2) * (cenY a1 a2 b1 b2 c1 c2 - 2 * areaP a1 a2 b1 b2 c1 c2 * a2) = rad2 a1 a2 b1 b2 c1 c2 := by
  obtain ⟨e1, e2, e3, e4⟩ := sides a1 a2 b1 b2 c1 c2
  have h := far_a (b1 - a1) (b2 - a2) (c1 - a1) (c2 - a2)
  rw [← e1, ← e2, ← e3] at h
  unfold cenX cenY rad2
  rw [← h]
  generalize offX (b1 - a1) (b2 - a2) (c1 - a1) (c2 - a2) = X
  generalize offY (b1 - a1) (b2 - a2) (c1 - a1) (c2 - a2) = Y
  generalize areaP a1 a2 b1 b2 c1 c2 = A
  grind
theorem cen_far_b (a1 a2 b1 b2 c1 c2 : Int) : (cenX a1 a2 b1 b2 c1 c2 - 2 * areaP a1 a2 b1 b2 c1 c2 * b1) * (cenX a1 a2 b1 b2 c1 c2 - 2 * areaP a1 a2 b1 b2 c1 c2 * b1) + (cenY a1 a2 b1 b2 c1 c2 - 2 * areaP a1 a2 b1 b2 c1 c2 * b2) * (cenY a1 a2 b1 b2 c1 c2 - 2 * areaP a1 a2 b1 b2 c1 c2 * b2) = rad2 a1 a2 b1 b2 c1 c2 := by
  obtain ⟨e1, e2, e3, e4⟩ := sides a1 a2 b1 b2 c1 c2
  have h := far_b (b1 - a1) (b2 - a2) (c1 - a1) (c2 - a2)
  rw [← e1, ← e2, ← e3, ← e4] at h
  unfold cenX cenY rad2
  rw [← h]
  generalize offX (b1 - a1) (b2 - a2) (c1 - a1) (c2 - a2) = X
  generalize offY (b1 - a1) (b2 - a2) (c1 - a1) (c2 - a2) = Y
  generalize areaP a1 a2 b1 b2 c1 c2 = A
  grind
theorem cen_far_c (a1 a2 b1 b2 c1 c2 : Int) : (cenX a1 a2 b1 b2 c1 c2 - 2 * areaP a1 a2 b1 b2 c1 c2 * c1) * (cenX a1 a2 b1 b2 c1 c2 - 2 * areaP a1 a2 b1 b2 c1 c2 * c1) + (cenY a1 a2 b1 b2 c1 c2 - 2 * areaP a1 a2 b1 b2 c1 c2 * c2) * (cenY a1 a2 b1 b2 c1 c2 - 2 * areaP a1 a2 b1 b2 c1 c2 * c2) = rad2 a1 a2 b1 b2 c1 c2 := by
  obtain ⟨e1, e2, e3, e4⟩ := sides a1 a2 b1 b2 c1 c2
  have h := far_c (b1 - a1) (b2 - a2) (c1 - a1) (c2 - a2)
  rw [← e1, ← e2, ← e3, ← e4] at h
  unfold cenX cenY rad2
  rw [← h]
  generalize offX (b1 - a1) (b2 - a2) (c1 - a1) (c2 - a2) = X
  generalize offY (b1 - a1) (b2 - a2) (c1 - a1) (c2 - a2) = Y
  generalize areaP a1 a2 b1 b2 c1 c2 = A
  grind
end Go.Proofs.YtcaihoomcdbfnaaGreat

namespace Go.Proofs.YtcaihoomcdbfnaaGreat
open Go.RowKit
set_option linter.unusedVariables false

set_option maxRecDepth 100000 in
set_option maxHeartbeats 1000000 in
theorem rqOver (s1 : Int) (d1 : Option Addr) (l1 c1 : Nat) (t1 : Int) (g1 : Option Addr) (h1 k1 : Nat) (x y : Int) (K : Nat) (w : World) (hx : RN w s1 d1 l1 c1 x) (hy : RN w t1 g1 h1 k1 y) (h0 : y ≠ 0) (fx : x.natAbs < 4294967296 ^ K) (fy : y.natAbs < 4294967296 ^ K) (kk : K ≤ 10000) (N : Int) (D : Nat) (hN : N = x * y.sign) (hD : D = y.natAbs) :
    Calls Tryz.prog 67 #[.agg #[.int .i64 s1, .slice d1 l1 c1], .agg #[.int .i64 t1, .slice g1 h1 k1]] w (GotRQ w (fun j => NA j d1 l1 ∧ NA j g1 h1) K N D) := by
  have n1 : NA (w.heap.size + 1 + 1) d1 l1 := hx.hd.sl.na (by omega)
  have n2 : NA (w.heap.size + 1 + 1) g1 h1 := hy.hd.sl.na (by omega)
  have hs := hy.sg
  rcases sign_cases y with ⟨hy0, e⟩ | ⟨hy0, e⟩ | ⟨hy0, e⟩
  · obtain rfl : t1 = -1 := by rw [hs, e]
    have HN : Hid (N = -x) := by unfold Hid; rw [hN, e]; omega
    have HD : Hid ((D : Int) = -y) := by unfold Hid; omega
    have d0 : 0 < D := by omega
    have HS : Hid (N.natAbs < 4294967296 ^ K) := by unfold Hid; rw [HN.out, Int.natAbs_neg]; exact fx
    have HT : Hid (D < 4294967296 ^ K) := by unfold Hid; rw [hD]; exact fy
    clear hN hD hs e hy0 h0
    obtain ⟨W, hW, bW, x_a, x_b, x_z, sW⟩ := bs_224 w (.int .i64 s1) (.slice d1 l1 c1) (.int .i64 (-1)) (.slice g1 h1 k1) (.int .i64 0) (.slice none 0 0) (.int .i64 0) (.slice none 0 0) 39 39 41
    have zbW := bW.size
    replace hx := hx.below bW
    replace hy := hy.below bW
    have BB := bW
    go_enter Tryz.func67, Tryz.ntmps67
    go_wp2
    rw [← hW]
    clear hW
    have dd1 : Below W.heap.size W W.drew := (Below.refl _ _).drew
    have zdd1 := dd1.size
    replace hx := hx.below dd1
    replace hy := hy.below dd1
    replace BB := also BB dd1
    replace x_a := x_a.on dd1
    replace x_b := x_b.on dd1
    replace x_z := x_z.on dd1
    refine wp_region_held_drew (S := (fun w' => w'.cell? ⟨w.heap.size, 0, none⟩ = some (.int .i64 s1) ∧ w'.cell? ⟨w.heap.size, 1, none⟩ = some (.slice d1 l1 c1) ∧ w'.cell? ⟨w.heap.size + 1, 0, none⟩ = some (.int .i64 (-1)) ∧ w'.cell? ⟨w.heap.size + 1, 1, none⟩ = some (.slice g1 h1 k1) ∧ Below w.heap.size w w')) (by kernel_rfl) ?_ (fun hHeld => ?_)
    · first | exact ⟨x_a.c0, x_a.c1, x_b.c0, x_b.c1, BB⟩ | exact ⟨cell_on bw4 hHeld.1, cell_on bw4 hHeld.2.1, cell_on bw4 hHeld.2.2.1, cell_on bw4 hHeld.2.2.2.1, also hHeld.2.2.2.2 bw4⟩ | exact ⟨cell_on bw3 hHeld.1, cell_on bw3 hHeld.2.1, cell_on bw3 hHeld.2.2.1, cell_on bw3 hHeld.2.2.2.1, also hHeld.2.2.2.2 bw3⟩ | exact ⟨cell_put4 hHeld.1 (by omega) _ _ _ _, cell_put4 hHeld.2.1 (by omega) _ _ _ _, cell_put4 hHeld.2.2.1 (by omega) _ _ _ _, cell_put4 hHeld.2.2.2.1 (by omega) _ _ _ _, below_put4 hHeld.2.2.2.2 (by omega) _ _ _ _⟩
    refine take_yes (i := 0) (v := ?vr0) rfl (by kernel_rfl) (by kernel_rfl) (by kernel_rfl) (fun _ _ _ h => h) (by rfl) (by assumption) ?hyr0 ?restr0
    case hyr0 => (intro w hSw; (try dsimp only at hSw); first | (go_simp; done) | (go_simp; with_reducible rfl))
    simp only [Act.put, List.setIfInBounds_toArray, List.set_cons_zero, List.set_cons_succ]
    refine take_yes (i := 2) (v := ?vr2) rfl (by kernel_rfl) (by kernel_rfl) (by kernel_rfl) (fun _ _ _ h => h) (by rfl) (by assumption) ?hyr2 ?restr2
    case hyr2 => (intro w hSw; (try dsimp only at hSw); first | (go_simp; done) | (go_simp; with_reducible rfl))
    simp only [Act.put, List.setIfInBounds_toArray, List.set_cons_zero, List.set_cons_succ]
    refine take_call (i := 1) rfl (by kernel_rfl) (fun Kc hK => ?_)
    go_simp
    (go_at_call 91; refine (rwNeg s1 d1 l1 c1 x N _ hx HN.out).mono ?_; rintro e w3 ⟨s3, d3, l3, c3, rfl, h3, f3, bw3⟩)
    refine hK.out _ _ ?_ (fun hHeld => ?_)
    · first | exact ⟨x_a.c0, x_a.c1, x_b.c0, x_b.c1, BB⟩ | exact ⟨cell_on bw4 hHeld.1, cell_on bw4 hHeld.2.1, cell_on bw4 hHeld.2.2.1, cell_on bw4 hHeld.2.2.2.1, also hHeld.2.2.2.2 bw4⟩ | exact ⟨cell_on bw3 hHeld.1, cell_on bw3 hHeld.2.1, cell_on bw3 hHeld.2.2.1, cell_on bw3 hHeld.2.2.2.1, also hHeld.2.2.2.2 bw3⟩ | exact ⟨cell_put4 hHeld.1 (by omega) _ _ _ _, cell_put4 hHeld.2.1 (by omega) _ _ _ _, cell_put4 hHeld.2.2.1 (by omega) _ _ _ _, cell_put4 hHeld.2.2.2.1 (by omega) _ _ _ _, below_put4 hHeld.2.2.2.2 (by omega) _ _ _ _⟩
    clear hK Kc
    have zbw3 := bw3.size
    replace hx := hx.below bw3
    replace hy := hy.below bw3
    replace BB := also BB bw3
    replace x_a := x_a.on bw3
    replace x_b := x_b.on bw3
    replace x_z := x_z.on bw3
    refine take_call (i := 3) rfl (by kernel_rfl) (fun Kc hK => ?_)
    go_simp
    (go_at_call 91; refine (rwNeg (-1) g1 h1 k1 y D _ hy HD.out).mono ?_; rintro e w4 ⟨s4, d4, l4, c4, rfl, h4, f4, bw4⟩)
    refine hK.out _ _ ?_ (fun hHeld => ?_)
    · first | exact ⟨x_a.c0, x_a.c1, x_b.c0, x_b.c1, BB⟩ | exact ⟨cell_on bw4 hHeld.1, cell_on bw4 hHeld.2.1, cell_on bw4 hHeld.2.2.1, cell_on bw4 hHeld.2.2.2.1, also hHeld.2.2.2.2 bw4⟩ | exact ⟨cell_on bw3 hHeld.1, cell_on bw3 hHeld.2.1, cell_on bw3 hHeld.2.2.1, cell_on bw3 hHeld.2.2.2.1, also hHeld.2.2.2.2 bw3⟩ | exact ⟨cell_put4 hHeld.1 (by omega) _ _ _ _, cell_put4 hHeld.2.1 (by omega) _ _ _ _, cell_put4 hHeld.2.2.1 (by omega) _ _ _ _, cell_put4 hHeld.2.2.2.1 (by omega) _ _ _ _, below_put4 hHeld.2.2.2.2 (by omega) _ _ _ _⟩
    clear hK Kc
    have zbw4 := bw4.size
    replace hx := hx.below bw4
    replace hy := hy.below bw4
    replace BB := also BB bw4
    replace x_a := x_a.on bw4
    replace x_b := x_b.on bw4
    replace x_z := x_z.on bw4
    replace h3 := h3.below bw4
    refine take_yes (i := 4) (v := ?vr4) rfl (by kernel_rfl) (by kernel_rfl) (by kernel_rfl) (fun _ _ _ h => h) (by rfl) (by assumption) ?hyr4 ?restr4
    case hyr4 => (intro w hSw; (try dsimp only at hSw); first | (go_simp; done) | (go_simp; with_reducible rfl))
    simp only [Act.put, List.setIfInBounds_toArray, List.set_cons_zero, List.set_cons_succ]
    have ⟨x_z_0, x_z_1, x_z_2, x_z_3, x_z_4, x_z_5, x_z_6, x_z_7⟩ := x_z
    refine take_call (i := 5) rfl (by kernel_rfl) (fun Kc hK => ?_)
    go_simp
    refine hK.out _ _ ?_ (fun hHeld => ?_)
    · first | exact ⟨x_a.c0, x_a.c1, x_b.c0, x_b.c1, BB⟩ | exact ⟨cell_on bw4 hHeld.1, cell_on bw4 hHeld.2.1, cell_on bw4 hHeld.2.2.1, cell_on bw4 hHeld.2.2.2.1, also hHeld.2.2.2.2 bw4⟩ | exact ⟨cell_on bw3 hHeld.1, cell_on bw3 hHeld.2.1, cell_on bw3 hHeld.2.2.1, cell_on bw3 hHeld.2.2.2.1, also hHeld.2.2.2.2 bw3⟩ | exact ⟨cell_put4 hHeld.1 (by omega) _ _ _ _, cell_put4 hHeld.2.1 (by omega) _ _ _ _, cell_put4 hHeld.2.2.1 (by omega) _ _ _ _, cell_put4 hHeld.2.2.2.1 (by omega) _ _ _ _, below_put4 hHeld.2.2.2.2 (by omega) _ _ _ _⟩
    clear hK Kc
    refine wpAnyH_done (by kernel_rfl) ?_ _
    go_wp2
    exact bodyPost_ret (v := .agg #[.int .i64 s3, .slice d3 l3 c3, .int .i64 s4, .slice d4 l4 c4]) (by simp [results, Tryz.results67, go_sem, *]) rfl (endRQ _ (by omega) BB ⟨h3, h4, d0, HS.out, HT.out, kk⟩ (f3 _ (by omega) n1) (f4 _ (by omega) n2) (fun j hj q => ⟨f3 j (by omega) q.1, f4 j (by omega) q.2⟩) _ _ _ _)
  · exact absurd hy0 h0
  · obtain rfl : t1 = 1 := by rw [hs, e]
    have HN : Hid (N = x) := by unfold Hid; rw [hN, e]; omega
    have HD : Hid ((D : Int) = y) := by unfold Hid; omega
    have d0 : 0 < D := by omega
    have HS : Hid (N.natAbs < 4294967296 ^ K) := by unfold Hid; rw [HN.out]; exact fx
    have HT : Hid (D < 4294967296 ^ K) := by unfold Hid; rw [hD]; exact fy
    clear hN hD hs e hy0 h0
    have hx0 := hx
    have hy0' := hy
    obtain ⟨W, hW, bW, x_a, x_b, x_z, sW⟩ := bs_224 w (.int .i64 s1) (.slice d1 l1 c1) (.int .i64 1) (.slice g1 h1 k1) (.int .i64 0) (.slice none 0 0) (.int .i64 0) (.slice none 0 0) 39 39 41
    have zbW := bW.size
    replace hx := hx.below bW
    replace hy := hy.below bW
    have BB := bW
    go_enter Tryz.func67, Tryz.ntmps67
    go_wp2
    have B1 : Below w.heap.size w _ := (((Below.refl w.heap.size w).alloc (Nat.le_refl _) (.cells #[.int .i64 s1, .slice d1 l1 c1] 39)).alloc (by simp) (.cells #[.int .i64 1, .slice g1 h1 k1] 39)).alloc (by simp; omega) (.cells #[.int .i64 s1, .slice d1 l1 c1, .int .i64 1, .slice g1 h1 k1] 41)
    have X1 := hx0.below B1
    have Y1 := hy0'.below B1
    exact bodyPost_ret (v := .agg #[.int .i64 s1, .slice d1 l1 c1, .int .i64 1, .slice g1 h1 k1]) (by simp [results, Tryz.results67, go_sem, *]) rfl (⟨s1, d1, l1, c1, 1, g1, h1, k1, rfl, ⟨by rw [HN.out]; exact X1, by rw [HD.out]; exact Y1, d0, HS.out, HT.out, kk⟩, fun j hj q => q, B1⟩)
set_option maxRecDepth 100000 in
set_option maxHeartbeats 1000000 in
theorem rqMul (s1 : Int) (d1 : Option Addr) (l1 c1 : Nat) (t1 : Int) (g1 : Option Addr) (h1 k1 : Nat) (N1 : Int) (D1 : Nat) (s2 : Int) (d2 : Option Addr) (l2 c2 : Nat) (t2 : Int) (g2 : Option Addr) (h2 k2 : Nat) (N2 : Int) (D2 : Nat) (K : Nat) (w : World) (x : RQ w K s1 d1 l1 c1 t1 g1 h1 k1 N1 D1) (y : RQ w K s2 d2 l2 c2 t2 g2 h2 k2 N2 D2) (kk : K + K ≤ 10000) (N : Int) (D : Nat) (hN : N = N1 * N2) (hD : D = D1 * D2) :
    Calls Tryz.prog 41 #[.agg #[.int .i64 s1, .slice d1 l1 c1, .int .i64 t1, .slice g1 h1 k1], .agg #[.int .i64 s2, .slice d2 l2 c2, .int .i64 t2, .slice g2 h2 k2]] w (GotRQ w (fun _ => True) (K + K) N D) := by
  have fx := x.fn
  have fy := y.fn
  have gx := x.fd
  have gy := y.fd
  have HS : Hid (N.natAbs < 4294967296 ^ (K + K)) := by unfold Hid; rw [hN]; exact abs_mul' x.ns y.ns
  have HT : Hid (D < 4294967296 ^ (K + K)) := by unfold Hid; rw [hD]; exact nat_mul' x.ds y.ds
  have d0 : 0 < D := by rw [hD]; exact Nat.mul_pos x.dp y.dp
  have HN : Hid _ := hN
  have HD : Hid ((D : Int) = (D1 : Int) * (D2 : Int)) := by unfold Hid; rw [hD]; simp
  clear hN hD
  obtain ⟨W, hW, bW, x_a, x_b, x_z, sW⟩ := bs_444 w (.int .i64 s1) (.slice d1 l1 c1) (.int .i64 t1) (.slice g1 h1 k1) (.int .i64 s2) (.slice d2 l2 c2) (.int .i64 t2) (.slice g2 h2 k2) (.int .i64 0) (.slice none 0 0) (.int .i64 0) (.slice none 0 0) 41 41 41
  have zbW := bW.size
  replace x := x.below bW
  replace y := y.below bW
  have BB := bW
  go_enter Tryz.func41, Tryz.ntmps41
  go_wp2
  rw [← hW]
  clear hW
  have dd1 : Below W.heap.size W W.drew := (Below.refl _ _).drew
  have zdd1 := dd1.size
  replace x := x.below dd1
  replace y := y.below dd1
  replace BB := also BB dd1
  replace x_a := x_a.on dd1
  replace x_b := x_b.on dd1
  replace x_z := x_z.on dd1
  refine wp_region_held_drew (S := (fun w' => w'.cell? ⟨w.heap.size, 0, none⟩ = some (.int .i64 s1) ∧ w'.cell? ⟨w.heap.size, 1, none⟩ = some (.slice d1 l1 c1) ∧ w'.cell? ⟨w.heap.size, 2, none⟩ = some (.int .i64 t1) ∧ w'.cell? ⟨w.heap.size, 3, none⟩ = some (.slice g1 h1 k1) ∧ w'.cell? ⟨w.heap.size + 1, 0, none⟩ = some (.int .i64 s2) ∧ w'.cell? ⟨w.heap.size + 1, 1, none⟩ = some (.slice d2 l2 c2) ∧ w'.cell? ⟨w.heap.size + 1, 2, none⟩ = some (.int .i64 t2) ∧ w'.cell? ⟨w.heap.size + 1, 3, none⟩ = some (.slice g2 h2 k2) ∧ Below w.heap.size w w')) (by kernel_rfl) ?_ (fun hHeld => ?_)
  · first | exact ⟨x_a.c0, x_a.c1, x_a.c2, x_a.c3, x_b.c0, x_b.c1, x_b.c2, x_b.c3, BB⟩ | exact ⟨cell_on bw6 hHeld.1, cell_on bw6 hHeld.2.1, cell_on bw6 hHeld.2.2.1, cell_on bw6 hHeld.2.2.2.1, cell_on bw6 hHeld.2.2.2.2.1, cell_on bw6 hHeld.2.2.2.2.2.1, cell_on bw6 hHeld.2.2.2.2.2.2.1, cell_on bw6 hHeld.2.2.2.2.2.2.2.1, also hHeld.2.2.2.2.2.2.2.2 bw6⟩ | exact ⟨cell_on bw3 hHeld.1, cell_on bw3 hHeld.2.1, cell_on bw3 hHeld.2.2.1, cell_on bw3 hHeld.2.2.2.1, cell_on bw3 hHeld.2.2.2.2.1, cell_on bw3 hHeld.2.2.2.2.2.1, cell_on bw3 hHeld.2.2.2.2.2.2.1, cell_on bw3 hHeld.2.2.2.2.2.2.2.1, also hHeld.2.2.2.2.2.2.2.2 bw3⟩ | exact ⟨cell_put4 hHeld.1 (by omega) _ _ _ _, cell_put4 hHeld.2.1 (by omega) _ _ _ _, cell_put4 hHeld.2.2.1 (by omega) _ _ _ _, cell_put4 hHeld.2.2.2.1 (by omega) _ _ _ _, cell_put4 hHeld.2.2.2.2.1 (by omega) _ _ _ _, cell_put4 hHeld.2.2.2.2.2.1 (by omega) _ _ _ _, cell_put4 hHeld.2.2.2.2.2.2.1 (by omega) _ _ _ _, cell_put4 hHeld.2.2.2.2.2.2.2.1 (by omega) _ _ _ _, below_put4 hHeld.2.2.2.2.2.2.2.2 (by omega) _ _ _ _⟩
  refine take_yes (i := 0) (v := ?vr0) rfl (by kernel_rfl) (by kernel_rfl) (by kernel_rfl) (fun _ _ _ h => h) (by rfl) (by assumption) ?hyr0 ?restr0
  case hyr0 => (intro w hSw; (try dsimp only at hSw); first | (go_simp; done) | (go_simp; with_reducible rfl))
  simp only [Act.put, List.setIfInBounds_toArray, List.set_cons_zero, List.set_cons_succ]
  refine take_yes (i := 1) (v := ?vr1) rfl (by kernel_rfl) (by kernel_rfl) (by kernel_rfl) (fun _ _ _ h => h) (by rfl) (by assumption) ?hyr1 ?restr1
  case hyr1 => (intro w hSw; (try dsimp only at hSw); first | (go_simp; done) | (go_simp; with_reducible rfl))
  simp only [Act.put, List.setIfInBounds_toArray, List.set_cons_zero, List.set_cons_succ]
  refine take_yes (i := 2) (v := ?vr2) rfl (by kernel_rfl) (by kernel_rfl) (by kernel_rfl) (fun _ _ _ h => h) (by rfl) (by assumption) ?hyr2 ?restr2
  case hyr2 => (intro w hSw; (try dsimp only at hSw); first | (go_simp; done) | (go_simp; with_reducible rfl))
  simp only [Act.put, List.setIfInBounds_toArray, List.set_cons_zero, List.set_cons_succ]
  refine take_yes (i := 3) (v := ?vr3) rfl (by kernel_rfl) (by kernel_rfl) (by kernel_rfl) (fun _ _ _ h => h) (by rfl) (by assumption) ?hyr3 ?restr3
  case hyr3 => (intro w hSw; (try dsimp only at hSw); first | (go_simp; done) | (go_simp; with_reducible rfl))
  simp only [Act.put, List.setIfInBounds_toArray, List.set_cons_zero, List.set_cons_succ]
  refine take_yes (i := 5) (v := ?vr5) rfl (by kernel_rfl) (by kernel_rfl) (by kernel_rfl) (fun _ _ _ h => h) (by rfl) (by assumption) ?hyr5 ?restr5
  case hyr5 => (intro w hSw; (try dsimp only at hSw); first | (go_simp; done) | (go_simp; with_reducible rfl))
  simp only [Act.put, List.setIfInBounds_toArray, List.set_cons_zero, List.set_cons_succ]
  refine take_yes (i := 6) (v := ?vr6) rfl (by kernel_rfl) (by kernel_rfl) (by kernel_rfl) (fun _ _ _ h => h) (by rfl) (by assumption) ?hyr6 ?restr6
  case hyr6 => (intro w hSw; (try dsimp only at hSw); first | (go_simp; done) | (go_simp; with_reducible rfl))
  simp only [Act.put, List.setIfInBounds_toArray, List.set_cons_zero, List.set_cons_succ]
  refine take_yes (i := 7) (v := ?vr7) rfl (by kernel_rfl) (by kernel_rfl) (by kernel_rfl) (fun _ _ _ h => h) (by rfl) (by assumption) ?hyr7 ?restr7
  case hyr7 => (intro w hSw; (try dsimp only at hSw); first | (go_simp; done) | (go_simp; with_reducible rfl))
  simp only [Act.put, List.setIfInBounds_toArray, List.set_cons_zero, List.set_cons_succ]
  refine take_yes (i := 8) (v := ?vr8) rfl (by kernel_rfl) (by kernel_rfl) (by kernel_rfl) (fun _ _ _ h => h) (by rfl) (by assumption) ?hyr8 ?restr8
  case hyr8 => (intro w hSw; (try dsimp only at hSw); first | (go_simp; done) | (go_simp; with_reducible rfl))
  simp only [Act.put, List.setIfInBounds_toArray, List.set_cons_zero, List.set_cons_succ]
  refine take_call (i := 4) rfl (by kernel_rfl) (fun Kc hK => ?_)
  go_simp
  (go_at_call 48; refine (rwMul s1 s2 d1 d2 l1 c1 l2 c2 N1 N2 N _ x.rn y.rn fx fy HN.out).mono ?_; rintro e w3 ⟨s3, d3, l3, c3, rfl, q3, f3, bw3⟩)
  refine hK.out _ _ ?_ (fun hHeld => ?_)
  · first | exact ⟨x_a.c0, x_a.c1, x_a.c2, x_a.c3, x_b.c0, x_b.c1, x_b.c2, x_b.c3, BB⟩ | exact ⟨cell_on bw6 hHeld.1, cell_on bw6 hHeld.2.1, cell_on bw6 hHeld.2.2.1, cell_on bw6 hHeld.2.2.2.1, cell_on bw6 hHeld.2.2.2.2.1, cell_on bw6 hHeld.2.2.2.2.2.1, cell_on bw6 hHeld.2.2.2.2.2.2.1, cell_on bw6 hHeld.2.2.2.2.2.2.2.1, also hHeld.2.2.2.2.2.2.2.2 bw6⟩ | exact ⟨cell_on bw3 hHeld.1, cell_on bw3 hHeld.2.1, cell_on bw3 hHeld.2.2.1, cell_on bw3 hHeld.2.2.2.1, cell_on bw3 hHeld.2.2.2.2.1, cell_on bw3 hHeld.2.2.2.2.2.1, cell_on bw3 hHeld.2.2.2.2.2.2.1, cell_on bw3 hHeld.2.2.2.2.2.2.2.1, also hHeld.2.2.2.2.2.2.2.2 bw3⟩ | exact ⟨cell_put4 hHeld.1 (by omega) _ _ _ _, cell_put4 hHeld.2.1 (by omega) _ _ _ _, cell_put4 hHeld.2.2.1 (by omega) _ _ _ _, cell_put4 hHeld.2.2.2.1 (by omega) _ _ _ _, cell_put4 hHeld.2.2.2.2.1 (by omega) _ _ _ _, cell_put4 hHeld.2.2.2.2.2.1 (by omega) _ _ _ _, cell_put4 hHeld.2.2.2.2.2.2.1 (by omega) _ _ _ _, cell_put4 hHeld.2.2.2.2.2.2.2.1 (by omega) _ _ _ _, below_put4 hHeld.2.2.2.2.2.2.2.2 (by omega) _ _ _ _⟩
  clear hK Kc
  have zbw3 := bw3.size
  replace x := x.below bw3
  replace y := y.below bw3
  replace BB := also BB bw3
  replace x_a := x_a.on bw3
  replace x_b := x_b.on bw3
  replace x_z := x_z.on bw3
  refine take_call (i := 9) rfl (by kernel_rfl) (fun Kc hK => ?_)
  go_simp
  (go_at_call 48; refine (rwMul t1 t2 g1 g2 h1 k1 h2 k2 D1 D2 D _ x.rd y.rd gx gy HD.out).mono ?_; rintro e w6 ⟨s6, d6, l6, c6, rfl, q6, f6, bw6⟩)
  refine hK.out _ _ ?_ (fun hHeld => ?_)
  · first | exact ⟨x_a.c0, x_a.c1, x_a.c2, x_a.c3, x_b.c0, x_b.c1, x_b.c2, x_b.c3, BB⟩ | exact ⟨cell_on bw6 hHeld.1, cell_on bw6 hHeld.2.1, cell_on bw6 hHeld.2.2.1, cell_on bw6 hHeld.2.2.2.1, cell_on bw6 hHeld.2.2.2.2.1, cell_on bw6 hHeld.2.2.2.2.2.1, cell_on bw6 hHeld.2.2.2.2.2.2.1, cell_on bw6 hHeld.2.2.2.2.2.2.2.1, also hHeld.2.2.2.2.2.2.2.2 bw6⟩ | exact ⟨cell_on bw3 hHeld.1, cell_on bw3 hHeld.2.1, cell_on bw3 hHeld.2.2.1, cell_on bw3 hHeld.2.2.2.1, cell_on bw3 hHeld.2.2.2.2.1, cell_on bw3 hHeld.2.2.2.2.2.1, cell_on bw3 hHeld.2.2.2.2.2.2.1, cell_on bw3 hHeld.2.2.2.2.2.2.2.1, also hHeld.2.2.2.2.2.2.2.2 bw3⟩ | exact ⟨cell_put4 hHeld.1 (by omega) _ _ _ _, cell_put4 hHeld.2.1 (by omega) _ _ _ _, cell_put4 hHeld.2.2.1 (by omega) _ _ _ _, cell_put4 hHeld.2.2.2.1 (by omega) _ _ _ _, cell_put4 hHeld.2.2.2.2.1 (by omega) _ _ _ _, cell_put4 hHeld.2.2.2.2.2.1 (by omega) _ _ _ _, cell_put4 hHeld.2.2.2.2.2.2.1 (by omega) _ _ _ _, cell_put4 hHeld.2.2.2.2.2.2.2.1 (by omega) _ _ _ _, below_put4 hHeld.2.2.2.2.2.2.2.2 (by omega) _ _ _ _⟩
  clear hK Kc
  have zbw6 := bw6.size
  replace x := x.below bw6
  replace y := y.below bw6
  replace BB := also BB bw6
  replace x_a := x_a.on bw6
  replace x_b := x_b.on bw6
  replace x_z := x_z.on bw6
  replace q3 := q3.below bw6
  refine take_yes (i := 10) (v := ?vr10) rfl (by kernel_rfl) (by kernel_rfl) (by kernel_rfl) (fun _ _ _ h => h) (by rfl) (by assumption) ?hyr10 ?restr10
  case hyr10 => (intro w hSw; (try dsimp only at hSw); first | (go_simp; done) | (go_simp; with_reducible rfl))
  simp only [Act.put, List.setIfInBounds_toArray, List.set_cons_zero, List.set_cons_succ]
  have ⟨x_z_0, x_z_1, x_z_2, x_z_3, x_z_4, x_z_5, x_z_6, x_z_7⟩ := x_z
  refine take_call (i := 11) rfl (by kernel_rfl) (fun Kc hK => ?_)
  go_simp
  refine hK.out _ _ ?_ (fun hHeld => ?_)
  · first | exact ⟨x_a.c0, x_a.c1, x_a.c2, x_a.c3, x_b.c0, x_b.c1, x_b.c2, x_b.c3, BB⟩ | exact ⟨cell_on bw6 hHeld.1, cell_on bw6 hHeld.2.1, cell_on bw6 hHeld.2.2.1, cell_on bw6 hHeld.2.2.2.1, cell_on bw6 hHeld.2.2.2.2.1, cell_on bw6 hHeld.2.2.2.2.2.1, cell_on bw6 hHeld.2.2.2.2.2.2.1, cell_on bw6 hHeld.2.2.2.2.2.2.2.1, also hHeld.2.2.2.2.2.2.2.2 bw6⟩ | exact ⟨cell_on bw3 hHeld.1, cell_on bw3 hHeld.2.1, cell_on bw3 hHeld.2.2.1, cell_on bw3 hHeld.2.2.2.1, cell_on bw3 hHeld.2.2.2.2.1, cell_on bw3 hHeld.2.2.2.2.2.1, cell_on bw3 hHeld.2.2.2.2.2.2.1, cell_on bw3 hHeld.2.2.2.2.2.2.2.1, also hHeld.2.2.2.2.2.2.2.2 bw3⟩ | exact ⟨cell_put4 hHeld.1 (by omega) _ _ _ _, cell_put4 hHeld.2.1 (by omega) _ _ _ _, cell_put4 hHeld.2.2.1 (by omega) _ _ _ _, cell_put4 hHeld.2.2.2.1 (by omega) _ _ _ _, cell_put4 hHeld.2.2.2.2.1 (by omega) _ _ _ _, cell_put4 hHeld.2.2.2.2.2.1 (by omega) _ _ _ _, cell_put4 hHeld.2.2.2.2.2.2.1 (by omega) _ _ _ _, cell_put4 hHeld.2.2.2.2.2.2.2.1 (by omega) _ _ _ _, below_put4 hHeld.2.2.2.2.2.2.2.2 (by omega) _ _ _ _⟩
  clear hK Kc
  refine wpAnyH_done (by kernel_rfl) ?_ _
  go_wp2
  exact bodyPost_ret (v := .agg #[.int .i64 s3, .slice d3 l3 c3, .int .i64 s6, .slice d6 l6 c6]) (by simp [results, Tryz.results41, go_sem, *]) rfl (endRQ _ (by omega) BB ⟨q3, q6, d0, HS.out, HT.out, kk⟩ (f3 _ (by omega) trivial) (f6 _ (by omega) trivial) (fun j hj _ => ⟨f3 j (by omega) trivial, f6 j (by omega) trivial⟩) _ _ _ _)
set_option maxRecDepth 100000 in
set_option maxHeartbeats 1000000 in
theorem rqCmp (s1 : Int) (d1 : Option Addr) (l1 c1 : Nat) (t1 : Int) (g1 : Option Addr) (h1 k1 : Nat) (N1 : Int) (D1 : Nat) (s2 : Int) (d2 : Option Addr) (l2 c2 : Nat) (t2 : Int) (g2 : Option Addr) (h2 k2 : Nat) (N2 : Int) (D2 : Nat) (K : Nat) (w : World) (x : RQ w K s1 d1 l1 c1 t1 g1 h1 k1 N1 D1) (y : RQ w K s2 d2 l2 c2 t2 g2 h2 k2 N2 D2) (kk : K + K ≤ 10000) {e0 : Int} (he : e0 = (N1 * (D2 : Int) - N2 * (D1 : Int)).sign) :
    Calls Tryz.prog 45 #[.agg #[.int .i64 s1, .slice d1 l1 c1, .int .i64 t1, .slice g1 h1 k1], .agg #[.int .i64 s2, .slice d2 l2 c2, .int .i64 t2, .slice g2 h2 k2]] w fun e w' => e = .returned (.int .i64 e0) ∧ Below w.heap.size w w' := by
  have fx := x.fn
  have fy := y.fn
  have gx := x.fd
  have gy := y.fd
  have f1 : hf.nlen (N1 * (D2 : Int)).natAbs ≤ 1000000 := hfew (abs_mul' x.ns (by simpa using y.ds)) (by omega)
  have f2 : hf.nlen (N2 * (D1 : Int)).natAbs ≤ 1000000 := hfew (abs_mul' y.ns (by simpa using x.ds)) (by omega)
  have HE : Hid _ := he
  clear he
  obtain ⟨W, hW, bW, x_a, x_b, sW⟩ := bs_44 w (.int .i64 s1) (.slice d1 l1 c1) (.int .i64 t1) (.slice g1 h1 k1) (.int .i64 s2) (.slice d2 l2 c2) (.int .i64 t2) (.slice g2 h2 k2) 41 41
  have zbW := bW.size
  replace x := x.below bW
  replace y := y.below bW
  have BB := bW
  go_enter Tryz.func45, Tryz.ntmps45
  go_wp2
  rw [← hW]
  clear hW
  have dd1 : Below W.heap.size W W.drew := (Below.refl _ _).drew
  have zdd1 := dd1.size
  replace x := x.below dd1
  replace y := y.below dd1
  replace BB := also BB dd1
  replace x_a := x_a.on dd1
  replace x_b := x_b.on dd1
  refine wp_region_held_drew (S := (fun w' => w'.cell? ⟨w.heap.size, 0, none⟩ = some (.int .i64 s1) ∧ w'.cell? ⟨w.heap.size, 1, none⟩ = some (.slice d1 l1 c1) ∧ w'.cell? ⟨w.heap.size, 2, none⟩ = some (.int .i64 t1) ∧ w'.cell? ⟨w.heap.size, 3, none⟩ = some (.slice g1 h1 k1) ∧ w'.cell? ⟨w.heap.size + 1, 0, none⟩ = some (.int .i64 s2) ∧ w'.cell? ⟨w.heap.size + 1, 1, none⟩ = some (.slice d2 l2 c2) ∧ w'.cell? ⟨w.heap.size + 1, 2, none⟩ = some (.int .i64 t2) ∧ w'.cell? ⟨w.heap.size + 1, 3, none⟩ = some (.slice g2 h2 k2) ∧ Below w.heap.size w w')) (by kernel_rfl) ?_ (fun hHeld => ?_)
  · first | exact ⟨x_a.c0, x_a.c1, x_a.c2, x_a.c3, x_b.c0, x_b.c1, x_b.c2, x_b.c3, BB⟩ | exact ⟨cell_on bw5 hHeld.1, cell_on bw5 hHeld.2.1, cell_on bw5 hHeld.2.2.1, cell_on bw5 hHeld.2.2.2.1, cell_on bw5 hHeld.2.2.2.2.1, cell_on bw5 hHeld.2.2.2.2.2.1, cell_on bw5 hHeld.2.2.2.2.2.2.1, cell_on bw5 hHeld.2.2.2.2.2.2.2.1, also hHeld.2.2.2.2.2.2.2.2 bw5⟩ | exact ⟨cell_on bw4 hHeld.1, cell_on bw4 hHeld.2.1, cell_on bw4 hHeld.2.2.1, cell_on bw4 hHeld.2.2.2.1, cell_on bw4 hHeld.2.2.2.2.1, cell_on bw4 hHeld.2.2.2.2.2.1, cell_on bw4 hHeld.2.2.2.2.2.2.1, cell_on bw4 hHeld.2.2.2.2.2.2.2.1, also hHeld.2.2.2.2.2.2.2.2 bw4⟩ | exact ⟨cell_on bw3 hHeld.1, cell_on bw3 hHeld.2.1, cell_on bw3 hHeld.2.2.1, cell_on bw3 hHeld.2.2.2.1, cell_on bw3 hHeld.2.2.2.2.1, cell_on bw3 hHeld.2.2.2.2.2.1, cell_on bw3 hHeld.2.2.2.2.2.2.1, cell_on bw3 hHeld.2.2.2.2.2.2.2.1, also hHeld.2.2.2.2.2.2.2.2 bw3⟩
  refine take_yes (i := 0) (v := ?vr0) rfl (by kernel_rfl) (by kernel_rfl) (by kernel_rfl) (fun _ _ _ h => h) (by rfl) (by assumption) ?hyr0 ?restr0
  case hyr0 => (intro w hSw; (try dsimp only at hSw); first | (go_simp; done) | (go_simp; with_reducible rfl))
  simp only [Act.put, List.setIfInBounds_toArray, List.set_cons_zero, List.set_cons_succ]
  refine take_yes (i := 1) (v := ?vr1) rfl (by kernel_rfl) (by kernel_rfl) (by kernel_rfl) (fun _ _ _ h => h) (by rfl) (by assumption) ?hyr1 ?restr1
  case hyr1 => (intro w hSw; (try dsimp only at hSw); first | (go_simp; done) | (go_simp; with_reducible rfl))
  simp only [Act.put, List.setIfInBounds_toArray, List.set_cons_zero, List.set_cons_succ]
  refine take_yes (i := 2) (v := ?vr2) rfl (by kernel_rfl) (by kernel_rfl) (by kernel_rfl) (fun _ _ _ h => h) (by rfl) (by assumption) ?hyr2 ?restr2
  case hyr2 => (intro w hSw; (try dsimp only at hSw); first | (go_simp; done) | (go_simp; with_reducible rfl))
  simp only [Act.put, List.setIfInBounds_toArray, List.set_cons_zero, List.set_cons_succ]
  refine take_yes (i := 3) (v := ?vr3) rfl (by kernel_rfl) (by kernel_rfl) (by kernel_rfl) (fun _ _ _ h => h) (by rfl) (by assumption) ?hyr3 ?restr3
  case hyr3 => (intro w hSw; (try dsimp only at hSw); first | (go_simp; done) | (go_simp; with_reducible rfl))
  simp only [Act.put, List.setIfInBounds_toArray, List.set_cons_zero, List.set_cons_succ]
  refine take_yes (i := 5) (v := ?vr5) rfl (by kernel_rfl) (by kernel_rfl) (by kernel_rfl) (fun _ _ _ h => h) (by rfl) (by assumption) ?hyr5 ?restr5
  case hyr5 => (intro w hSw; (try dsimp only at hSw); first | (go_simp; done) | (go_simp; with_reducible rfl))
  simp only [Act.put, List.setIfInBounds_toArray, List.set_cons_zero, List.set_cons_succ]
  refine take_yes (i := 6) (v := ?vr6) rfl (by kernel_rfl) (by kernel_rfl) (by kernel_rfl) (fun _ _ _ h => h) (by rfl) (by assumption) ?hyr6 ?restr6
  case hyr6 => (intro w hSw; (try dsimp only at hSw); first | (go_simp; done) | (go_simp; with_reducible rfl))
  simp only [Act.put, List.setIfInBounds_toArray, List.set_cons_zero, List.set_cons_succ]
  refine take_yes (i := 7) (v := ?vr7) rfl (by kernel_rfl) (by kernel_rfl) (by kernel_rfl) (fun _ _ _ h => h) (by rfl) (by assumption) ?hyr7 ?restr7
  case hyr7 => (intro w hSw; (try dsimp only at hSw); first | (go_simp; done) | (go_simp; with_reducible rfl))
  simp only [Act.put, List.setIfInBounds_toArray, List.set_cons_zero, List.set_cons_succ]
  refine take_yes (i := 8) (v := ?vr8) rfl (by kernel_rfl) (by kernel_rfl) (by kernel_rfl) (fun _ _ _ h => h) (by rfl) (by assumption) ?hyr8 ?restr8
  case hyr8 => (intro w hSw; (try dsimp only at hSw); first | (go_simp; done) | (go_simp; with_reducible rfl))
  simp only [Act.put, List.setIfInBounds_toArray, List.set_cons_zero, List.set_cons_succ]
  refine take_call (i := 4) rfl (by kernel_rfl) (fun Kc hK => ?_)
  go_simp
  (go_at_call 48; refine (rwMul s1 t2 d1 g2 l1 c1 h2 k2 N1 D2 _ _ x.rn y.rd fx gy rfl).mono ?_; rintro e w3 ⟨s3, d3, l3, c3, rfl, q3, f3, bw3⟩)
  refine hK.out _ _ ?_ (fun hHeld => ?_)
  · first | exact ⟨x_a.c0, x_a.c1, x_a.c2, x_a.c3, x_b.c0, x_b.c1, x_b.c2, x_b.c3, BB⟩ | exact ⟨cell_on bw5 hHeld.1, cell_on bw5 hHeld.2.1, cell_on bw5 hHeld.2.2.1, cell_on bw5 hHeld.2.2.2.1, cell_on bw5 hHeld.2.2.2.2.1, cell_on bw5 hHeld.2.2.2.2.2.1, cell_on bw5 hHeld.2.2.2.2.2.2.1, cell_on bw5 hHeld.2.2.2.2.2.2.2.1, also hHeld.2.2.2.2.2.2.2.2 bw5⟩ | exact ⟨cell_on bw4 hHeld.1, cell_on bw4 hHeld.2.1, cell_on bw4 hHeld.2.2.1, cell_on bw4 hHeld.2.2.2.1, cell_on bw4 hHeld.2.2.2.2.1, cell_on bw4 hHeld.2.2.2.2.2.1, cell_on bw4 hHeld.2.2.2.2.2.2.1, cell_on bw4 hHeld.2.2.2.2.2.2.2.1, also hHeld.2.2.2.2.2.2.2.2 bw4⟩ | exact ⟨cell_on bw3 hHeld.1, cell_on bw3 hHeld.2.1, cell_on bw3 hHeld.2.2.1, cell_on bw3 hHeld.2.2.2.1, cell_on bw3 hHeld.2.2.2.2.1, cell_on bw3 hHeld.2.2.2.2.2.1, cell_on bw3 hHeld.2.2.2.2.2.2.1, cell_on bw3 hHeld.2.2.2.2.2.2.2.1, also hHeld.2.2.2.2.2.2.2.2 bw3⟩
  clear hK Kc
  have zbw3 := bw3.size
  replace x := x.below bw3
  replace y := y.below bw3
  replace BB := also BB bw3
  replace x_a := x_a.on bw3
  replace x_b := x_b.on bw3
  refine take_call (i := 9) rfl (by kernel_rfl) (fun Kc hK => ?_)
  go_simp
  (go_at_call 48; refine (rwMul s2 t1 d2 g1 l2 c2 h1 k1 N2 D1 _ _ y.rn x.rd fy gx rfl).mono ?_; rintro e w4 ⟨s4, d4, l4, c4, rfl, q4, f4, bw4⟩)
  refine hK.out _ _ ?_ (fun hHeld => ?_)
  · first | exact ⟨x_a.c0, x_a.c1, x_a.c2, x_a.c3, x_b.c0, x_b.c1, x_b.c2, x_b.c3, BB⟩ | exact ⟨cell_on bw5 hHeld.1, cell_on bw5 hHeld.2.1, cell_on bw5 hHeld.2.2.1, cell_on bw5 hHeld.2.2.2.1, cell_on bw5 hHeld.2.2.2.2.1, cell_on bw5 hHeld.2.2.2.2.2.1, cell_on bw5 hHeld.2.2.2.2.2.2.1, cell_on bw5 hHeld.2.2.2.2.2.2.2.1, also hHeld.2.2.2.2.2.2.2.2 bw5⟩ | exact ⟨cell_on bw4 hHeld.1, cell_on bw4 hHeld.2.1, cell_on bw4 hHeld.2.2.1, cell_on bw4 hHeld.2.2.2.1, cell_on bw4 hHeld.2.2.2.2.1, cell_on bw4 hHeld.2.2.2.2.2.1, cell_on bw4 hHeld.2.2.2.2.2.2.1, cell_on bw4 hHeld.2.2.2.2.2.2.2.1, also hHeld.2.2.2.2.2.2.2.2 bw4⟩ | exact ⟨cell_on bw3 hHeld.1, cell_on bw3 hHeld.2.1, cell_on bw3 hHeld.2.2.1, cell_on bw3 hHeld.2.2.2.1, cell_on bw3 hHeld.2.2.2.2.1, cell_on bw3 hHeld.2.2.2.2.2.1, cell_on bw3 hHeld.2.2.2.2.2.2.1, cell_on bw3 hHeld.2.2.2.2.2.2.2.1, also hHeld.2.2.2.2.2.2.2.2 bw3⟩
  clear hK Kc
  have zbw4 := bw4.size
  replace x := x.below bw4
  replace y := y.below bw4
  replace BB := also BB bw4
  replace x_a := x_a.on bw4
  replace x_b := x_b.on bw4
  replace q3 := q3.below bw4
  refine take_call (i := 10) rfl (by kernel_rfl) (fun Kc hK => ?_)
  go_simp
  (go_at_call 61; refine (rwCmp s3 s4 d3 d4 l3 c3 l4 c4 _ _ _ q3 q4 f1 f2 HE.out).mono ?_; rintro e w5 ⟨rfl, bw5⟩)
  refine hK.out _ _ ?_ (fun hHeld => ?_)
  · first | exact ⟨x_a.c0, x_a.c1, x_a.c2, x_a.c3, x_b.c0, x_b.c1, x_b.c2, x_b.c3, BB⟩ | exact ⟨cell_on bw5 hHeld.1, cell_on bw5 hHeld.2.1, cell_on bw5 hHeld.2.2.1, cell_on bw5 hHeld.2.2.2.1, cell_on bw5 hHeld.2.2.2.2.1, cell_on bw5 hHeld.2.2.2.2.2.1, cell_on bw5 hHeld.2.2.2.2.2.2.1, cell_on bw5 hHeld.2.2.2.2.2.2.2.1, also hHeld.2.2.2.2.2.2.2.2 bw5⟩ | exact ⟨cell_on bw4 hHeld.1, cell_on bw4 hHeld.2.1, cell_on bw4 hHeld.2.2.1, cell_on bw4 hHeld.2.2.2.1, cell_on bw4 hHeld.2.2.2.2.1, cell_on bw4 hHeld.2.2.2.2.2.1, cell_on bw4 hHeld.2.2.2.2.2.2.1, cell_on bw4 hHeld.2.2.2.2.2.2.2.1, also hHeld.2.2.2.2.2.2.2.2 bw4⟩ | exact ⟨cell_on bw3 hHeld.1, cell_on bw3 hHeld.2.1, cell_on bw3 hHeld.2.2.1, cell_on bw3 hHeld.2.2.2.1, cell_on bw3 hHeld.2.2.2.2.1, cell_on bw3 hHeld.2.2.2.2.2.1, cell_on bw3 hHeld.2.2.2.2.2.2.1, cell_on bw3 hHeld.2.2.2.2.2.2.2.1, also hHeld.2.2.2.2.2.2.2.2 bw3⟩
  clear hK Kc
  have zbw5 := bw5.size
  replace x := x.below bw5
  replace y := y.below bw5
  replace BB := also BB bw5
  replace x_a := x_a.on bw5
  replace x_b := x_b.on bw5
  replace q3 := q3.below bw5
  replace q4 := q4.below bw5
  refine take_yes (i := 11) (v := ?vr11) rfl (by kernel_rfl) (by kernel_rfl) (by kernel_rfl) (fun _ _ _ h => h) (by rfl) (by assumption) ?hyr11 ?restr11
  case hyr11 => (intro w hSw; (try dsimp only at hSw); first | (go_simp; done) | (go_simp; with_reducible rfl))
  simp only [Act.put, List.setIfInBounds_toArray, List.set_cons_zero, List.set_cons_succ]
  refine wpAnyH_done (by kernel_rfl) ?_ _
  go_wp2
  go_ret
  exact ⟨rfl, BB⟩
end Go.Proofs.YtcaihoomcdbfnaaGreat
