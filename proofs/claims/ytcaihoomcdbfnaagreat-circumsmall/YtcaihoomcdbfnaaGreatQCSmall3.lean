/-
  Joined texts of this law, part 3:
  What zelligeref09's Center answers.
-/
import Derived.Test.YtcaihoomcdbfnaaGreatQCSmall2
namespace Go.Proofs.YtcaihoomcdbfnaaGreat
open Go.RowKit
set_option linter.unusedVariables false

theorem below_put8 {B b : Nat} {w w' : World} (h : Below B w w') (hb : B ≤ b) (u0 u1 u2 u3 u4 u5 u6 u7 : Value) : Below B w ((((((((w'.setCell ⟨b, 0, none⟩ u0).setCell ⟨b, 1, none⟩ u1).setCell ⟨b, 2, none⟩ u2).setCell ⟨b, 3, none⟩ u3).setCell ⟨b, 4, none⟩ u4).setCell ⟨b, 5, none⟩ u5).setCell ⟨b, 6, none⟩ u6).setCell ⟨b, 7, none⟩ u7) := ((((((((h.setCell hb u0).setCell hb u1).setCell hb u2).setCell hb u3).setCell hb u4).setCell hb u5).setCell hb u6).setCell hb u7)
theorem cell_put8 {w : World} {n k i : Nat} {x : Value} (h : w.cell? ⟨n, i, none⟩ = some x) (hk : n ≠ k) (u0 u1 u2 u3 u4 u5 u6 u7 : Value) : ((((((((w.setCell ⟨k, 0, none⟩ u0).setCell ⟨k, 1, none⟩ u1).setCell ⟨k, 2, none⟩ u2).setCell ⟨k, 3, none⟩ u3).setCell ⟨k, 4, none⟩ u4).setCell ⟨k, 5, none⟩ u5).setCell ⟨k, 6, none⟩ u6).setCell ⟨k, 7, none⟩ u7).cell? ⟨n, i, none⟩ = some x := (cell_put1 (cell_put1 (cell_put1 (cell_put1 (cell_put1 (cell_put1 (cell_put1 (cell_put1 h hk u0) hk u1) hk u2) hk u3) hk u4) hk u5) hk u6) hk u7)
theorem RN.put8 {w : World} {s : Int} {d : Option Addr} {l c b : Nat} {z : Int} (h : RN w s d l c z) (hn : NA b d l) (u0 u1 u2 u3 u4 u5 u6 u7 : Value) : RN ((((((((w.setCell ⟨b, 0, none⟩ u0).setCell ⟨b, 1, none⟩ u1).setCell ⟨b, 2, none⟩ u2).setCell ⟨b, 3, none⟩ u3).setCell ⟨b, 4, none⟩ u4).setCell ⟨b, 5, none⟩ u5).setCell ⟨b, 6, none⟩ u6).setCell ⟨b, 7, none⟩ u7) s d l c z := ((((((((h.put hn 0 u0).put hn 1 u1).put hn 2 u2).put hn 3 u3).put hn 4 u4).put hn 5 u5).put hn 6 u6).put hn 7 u7)
theorem RQ.put8 {w : World} {K : Nat} {s : Int} {d : Option Addr} {l c : Nat} {t : Int} {g : Option Addr} {h k b : Nat} {N : Int} {D : Nat} (q : RQ w K s d l c t g h k N D) (n1 : NA b d l) (n2 : NA b g h) (u0 u1 u2 u3 u4 u5 u6 u7 : Value) : RQ ((((((((w.setCell ⟨b, 0, none⟩ u0).setCell ⟨b, 1, none⟩ u1).setCell ⟨b, 2, none⟩ u2).setCell ⟨b, 3, none⟩ u3).setCell ⟨b, 4, none⟩ u4).setCell ⟨b, 5, none⟩ u5).setCell ⟨b, 6, none⟩ u6).setCell ⟨b, 7, none⟩ u7) K s d l c t g h k N D := ⟨q.rn.put8 n1 u0 u1 u2 u3 u4 u5 u6 u7, q.rd.put8 n2 u0 u1 u2 u3 u4 u5 u6 u7, q.dp, q.ns, q.ds, q.kk⟩
/-- A spot of the reference: two fractions. -/
def GotSp (w : World) (K : Nat) (N1 : Int) (D1 : Nat) (N2 : Int) (D2 : Nat) (e : Ending) (w' : World) : Prop := ∃ (s1 : Int) (d1 : Option Addr) (l1 c1 : Nat) (t1 : Int) (g1 : Option Addr) (h1 k1 : Nat) (s2 : Int) (d2 : Option Addr) (l2 c2 : Nat) (t2 : Int) (g2 : Option Addr) (h2 k2 : Nat), e = .returned (.agg #[.int .i64 s1, .slice d1 l1 c1, .int .i64 t1, .slice g1 h1 k1, .int .i64 s2, .slice d2 l2 c2, .int .i64 t2, .slice g2 h2 k2]) ∧ RQ w' K s1 d1 l1 c1 t1 g1 h1 k1 N1 D1 ∧ RQ w' K s2 d2 l2 c2 t2 g2 h2 k2 N2 D2 ∧ (∀ j, j < w.heap.size → (NA j d1 l1 ∧ NA j g1 h1) ∧ (NA j d2 l2 ∧ NA j g2 h2)) ∧ Below w.heap.size w w'
theorem bs_2228 (w : World) (x00 x01 x10 x11 x20 x21 x30 x31 x32 x33 x34 x35 x36 x37 : Value) (t0 t1 t2 t3 : TypeId) : ∃ W, W = ((((w.alloc (.cells #[x00, x01] t0)).alloc (.cells #[x10, x11] t1)).alloc (.cells #[x20, x21] t2)).alloc (.cells #[x30, x31, x32, x33, x34, x35, x36, x37] t3)) ∧ Below w.heap.size w W ∧ Bx W (w.heap.size) x00 x01 ∧ Bx W (w.heap.size + 1) x10 x11 ∧ Bx W (w.heap.size + 1 + 1) x20 x21 ∧ B8 W (w.heap.size + 1 + 1 + 1) x30 x31 x32 x33 x34 x35 x36 x37 ∧ w.heap.size + 1 + 1 + 1 < W.heap.size := by
  have e0 : Below w.heap.size w (w.alloc (.cells #[x00, x01] t0)) := (Below.refl _ _).alloc (Nat.le_refl _) _
  have h0 := bx_new w x00 x01 t0
  have e1 : Below (w.alloc (.cells #[x00, x01] t0)).heap.size (w.alloc (.cells #[x00, x01] t0)) ((w.alloc (.cells #[x00, x01] t0)).alloc (.cells #[x10, x11] t1)) := (Below.refl _ _).alloc (Nat.le_refl _) _
  have h1 := bx_new (w.alloc (.cells #[x00, x01] t0)) x10 x11 t1
  rw [World.size_alloc] at h1
  have e2 : Below ((w.alloc (.cells #[x00, x01] t0)).alloc (.cells #[x10, x11] t1)).heap.size ((w.alloc (.cells #[x00, x01] t0)).alloc (.cells #[x10, x11] t1)) (((w.alloc (.cells #[x00, x01] t0)).alloc (.cells #[x10, x11] t1)).alloc (.cells #[x20, x21] t2)) := (Below.refl _ _).alloc (Nat.le_refl _) _
  have h2 := bx_new ((w.alloc (.cells #[x00, x01] t0)).alloc (.cells #[x10, x11] t1)) x20 x21 t2
  rw [World.size_alloc, World.size_alloc] at h2
  have e3 : Below (((w.alloc (.cells #[x00, x01] t0)).alloc (.cells #[x10, x11] t1)).alloc (.cells #[x20, x21] t2)).heap.size (((w.alloc (.cells #[x00, x01] t0)).alloc (.cells #[x10, x11] t1)).alloc (.cells #[x20, x21] t2)) ((((w.alloc (.cells #[x00, x01] t0)).alloc (.cells #[x10, x11] t1)).alloc (.cells #[x20, x21] t2)).alloc (.cells #[x30, x31, x32, x33, x34, x35, x36, x37] t3)) := (Below.refl _ _).alloc (Nat.le_refl _) _
  have h3 := b8_new (((w.alloc (.cells #[x00, x01] t0)).alloc (.cells #[x10, x11] t1)).alloc (.cells #[x20, x21] t2)) x30 x31 x32 x33 x34 x35 x36 x37 t3
  rw [World.size_alloc, World.size_alloc, World.size_alloc] at h3
  exact ⟨_, rfl, also (also (also (e0) e1) e2) e3, (((h0.on e1).on e2).on e3), ((h1.on e2).on e3), (h2.on e3), h3, by simp⟩
def SpE (P Q R : Int) : Nat → Value → (World → Prop) → (Nat → Prop) → Prop
  | 0 => RNIs P
  | 1 => RNIs Q
  | 2 => RNIs R
  | _ => ValIs undef
theorem SpE_good (P Q R : Int) : GoodSp (SpE P Q R) := fun j x R A h => match j with
  | 0 => rnIs_good h
  | 1 => rnIs_good h
  | 2 => rnIs_good h
  | k + 3 => valIs_good h
def SpEZ : Nat → List Value
  | 0 => [.int .i64 0, .slice none 0 0]
  | 1 => [.int .i64 0, .slice none 0 0]
  | 2 => [.int .i64 0, .slice none 0 0]
  | _ => []
theorem fuel_SpE_b0 {bD eD : Nat → Bool} {f : Nat} (hf : f = 3 + (nb (bD 0) + nb (bD 1) + nb (bD 2) + nb (eD 0) + nb (eD 1) + nb (eD 2))) (h : bD 0 = false) : f - 1 = 3 + (nb (upd bD 0 true 0) + nb (upd bD 0 true 1) + nb (upd bD 0 true 2) + nb (eD 0) + nb (eD 1) + nb (eD 2)) := by
  have h1 : nb (bD 0) = 1 := by rw [h]; rfl
  have h2 : nb (upd bD 0 true 0) = 0 := rfl
  have q1 : nb (upd bD 0 true 1) = nb (bD 1) := rfl
  have q2 : nb (upd bD 0 true 2) = nb (bD 2) := rfl
  omega
theorem fuel_SpE_b1 {bD eD : Nat → Bool} {f : Nat} (hf : f = 3 + (nb (bD 0) + nb (bD 1) + nb (bD 2) + nb (eD 0) + nb (eD 1) + nb (eD 2))) (h : bD 1 = false) : f - 1 = 3 + (nb (upd bD 1 true 0) + nb (upd bD 1 true 1) + nb (upd bD 1 true 2) + nb (eD 0) + nb (eD 1) + nb (eD 2)) := by
  have h1 : nb (bD 1) = 1 := by rw [h]; rfl
  have h2 : nb (upd bD 1 true 1) = 0 := rfl
  have q0 : nb (upd bD 1 true 0) = nb (bD 0) := rfl
  have q2 : nb (upd bD 1 true 2) = nb (bD 2) := rfl
  omega
theorem fuel_SpE_b2 {bD eD : Nat → Bool} {f : Nat} (hf : f = 3 + (nb (bD 0) + nb (bD 1) + nb (bD 2) + nb (eD 0) + nb (eD 1) + nb (eD 2))) (h : bD 2 = false) : f - 1 = 3 + (nb (upd bD 2 true 0) + nb (upd bD 2 true 1) + nb (upd bD 2 true 2) + nb (eD 0) + nb (eD 1) + nb (eD 2)) := by
  have h1 : nb (bD 2) = 1 := by rw [h]; rfl
  have h2 : nb (upd bD 2 true 2) = 0 := rfl
  have q0 : nb (upd bD 2 true 0) = nb (bD 0) := rfl
  have q1 : nb (upd bD 2 true 1) = nb (bD 1) := rfl
  omega
theorem fuel_SpE_e0 {bD eD : Nat → Bool} {f : Nat} (hf : f = 3 + (nb (bD 0) + nb (bD 1) + nb (bD 2) + nb (eD 0) + nb (eD 1) + nb (eD 2))) (h : eD 0 = false) : f - 1 = 3 + (nb (bD 0) + nb (bD 1) + nb (bD 2) + nb (upd eD 0 true 0) + nb (upd eD 0 true 1) + nb (upd eD 0 true 2)) := by
  have h1 : nb (eD 0) = 1 := by rw [h]; rfl
  have h2 : nb (upd eD 0 true 0) = 0 := rfl
  have q1 : nb (upd eD 0 true 1) = nb (eD 1) := rfl
  have q2 : nb (upd eD 0 true 2) = nb (eD 2) := rfl
  omega
theorem fuel_SpE_e1 {bD eD : Nat → Bool} {f : Nat} (hf : f = 3 + (nb (bD 0) + nb (bD 1) + nb (bD 2) + nb (eD 0) + nb (eD 1) + nb (eD 2))) (h : eD 1 = false) : f - 1 = 3 + (nb (bD 0) + nb (bD 1) + nb (bD 2) + nb (upd eD 1 true 0) + nb (upd eD 1 true 1) + nb (upd eD 1 true 2)) := by
  have h1 : nb (eD 1) = 1 := by rw [h]; rfl
  have h2 : nb (upd eD 1 true 1) = 0 := rfl
  have q0 : nb (upd eD 1 true 0) = nb (eD 0) := rfl
  have q2 : nb (upd eD 1 true 2) = nb (eD 2) := rfl
  omega
theorem fuel_SpE_e2 {bD eD : Nat → Bool} {f : Nat} (hf : f = 3 + (nb (bD 0) + nb (bD 1) + nb (bD 2) + nb (eD 0) + nb (eD 1) + nb (eD 2))) (h : eD 2 = false) : f - 1 = 3 + (nb (bD 0) + nb (bD 1) + nb (bD 2) + nb (upd eD 2 true 0) + nb (upd eD 2 true 1) + nb (upd eD 2 true 2)) := by
  have h1 : nb (eD 2) = 1 := by rw [h]; rfl
  have h2 : nb (upd eD 2 true 2) = 0 := rfl
  have q0 : nb (upd eD 2 true 0) = nb (eD 0) := rfl
  have q1 : nb (upd eD 2 true 1) = nb (eD 1) := rfl
  omega
def SpF (Xw Yw Zw : Int) : Nat → Value → (World → Prop) → (Nat → Prop) → Prop
  | 0 => RNIs Xw
  | 1 => RNIs Yw
  | 2 => RNIs Zw
  | _ => ValIs undef
theorem SpF_good (Xw Yw Zw : Int) : GoodSp (SpF Xw Yw Zw) := fun j x R A h => match j with
  | 0 => rnIs_good h
  | 1 => rnIs_good h
  | 2 => rnIs_good h
  | k + 3 => valIs_good h
def SpFZ : Nat → List Value
  | 0 => [.int .i64 0, .slice none 0 0]
  | 1 => [.int .i64 0, .slice none 0 0]
  | 2 => [.int .i64 0, .slice none 0 0]
  | _ => []
theorem fuel_SpF_b0 {bD eD : Nat → Bool} {f : Nat} (hf : f = 3 + (nb (bD 0) + nb (bD 1) + nb (bD 2) + nb (eD 0) + nb (eD 1) + nb (eD 2))) (h : bD 0 = false) : f - 1 = 3 + (nb (upd bD 0 true 0) + nb (upd bD 0 true 1) + nb (upd bD 0 true 2) + nb (eD 0) + nb (eD 1) + nb (eD 2)) := by
  have h1 : nb (bD 0) = 1 := by rw [h]; rfl
  have h2 : nb (upd bD 0 true 0) = 0 := rfl
  have q1 : nb (upd bD 0 true 1) = nb (bD 1) := rfl
  have q2 : nb (upd bD 0 true 2) = nb (bD 2) := rfl
  omega
theorem fuel_SpF_b1 {bD eD : Nat → Bool} {f : Nat} (hf : f = 3 + (nb (bD 0) + nb (bD 1) + nb (bD 2) + nb (eD 0) + nb (eD 1) + nb (eD 2))) (h : bD 1 = false) : f - 1 = 3 + (nb (upd bD 1 true 0) + nb (upd bD 1 true 1) + nb (upd bD 1 true 2) + nb (eD 0) + nb (eD 1) + nb (eD 2)) := by
  have h1 : nb (bD 1) = 1 := by rw [h]; rfl
  have h2 : nb (upd bD 1 true 1) = 0 := rfl
  have q0 : nb (upd bD 1 true 0) = nb (bD 0) := rfl
  have q2 : nb (upd bD 1 true 2) = nb (bD 2) := rfl
  omega
theorem fuel_SpF_b2 {bD eD : Nat → Bool} {f : Nat} (hf : f = 3 + (nb (bD 0) + nb (bD 1) + nb (bD 2) + nb (eD 0) + nb (eD 1) + nb (eD 2))) (h : bD 2 = false) : f - 1 = 3 + (nb (upd bD 2 true 0) + nb (upd bD 2 true 1) + nb (upd bD 2 true 2) + nb (eD 0) + nb (eD 1) + nb (eD 2)) := by
  have h1 : nb (bD 2) = 1 := by rw [h]; rfl
  have h2 : nb (upd bD 2 true 2) = 0 := rfl
  have q0 : nb (upd bD 2 true 0) = nb (bD 0) := rfl
  have q1 : nb (upd bD 2 true 1) = nb (bD 1) := rfl
  omega
theorem fuel_SpF_e0 {bD eD : Nat → Bool} {f : Nat} (hf : f = 3 + (nb (bD 0) + nb (bD 1) + nb (bD 2) + nb (eD 0) + nb (eD 1) + nb (eD 2))) (h : eD 0 = false) : f - 1 = 3 + (nb (bD 0) + nb (bD 1) + nb (bD 2) + nb (upd eD 0 true 0) + nb (upd eD 0 true 1) + nb (upd eD 0 true 2)) := by
  have h1 : nb (eD 0) = 1 := by rw [h]; rfl
  have h2 : nb (upd eD 0 true 0) = 0 := rfl
  have q1 : nb (upd eD 0 true 1) = nb (eD 1) := rfl
  have q2 : nb (upd eD 0 true 2) = nb (eD 2) := rfl
  omega
theorem fuel_SpF_e1 {bD eD : Nat → Bool} {f : Nat} (hf : f = 3 + (nb (bD 0) + nb (bD 1) + nb (bD 2) + nb (eD 0) + nb (eD 1) + nb (eD 2))) (h : eD 1 = false) : f - 1 = 3 + (nb (bD 0) + nb (bD 1) + nb (bD 2) + nb (upd eD 1 true 0) + nb (upd eD 1 true 1) + nb (upd eD 1 true 2)) := by
  have h1 : nb (eD 1) = 1 := by rw [h]; rfl
  have h2 : nb (upd eD 1 true 1) = 0 := rfl
  have q0 : nb (upd eD 1 true 0) = nb (eD 0) := rfl
  have q2 : nb (upd eD 1 true 2) = nb (eD 2) := rfl
  omega
theorem fuel_SpF_e2 {bD eD : Nat → Bool} {f : Nat} (hf : f = 3 + (nb (bD 0) + nb (bD 1) + nb (bD 2) + nb (eD 0) + nb (eD 1) + nb (eD 2))) (h : eD 2 = false) : f - 1 = 3 + (nb (bD 0) + nb (bD 1) + nb (bD 2) + nb (upd eD 2 true 0) + nb (upd eD 2 true 1) + nb (upd eD 2 true 2)) := by
  have h1 : nb (eD 2) = 1 := by rw [h]; rfl
  have h2 : nb (upd eD 2 true 2) = 0 := rfl
  have q0 : nb (upd eD 2 true 0) = nb (eD 0) := rfl
  have q1 : nb (upd eD 2 true 1) = nb (eD 1) := rfl
  omega
set_option maxRecDepth 100000 in
set_option maxHeartbeats 8000000 in
theorem rcCenter (a1 a2 b1 b2 c1 c2 : Int) (w : World) (ha : canC a1 a2 = true) (hb : canC b1 b2 = true) (hc : canC c1 c2 = true) (h0 : areaP a1 a2 b1 b2 c1 c2 ≠ 0) {N1 N2 : Int} {D1 D2 : Nat} (hN1 : N1 = lowN (meanN a1 b1 c1 (distP b1 b2 c1 c2) (distP c1 c2 a1 a2) (distP a1 a2 b1 b2)) (meanD (distP b1 b2 c1 c2) (distP c1 c2 a1 a2) (distP a1 a2 b1 b2)).natAbs) (hD1 : D1 = lowD (meanN a1 b1 c1 (distP b1 b2 c1 c2) (distP c1 c2 a1 a2) (distP a1 a2 b1 b2)) (meanD (distP b1 b2 c1 c2) (distP c1 c2 a1 a2) (distP a1 a2 b1 b2)).natAbs) (hN2 : N2 = lowN (meanN a2 b2 c2 (distP b1 b2 c1 c2) (distP c1 c2 a1 a2) (distP a1 a2 b1 b2)) (meanD (distP b1 b2 c1 c2) (distP c1 c2 a1 a2) (distP a1 a2 b1 b2)).natAbs) (hD2 : D2 = lowD (meanN a2 b2 c2 (distP b1 b2 c1 c2) (distP c1 c2 a1 a2) (distP a1 a2 b1 b2)) (meanD (distP b1 b2 c1 c2) (distP c1 c2 a1 a2) (distP a1 a2 b1 b2)).natAbs) :
    Calls Tryz.prog 12 #[.agg #[.int .i64 a1, .int .i64 a2], .agg #[.int .i64 b1, .int .i64 b2], .agg #[.int .i64 c1, .int .i64 c2]] w (GotSp w 10 N1 D1 N2 D2) := by
  have Ra1 : Hid _ := in_64 (canC_true.1 ha).1
  have Ra2 : Hid _ := in_64 (canC_true.1 ha).2
  have Rb1 : Hid _ := in_64 (canC_true.1 hb).1
  have Rb2 : Hid _ := in_64 (canC_true.1 hb).2
  have Rc1 : Hid _ := in_64 (canC_true.1 hc).1
  have Rc2 : Hid _ := in_64 (canC_true.1 hc).2
  have hpos := mean_pos h0
  obtain ⟨P, hP⟩ : ∃ z : Int, z = distP b1 b2 c1 c2 := ⟨_, rfl⟩
  have qP : P.natAbs ≤ 1000000000000000000000000000000 := by rw [hP]; have := dist_wide hb hc; omega
  rw [← hP] at hpos hN1 hD1 hN2 hD2
  have EP : Hid _ := hP
  clear hP
  obtain ⟨Q, hQ⟩ : ∃ z : Int, z = distP c1 c2 a1 a2 := ⟨_, rfl⟩
  have qQ : Q.natAbs ≤ 1000000000000000000000000000000 := by rw [hQ]; have := dist_wide hc ha; omega
  rw [← hQ] at hpos hN1 hD1 hN2 hD2
  have EQ : Hid _ := hQ
  clear hQ
  obtain ⟨R, hR⟩ : ∃ z : Int, z = distP a1 a2 b1 b2 := ⟨_, rfl⟩
  have qR : R.natAbs ≤ 1000000000000000000000000000000 := by rw [hR]; have := dist_wide ha hb; omega
  rw [← hR] at hpos hN1 hD1 hN2 hD2
  have ER : Hid _ := hR
  clear hR
  obtain ⟨Xw, hXw⟩ : ∃ z : Int, z = wgt P Q R := ⟨_, rfl⟩
  have qXw : Xw.natAbs ≤ 100000000000000000000000000000000000000000000000000000000000000 := by
    rw [hXw]
    have k : (Q + R - P).natAbs ≤ 3000000000000000000000000000000 := by omega
    have := prod_abs qP k
    unfold wgt
    omega
  have EXw : Hid _ := hXw
  obtain ⟨Yw, hYw⟩ : ∃ z : Int, z = wgt Q R P := ⟨_, rfl⟩
  have qYw : Yw.natAbs ≤ 100000000000000000000000000000000000000000000000000000000000000 := by
    rw [hYw]
    have k : (R + P - Q).natAbs ≤ 3000000000000000000000000000000 := by omega
    have := prod_abs qQ k
    unfold wgt
    omega
  have EYw : Hid _ := hYw
  obtain ⟨Zw, hZw⟩ : ∃ z : Int, z = wgt R P Q := ⟨_, rfl⟩
  have qZw : Zw.natAbs ≤ 100000000000000000000000000000000000000000000000000000000000000 := by
    rw [hZw]
    have k : (P + Q - R).natAbs ≤ 3000000000000000000000000000000 := by omega
    have := prod_abs qR k
    unfold wgt
    omega
  have EZw : Hid _ := hZw
  have hsum : meanD P Q R = Xw + Yw + Zw := by rw [hXw, hYw, hZw]; rfl
  rw [hsum] at hpos hN1 hD1 hN2 hD2
  have H0 : Hid (Xw + Yw + Zw ≠ 0) := by unfold Hid; omega
  have hsg : (Xw + Yw + Zw).sign = 1 := Int.sign_eq_one_of_pos hpos
  obtain ⟨M1, hM1⟩ : ∃ z : Int, z = meanN a1 b1 c1 P Q R := ⟨_, rfl⟩
  rw [← hM1] at hN1 hD1
  have EM1 : Hid (M1 = (a1 * Xw + b1 * Yw + c1 * Zw) * (Xw + Yw + Zw).sign) := by unfold Hid; rw [hsg, Int.mul_one, hM1, hXw, hYw, hZw]; rfl
  have EN1 : Hid _ := hN1
  have ED1 : Hid _ := hD1
  clear hM1 hN1 hD1
  obtain ⟨M2, hM2⟩ : ∃ z : Int, z = meanN a2 b2 c2 P Q R := ⟨_, rfl⟩
  rw [← hM2] at hN2 hD2
  have EM2 : Hid (M2 = (a2 * Xw + b2 * Yw + c2 * Zw) * (Xw + Yw + Zw).sign) := by unfold Hid; rw [hsg, Int.mul_one, hM2, hXw, hYw, hZw]; rfl
  have EN2 : Hid _ := hN2
  have ED2 : Hid _ := hD2
  clear hM2 hN2 hD2
  obtain ⟨D, hD⟩ : ∃ D : Nat, D = (Xw + Yw + Zw).natAbs := ⟨_, rfl⟩
  rw [← hD] at EN1 EN2 ED1 ED2
  have HD : Hid _ := hD
  have QP : Hid _ := qP
  have QQ' : Hid _ := qQ
  have QR : Hid _ := qR
  have QXw : Hid _ := qXw
  have QYw : Hid _ := qYw
  have QZw : Hid _ := qZw
  clear hD hsg hpos hsum hXw hYw hZw h0 qP qQ qR qXw qYw qZw
  obtain ⟨W, hW, bW, x_a, x_b, x_c, x_r, sW⟩ := bs_2228 w (.int .i64 a1) (.int .i64 a2) (.int .i64 b1) (.int .i64 b2) (.int .i64 c1) (.int .i64 c2) (.int .i64 0) (.slice none 0 0) (.int .i64 0) (.slice none 0 0) (.int .i64 0) (.slice none 0 0) (.int .i64 0) (.slice none 0 0) 23 23 23 43
  have zbW := bW.size
  have BB := bW
  go_enter Tryz.func12, Tryz.ntmps12
  go_wp2
  rw [← hW]
  clear hW
  obtain ⟨QQ, hQQ⟩ : ∃ QQ : Exit → Act → World → Prop, QQ = fun e act wr => e = .normal ∧ ∃ (pma0 : Nat) (pma1 : Nat) (pma2 : Nat) (s11 : Int) (d11 : Option Addr) (l11 c11 : Nat) (s12 : Int) (d12 : Option Addr) (l12 c12 : Nat) (s13 : Int) (d13 : Option Addr) (l13 c13 : Nat), act = ⟨#[.agg #[.int .i64 a1, .int .i64 a2], .agg #[.int .i64 b1, .int .i64 b2], .agg #[.int .i64 c1, .int .i64 c2], .pointer (some ⟨w.heap.size, 0, none⟩), .pointer (some ⟨w.heap.size + 1, 0, none⟩), .pointer (some ⟨w.heap.size + 1 + 1, 0, none⟩), .pointer (some ⟨w.heap.size + 1 + 1 + 1, 0, none⟩), .pointer (some ⟨pma0, 0, none⟩), .pointer (some ⟨pma1, 0, none⟩), .pointer (some ⟨pma2, 0, none⟩), undef, undef, undef, .agg #[.int .i64 b1, .int .i64 b2], .agg #[.int .i64 c1, .int .i64 c2], .agg #[.int .i64 s11, .slice d11 l11 c11], .agg #[.int .i64 c1, .int .i64 c2], .agg #[.int .i64 a1, .int .i64 a2], .agg #[.int .i64 s12, .slice d12 l12 c12], .agg #[.int .i64 a1, .int .i64 a2], .agg #[.int .i64 b1, .int .i64 b2], .agg #[.int .i64 s13, .slice d13 l13 c13], undef, undef, undef, undef, undef, undef, undef, undef, undef, undef, undef, undef, undef, undef, undef, undef, undef, undef, undef, undef, undef, undef, undef, undef, undef, undef, undef, undef, undef, undef, undef, undef, undef, undef, undef], []⟩ ∧ RN wr s11 d11 l11 c11 P ∧ RN wr s12 d12 l12 c12 Q ∧ RN wr s13 d13 l13 c13 R ∧ Bx wr (w.heap.size) (.int .i64 a1) (.int .i64 a2) ∧ Bx wr (w.heap.size + 1) (.int .i64 b1) (.int .i64 b2) ∧ Bx wr (w.heap.size + 1 + 1) (.int .i64 c1) (.int .i64 c2) ∧ B8 wr (w.heap.size + 1 + 1 + 1) (.int .i64 0) (.slice none 0 0) (.int .i64 0) (.slice none 0 0) (.int .i64 0) (.slice none 0 0) (.int .i64 0) (.slice none 0 0) ∧ Bx wr pma0 (.int .i64 s11) (.slice d11 l11 c11) ∧ Bx wr pma1 (.int .i64 s12) (.slice d12 l12 c12) ∧ Bx wr pma2 (.int .i64 s13) (.slice d13 l13 c13) ∧ Below w.heap.size w wr ∧ W.heap.size ≤ wr.heap.size ∧ (W.heap.size ≤ pma0 ∧ pma0 < wr.heap.size) ∧ (W.heap.size ≤ pma1 ∧ pma1 < wr.heap.size) ∧ (W.heap.size ≤ pma2 ∧ pma2 < wr.heap.size) := ⟨_, rfl⟩
  have HQQ : Hid _ := hQQ
  clear hQQ
  refine wp_mono (Q := QQ) ?_ ?_
  · refine wp_region_held_drew (S := (fun w' => w'.cell? ⟨w.heap.size, 0, none⟩ = some (.int .i64 a1) ∧ w'.cell? ⟨w.heap.size, 1, none⟩ = some (.int .i64 a2) ∧ w'.cell? ⟨w.heap.size + 1, 0, none⟩ = some (.int .i64 b1) ∧ w'.cell? ⟨w.heap.size + 1, 1, none⟩ = some (.int .i64 b2) ∧ w'.cell? ⟨w.heap.size + 1 + 1, 0, none⟩ = some (.int .i64 c1) ∧ w'.cell? ⟨w.heap.size + 1 + 1, 1, none⟩ = some (.int .i64 c2) ∧ Below w.heap.size w w')) (by kernel_rfl) ?_ (fun hHeld => ?_)
    · exact ⟨x_a.c0, x_a.c1, x_b.c0, x_b.c1, x_c.c0, x_c.c1, BB.drew⟩
    refine take_yes (i := 0) (v := ?vma0x1) rfl (by kernel_rfl) (by kernel_rfl) (by kernel_rfl) (fun _ _ _ h => by rw [HQQ.out] at h; exact Exit.noConfusion h.1) (by rfl) (by assumption) ?hyma0x1 ?restma0x1
    case hyma0x1 => (intro w hSw; (try dsimp only at hSw); first | (go_simp; done) | (go_simp; with_reducible rfl))
    simp only [Act.put, List.setIfInBounds_toArray, List.set_cons_zero, List.set_cons_succ]
    refine take_yes (i := 1) (v := ?vma1x2) rfl (by kernel_rfl) (by kernel_rfl) (by kernel_rfl) (fun _ _ _ h => by rw [HQQ.out] at h; exact Exit.noConfusion h.1) (by rfl) (by assumption) ?hyma1x2 ?restma1x2
    case hyma1x2 => (intro w hSw; (try dsimp only at hSw); first | (go_simp; done) | (go_simp; with_reducible rfl))
    simp only [Act.put, List.setIfInBounds_toArray, List.set_cons_zero, List.set_cons_succ]
    refine take_yes (i := 3) (v := ?vma3x3) rfl (by kernel_rfl) (by kernel_rfl) (by kernel_rfl) (fun _ _ _ h => by rw [HQQ.out] at h; exact Exit.noConfusion h.1) (by rfl) (by assumption) ?hyma3x3 ?restma3x3
    case hyma3x3 => (intro w hSw; (try dsimp only at hSw); first | (go_simp; done) | (go_simp; with_reducible rfl))
    simp only [Act.put, List.setIfInBounds_toArray, List.set_cons_zero, List.set_cons_succ]
    refine take_yes (i := 4) (v := ?vma4x4) rfl (by kernel_rfl) (by kernel_rfl) (by kernel_rfl) (fun _ _ _ h => by rw [HQQ.out] at h; exact Exit.noConfusion h.1) (by rfl) (by assumption) ?hyma4x4 ?restma4x4
    case hyma4x4 => (intro w hSw; (try dsimp only at hSw); first | (go_simp; done) | (go_simp; with_reducible rfl))
    simp only [Act.put, List.setIfInBounds_toArray, List.set_cons_zero, List.set_cons_succ]
    refine take_yes (i := 6) (v := ?vma6x5) rfl (by kernel_rfl) (by kernel_rfl) (by kernel_rfl) (fun _ _ _ h => by rw [HQQ.out] at h; exact Exit.noConfusion h.1) (by rfl) (by assumption) ?hyma6x5 ?restma6x5
    case hyma6x5 => (intro w hSw; (try dsimp only at hSw); first | (go_simp; done) | (go_simp; with_reducible rfl))
    simp only [Act.put, List.setIfInBounds_toArray, List.set_cons_zero, List.set_cons_succ]
    refine take_yes (i := 7) (v := ?vma7x6) rfl (by kernel_rfl) (by kernel_rfl) (by kernel_rfl) (fun _ _ _ h => by rw [HQQ.out] at h; exact Exit.noConfusion h.1) (by rfl) (by assumption) ?hyma7x6 ?restma7x6
    case hyma7x6 => (intro w hSw; (try dsimp only at hSw); first | (go_simp; done) | (go_simp; with_reducible rfl))
    simp only [Act.put, List.setIfInBounds_toArray, List.set_cons_zero, List.set_cons_succ]
    clear hHeld
    obtain ⟨INV, hINV⟩ : ∃ INV : Nat → Array Bool → Act → World → Prop, INV = fun f L act wr => ∃ (bD eD : Nat → Bool) (pD : Nat → Nat) (RD : Nat → World → Prop) (AD : Nat → Nat → Prop) (uD vD : Nat → Value), f = 3 + (nb (bD 0) + nb (bD 1) + nb (bD 2) + nb (eD 0) + nb (eD 1) + nb (eD 2)) ∧ L = #[true, true, bD 0, true, true, bD 1, true, true, bD 2, eD 0, eD 1, eD 2, false, false, false] ∧ act = ⟨#[.agg #[.int .i64 a1, .int .i64 a2], .agg #[.int .i64 b1, .int .i64 b2], .agg #[.int .i64 c1, .int .i64 c2], .pointer (some ⟨w.heap.size, 0, none⟩), .pointer (some ⟨w.heap.size + 1, 0, none⟩), .pointer (some ⟨w.heap.size + 1 + 1, 0, none⟩), .pointer (some ⟨w.heap.size + 1 + 1 + 1, 0, none⟩), vD 0, vD 1, vD 2, undef, undef, undef, .agg #[.int .i64 b1, .int .i64 b2], .agg #[.int .i64 c1, .int .i64 c2], uD 0, .agg #[.int .i64 c1, .int .i64 c2], .agg #[.int .i64 a1, .int .i64 a2], uD 1, .agg #[.int .i64 a1, .int .i64 a2], .agg #[.int .i64 b1, .int .i64 b2], uD 2, undef, undef, undef, undef, undef, undef, undef, undef, undef, undef, undef, undef, undef, undef, undef, undef, undef, undef, undef, undef, undef, undef, undef, undef, undef, undef, undef, undef, undef, undef, undef, undef, undef, undef, undef], []⟩ ∧ (bD 1 = true → bD 0 = true) ∧ (bD 2 = true → bD 1 = true) ∧ Mk W SpEZ (SpE P Q R) bD eD pD RD AD uD vD wr := ⟨_, rfl⟩
    have HINV : Hid _ := hINV
    clear hINV
    refine phase INV ?stepma _ _ _ _ ?initma
    case initma => rw [HINV.out]; exact ⟨fun _ => false, fun _ => false, fun _ => 0, fun _ _ => True, fun _ _ => True, fun _ => undef, fun _ => undef, rfl, rfl, rfl, fun h => Bool.noConfusion h, fun h => Bool.noConfusion h, Mk.start _ _ _ (Below.refl _ _).drew⟩
    intro f L act wr hinv
    rw [HINV.out] at hinv
    obtain ⟨bD, eD, pD, RD, AD, uD, vD, hf, rfl, rfl, ch0, ch1, hm⟩ := hinv
    by_cases hall : bD 2 = true ∧ eD 0 = true ∧ eD 1 = true ∧ eD 2 = true
    · refine Or.inl ?_
      obtain ⟨hb2, he0, he1, he2⟩ := hall
      have hb1 := ch1 hb2
      have hb0 := ch0 hb1
      simp only [hb0, hb1, hb2, he0, he1, he2, nb] at hf
      subst hf
      rw [hb0, hb1, hb2, he0, he1, he2, hm.ptr 0 he0, hm.ptr 1 he1, hm.ptr 2 he2]
      obtain ⟨s11, d11, l11, c11, hu0, hR0, hA0⟩ : RNIs _ _ _ _ := hm.spec 0 hb0
      rw [hu0]
      have r11 : RN wr s11 d11 l11 c11 P := by have := hm.res 0 hb0; rw [hR0] at this; exact this
      have n_r11_0_pma0 : NA (pD 0) d11 l11 := by have := hm.ap 0 0 he0 hb0; rw [hA0] at this; exact this
      have n_r11_0_pma1 : NA (pD 1) d11 l11 := by have := hm.ap 1 0 he1 hb0; rw [hA0] at this; exact this
      have n_r11_0_pma2 : NA (pD 2) d11 l11 := by have := hm.ap 2 0 he2 hb0; rw [hA0] at this; exact this
      obtain ⟨s12, d12, l12, c12, hu1, hR1, hA1⟩ : RNIs _ _ _ _ := hm.spec 1 hb1
      rw [hu1]
      have r12 : RN wr s12 d12 l12 c12 Q := by have := hm.res 1 hb1; rw [hR1] at this; exact this
      have n_r12_0_pma0 : NA (pD 0) d12 l12 := by have := hm.ap 0 1 he0 hb1; rw [hA1] at this; exact this
      have n_r12_0_pma1 : NA (pD 1) d12 l12 := by have := hm.ap 1 1 he1 hb1; rw [hA1] at this; exact this
      have n_r12_0_pma2 : NA (pD 2) d12 l12 := by have := hm.ap 2 1 he2 hb1; rw [hA1] at this; exact this
      obtain ⟨s13, d13, l13, c13, hu2, hR2, hA2⟩ : RNIs _ _ _ _ := hm.spec 2 hb2
      rw [hu2]
      have r13 : RN wr s13 d13 l13 c13 R := by have := hm.res 2 hb2; rw [hR2] at this; exact this
      have n_r13_0_pma0 : NA (pD 0) d13 l13 := by have := hm.ap 0 2 he0 hb2; rw [hA2] at this; exact this
      have n_r13_0_pma1 : NA (pD 1) d13 l13 := by have := hm.ap 1 2 he1 hb2; rw [hA2] at this; exact this
      have n_r13_0_pma2 : NA (pD 2) d13 l13 := by have := hm.ap 2 2 he2 hb2; rw [hA2] at this; exact this
      have y_pma0 : Bx wr (pD 0) (.int .i64 0) (.slice none 0 0) := bx_row (hm.blk 0 he0)
      have gpma0 := hm.old 0 he0
      have ltpma0 := hm.lt 0 he0
      have y_pma1 : Bx wr (pD 1) (.int .i64 0) (.slice none 0 0) := bx_row (hm.blk 1 he1)
      have gpma1 := hm.old 1 he1
      have ltpma1 := hm.lt 1 he1
      have y_pma2 : Bx wr (pD 2) (.int .i64 0) (.slice none 0 0) := bx_row (hm.blk 2 he2)
      have gpma2 := hm.old 2 he2
      have ltpma2 := hm.lt 2 he2
      have ne_0_1 : pD 0 ≠ pD 1 := hm.ne 0 1 he0 he1 (by decide)
      have ne_0_2 : pD 0 ≠ pD 2 := hm.ne 0 2 he0 he2 (by decide)
      have ne_1_2 : pD 1 ≠ pD 2 := hm.ne 1 2 he1 he2 (by decide)
      have BU := hm.bel
      replace x_a := x_a.on BU
      replace x_b := x_b.on BU
      replace x_c := x_c.on BU
      replace x_r := x_r.on BU
      replace BB := also BB BU
      have hHeld : ((fun w' => w'.cell? ⟨w.heap.size, 0, none⟩ = some (.int .i64 a1) ∧ w'.cell? ⟨w.heap.size, 1, none⟩ = some (.int .i64 a2) ∧ w'.cell? ⟨w.heap.size + 1, 0, none⟩ = some (.int .i64 b1) ∧ w'.cell? ⟨w.heap.size + 1, 1, none⟩ = some (.int .i64 b2) ∧ w'.cell? ⟨w.heap.size + 1 + 1, 0, none⟩ = some (.int .i64 c1) ∧ w'.cell? ⟨w.heap.size + 1 + 1, 1, none⟩ = some (.int .i64 c2) ∧ Below w.heap.size w w')) wr := ⟨x_a.c0, x_a.c1, x_b.c0, x_b.c1, x_c.c0, x_c.c1, BB⟩
      clear hm HINV INV ch0 ch1
      generalize pD 0 = pma0 at *
      generalize pD 1 = pma1 at *
      generalize pD 2 = pma2 at *
      dsimp only at hHeld
      have ⟨c_pma0_0, c_pma0_1, c_pma0_2, c_pma0_3⟩ : Bx wr pma0 (.int .i64 0) (.slice none 0 0) := y_pma0
      refine take_call (i := 12) rfl (by kernel_rfl) (fun Kc hK => ?_)
      go_simp
      refine hK.out _ _ ⟨cell_put2 hHeld.1 (by omega) _ _, cell_put2 hHeld.2.1 (by omega) _ _, cell_put2 hHeld.2.2.1 (by omega) _ _, cell_put2 hHeld.2.2.2.1 (by omega) _ _, cell_put2 hHeld.2.2.2.2.1 (by omega) _ _, cell_put2 hHeld.2.2.2.2.2.1 (by omega) _ _, below_put2 hHeld.2.2.2.2.2.2 (by omega) _ _⟩ (fun hHeld => ?_)
      clear hK Kc
      have ⟨c_pma1_0, c_pma1_1, c_pma1_2, c_pma1_3⟩ : Bx ((wr.setCell ⟨pma0, 0, none⟩ (.int .i64 s11)).setCell ⟨pma0, 1, none⟩ (.slice d11 l11 c11)) pma1 (.int .i64 0) (.slice none 0 0) := ((y_pma1.put ne_0_1).put ne_0_1)
      refine take_call (i := 13) rfl (by kernel_rfl) (fun Kc hK => ?_)
      go_simp
      refine hK.out _ _ ⟨cell_put2 hHeld.1 (by omega) _ _, cell_put2 hHeld.2.1 (by omega) _ _, cell_put2 hHeld.2.2.1 (by omega) _ _, cell_put2 hHeld.2.2.2.1 (by omega) _ _, cell_put2 hHeld.2.2.2.2.1 (by omega) _ _, cell_put2 hHeld.2.2.2.2.2.1 (by omega) _ _, below_put2 hHeld.2.2.2.2.2.2 (by omega) _ _⟩ (fun hHeld => ?_)
      clear hK Kc
      have ⟨c_pma2_0, c_pma2_1, c_pma2_2, c_pma2_3⟩ : Bx ((((wr.setCell ⟨pma0, 0, none⟩ (.int .i64 s11)).setCell ⟨pma0, 1, none⟩ (.slice d11 l11 c11)).setCell ⟨pma1, 0, none⟩ (.int .i64 s12)).setCell ⟨pma1, 1, none⟩ (.slice d12 l12 c12)) pma2 (.int .i64 0) (.slice none 0 0) := ((((y_pma2.put ne_0_2).put ne_0_2).put ne_1_2).put ne_1_2)
      refine take_call (i := 14) rfl (by kernel_rfl) (fun Kc hK => ?_)
      go_simp
      refine hK.out _ _ ⟨cell_put2 hHeld.1 (by omega) _ _, cell_put2 hHeld.2.1 (by omega) _ _, cell_put2 hHeld.2.2.1 (by omega) _ _, cell_put2 hHeld.2.2.2.1 (by omega) _ _, cell_put2 hHeld.2.2.2.2.1 (by omega) _ _, cell_put2 hHeld.2.2.2.2.2.1 (by omega) _ _, below_put2 hHeld.2.2.2.2.2.2 (by omega) _ _⟩ (fun hHeld => ?_)
      clear hK Kc
      refine wpAnyH_done (by kernel_rfl) ?_ _
      rw [HQQ.out]
      exact ⟨rfl, pma0, pma1, pma2, s11, d11, l11, c11, s12, d12, l12, c12, s13, d13, l13, c13, rfl, ((((((r11.put n_r11_0_pma0 0 _).put n_r11_0_pma0 1 _).put n_r11_0_pma1 0 _).put n_r11_0_pma1 1 _).put n_r11_0_pma2 0 _).put n_r11_0_pma2 1 _), ((((((r12.put n_r12_0_pma0 0 _).put n_r12_0_pma0 1 _).put n_r12_0_pma1 0 _).put n_r12_0_pma1 1 _).put n_r12_0_pma2 0 _).put n_r12_0_pma2 1 _), ((((((r13.put n_r13_0_pma0 0 _).put n_r13_0_pma0 1 _).put n_r13_0_pma1 0 _).put n_r13_0_pma1 1 _).put n_r13_0_pma2 0 _).put n_r13_0_pma2 1 _), ((((((x_a.put (by omega)).put (by omega)).put (by omega)).put (by omega)).put (by omega)).put (by omega)), ((((((x_b.put (by omega)).put (by omega)).put (by omega)).put (by omega)).put (by omega)).put (by omega)), ((((((x_c.put (by omega)).put (by omega)).put (by omega)).put (by omega)).put (by omega)).put (by omega)), ((((((x_r.put (by omega)).put (by omega)).put (by omega)).put (by omega)).put (by omega)).put (by omega)), ((((y_pma0.set.put (fun e => ne_0_1 e.symm)).put (fun e => ne_0_1 e.symm)).put (fun e => ne_0_2 e.symm)).put (fun e => ne_0_2 e.symm)), ((((y_pma1.put ne_0_1).put ne_0_1).set.put (fun e => ne_1_2 e.symm)).put (fun e => ne_1_2 e.symm)), ((((y_pma2.put ne_0_2).put ne_0_2).put ne_1_2).put ne_1_2).set, (below_put2 (below_put2 (below_put2 BB (by omega) _ _) (by omega) _ _) (by omega) _ _), by have := BU.size; simp only [World.size_setCell]; omega, ⟨gpma0, by simp only [World.size_setCell]; omega⟩, ⟨gpma1, by simp only [World.size_setCell]; omega⟩, ⟨gpma2, by simp only [World.size_setCell]; omega⟩⟩
    · refine Or.inr ⟨f - 1, by omega, ?nema, ?opsma⟩
      case nema =>
        cases he0 : eD 0
        · exact ready_ne (i := 9) (by decide) (by kernel_rfl)
        cases he1 : eD 1
        · exact ready_ne (i := 10) (by decide) (by kernel_rfl)
        cases he2 : eD 2
        · exact ready_ne (i := 11) (by decide) (by kernel_rfl)
        cases hb0 : bD 0
        · exact ready_ne (i := 2) (by decide) (by kernel_rfl)
        cases hb1 : bD 1
        · exact ready_ne (i := 5) (by decide) (by kernel_rfl)
        cases hb2 : bD 2
        · exact ready_ne (i := 8) (by decide) (by kernel_rfl)
        exact absurd ⟨hb2, he0, he1, he2⟩ hall
      case opsma =>
        intro i hi
        obtain ⟨hlt, hnot, hdep⟩ := ready_at hi
        replace hlt : i < 15 := hlt
        obtain rfl | rfl | rfl | rfl | rfl | rfl | rfl | rfl | rfl | rfl | rfl | rfl | rfl | rfl | rfl : i = 0 ∨ i = 1 ∨ i = 2 ∨ i = 3 ∨ i = 4 ∨ i = 5 ∨ i = 6 ∨ i = 7 ∨ i = 8 ∨ i = 9 ∨ i = 10 ∨ i = 11 ∨ i = 12 ∨ i = 13 ∨ i = 14 := by omega
        · skip
          exact Bool.noConfusion (show true = false from hnot)
        · skip
          exact Bool.noConfusion (show true = false from hnot)
        · skip
          have hbj : bD 0 = false := hnot
          refine ⟨_, rfl, fun K' hK => ?_⟩
          go_simp
          (go_at_call 28; refine (rpDist b1 b2 c1 c2 _ hb hc EP.out).mono ?_; rintro e' X ⟨s11, d11, l11, c11, rfl, r11, f11, bX⟩)
          have hm' := hm.call (SpE_good P Q R) 0 bX (.agg #[.int .i64 s11, .slice d11 l11 c11]) (fun w => RN w s11 d11 l11 c11 P) (fun k => NA k d11 l11) ⟨_, _, _, _, rfl, rfl, rfl⟩ r11 (fun i hi => f11 (pD i) (hm.lt i hi) trivial)
          refine hK.out _ _ ⟨cell_on hm'.bel x_a.c0, cell_on hm'.bel x_a.c1, cell_on hm'.bel x_b.c0, cell_on hm'.bel x_b.c1, cell_on hm'.bel x_c.c0, cell_on hm'.bel x_c.c1, also BB hm'.bel⟩ ?_
          rw [HINV.out]
          exact ⟨upd bD 0 true, eD, pD, upd RD 0 (fun w => RN w s11 d11 l11 c11 P), upd AD 0 (fun k => NA k d11 l11), upd uD 0 (.agg #[.int .i64 s11, .slice d11 l11 c11]), vD, fuel_SpE_b0 hf hbj, rfl, rfl, fun _ => rfl, ch1, hm'⟩
        · skip
          exact Bool.noConfusion (show true = false from hnot)
        · skip
          exact Bool.noConfusion (show true = false from hnot)
        · skip
          have hbj : bD 1 = false := hnot
          have hprev : bD 0 = true := hdep _ rfl 2 _ rfl rfl
          refine ⟨_, rfl, fun K' hK => ?_⟩
          go_simp
          (go_at_call 28; refine (rpDist c1 c2 a1 a2 _ hc ha EQ.out).mono ?_; rintro e' X ⟨s12, d12, l12, c12, rfl, r12, f12, bX⟩)
          have hm' := hm.call (SpE_good P Q R) 1 bX (.agg #[.int .i64 s12, .slice d12 l12 c12]) (fun w => RN w s12 d12 l12 c12 Q) (fun k => NA k d12 l12) ⟨_, _, _, _, rfl, rfl, rfl⟩ r12 (fun i hi => f12 (pD i) (hm.lt i hi) trivial)
          refine hK.out _ _ ⟨cell_on hm'.bel x_a.c0, cell_on hm'.bel x_a.c1, cell_on hm'.bel x_b.c0, cell_on hm'.bel x_b.c1, cell_on hm'.bel x_c.c0, cell_on hm'.bel x_c.c1, also BB hm'.bel⟩ ?_
          rw [HINV.out]
          exact ⟨upd bD 1 true, eD, pD, upd RD 1 (fun w => RN w s12 d12 l12 c12 Q), upd AD 1 (fun k => NA k d12 l12), upd uD 1 (.agg #[.int .i64 s12, .slice d12 l12 c12]), vD, fuel_SpE_b1 hf hbj, rfl, rfl, fun _ => hprev, fun _ => rfl, hm'⟩
        · skip
          exact Bool.noConfusion (show true = false from hnot)
        · skip
          exact Bool.noConfusion (show true = false from hnot)
        · skip
          have hbj : bD 2 = false := hnot
          have hprev : bD 1 = true := hdep _ rfl 2 _ rfl rfl
          have hq0 : bD 0 = true := ch0 hprev
          refine ⟨_, rfl, fun K' hK => ?_⟩
          go_simp
          (go_at_call 28; refine (rpDist a1 a2 b1 b2 _ ha hb ER.out).mono ?_; rintro e' X ⟨s13, d13, l13, c13, rfl, r13, f13, bX⟩)
          have hm' := hm.call (SpE_good P Q R) 2 bX (.agg #[.int .i64 s13, .slice d13 l13 c13]) (fun w => RN w s13 d13 l13 c13 R) (fun k => NA k d13 l13) ⟨_, _, _, _, rfl, rfl, rfl⟩ r13 (fun i hi => f13 (pD i) (hm.lt i hi) trivial)
          refine hK.out _ _ ⟨cell_on hm'.bel x_a.c0, cell_on hm'.bel x_a.c1, cell_on hm'.bel x_b.c0, cell_on hm'.bel x_b.c1, cell_on hm'.bel x_c.c0, cell_on hm'.bel x_c.c1, also BB hm'.bel⟩ ?_
          rw [HINV.out]
          exact ⟨upd bD 2 true, eD, pD, upd RD 2 (fun w => RN w s13 d13 l13 c13 R), upd AD 2 (fun k => NA k d13 l13), upd uD 2 (.agg #[.int .i64 s13, .slice d13 l13 c13]), vD, fuel_SpE_b2 hf hbj, rfl, rfl, ch0, fun _ => hprev, hm'⟩
        · skip
          have hei : eD 0 = false := hnot
          refine ⟨_, rfl, fun K' hK => ?_⟩
          go_simp
          have hm' := hm.alloc (SpE_good P Q R) 0 39 hei
          refine hK.out _ _ ⟨cell_on hm'.bel x_a.c0, cell_on hm'.bel x_a.c1, cell_on hm'.bel x_b.c0, cell_on hm'.bel x_b.c1, cell_on hm'.bel x_c.c0, cell_on hm'.bel x_c.c1, also BB hm'.bel⟩ ?_
          rw [HINV.out]
          exact ⟨bD, upd eD 0 true, upd pD 0 wr.heap.size, RD, AD, uD, upd vD 0 (.pointer (some ⟨wr.heap.size, 0, none⟩)), fuel_SpE_e0 hf hei, rfl, rfl, ch0, ch1, hm'⟩
        · skip
          have hei : eD 1 = false := hnot
          refine ⟨_, rfl, fun K' hK => ?_⟩
          go_simp
          have hm' := hm.alloc (SpE_good P Q R) 1 39 hei
          refine hK.out _ _ ⟨cell_on hm'.bel x_a.c0, cell_on hm'.bel x_a.c1, cell_on hm'.bel x_b.c0, cell_on hm'.bel x_b.c1, cell_on hm'.bel x_c.c0, cell_on hm'.bel x_c.c1, also BB hm'.bel⟩ ?_
          rw [HINV.out]
          exact ⟨bD, upd eD 1 true, upd pD 1 wr.heap.size, RD, AD, uD, upd vD 1 (.pointer (some ⟨wr.heap.size, 0, none⟩)), fuel_SpE_e1 hf hei, rfl, rfl, ch0, ch1, hm'⟩
        · skip
          have hei : eD 2 = false := hnot
          refine ⟨_, rfl, fun K' hK => ?_⟩
          go_simp
          have hm' := hm.alloc (SpE_good P Q R) 2 39 hei
          refine hK.out _ _ ⟨cell_on hm'.bel x_a.c0, cell_on hm'.bel x_a.c1, cell_on hm'.bel x_b.c0, cell_on hm'.bel x_b.c1, cell_on hm'.bel x_c.c0, cell_on hm'.bel x_c.c1, also BB hm'.bel⟩ ?_
          rw [HINV.out]
          exact ⟨bD, upd eD 2 true, upd pD 2 wr.heap.size, RD, AD, uD, upd vD 2 (.pointer (some ⟨wr.heap.size, 0, none⟩)), fuel_SpE_e2 hf hei, rfl, rfl, ch0, ch1, hm'⟩
        · skip
          exact absurd ⟨hdep _ rfl 2 _ rfl rfl, hdep _ rfl 0 _ rfl rfl, hdep _ rfl 13 _ rfl rfl, hdep _ rfl 14 _ rfl rfl⟩ hall
        · skip
          exact Bool.noConfusion (show false = true from hdep _ rfl 2 _ rfl rfl)
        · skip
          exact Bool.noConfusion (show false = true from hdep _ rfl 2 _ rfl rfl)
  rw [HQQ.out]
  rintro e act Y1 ⟨rfl, pma0, pma1, pma2, s11, d11, l11, c11, s12, d12, l12, c12, s13, d13, l13, c13, rfl, r11, r12, r13, x_a, x_b, x_c, x_r, x_p, x_q, x_s, BB, z_Y1, z_Y1_pma0, z_Y1_pma1, z_Y1_pma2⟩
  clear HQQ QQ
  try dsimp only
  go_wp2
  obtain ⟨QQ, hQQ⟩ : ∃ QQ : Exit → Act → World → Prop, QQ = fun e act wr => e = .normal ∧ ∃ (pmb0 : Nat) (pmb1 : Nat) (pmb2 : Nat) (s14 : Int) (d14 : Option Addr) (l14 c14 : Nat) (s15 : Int) (d15 : Option Addr) (l15 c15 : Nat) (s16 : Int) (d16 : Option Addr) (l16 c16 : Nat), act = ⟨#[.agg #[.int .i64 a1, .int .i64 a2], .agg #[.int .i64 b1, .int .i64 b2], .agg #[.int .i64 c1, .int .i64 c2], .pointer (some ⟨w.heap.size, 0, none⟩), .pointer (some ⟨w.heap.size + 1, 0, none⟩), .pointer (some ⟨w.heap.size + 1 + 1, 0, none⟩), .pointer (some ⟨w.heap.size + 1 + 1 + 1, 0, none⟩), .pointer (some ⟨pma0, 0, none⟩), .pointer (some ⟨pma1, 0, none⟩), .pointer (some ⟨pma2, 0, none⟩), .pointer (some ⟨pmb0, 0, none⟩), .pointer (some ⟨pmb1, 0, none⟩), .pointer (some ⟨pmb2, 0, none⟩), .agg #[.int .i64 b1, .int .i64 b2], .agg #[.int .i64 c1, .int .i64 c2], .agg #[.int .i64 s11, .slice d11 l11 c11], .agg #[.int .i64 c1, .int .i64 c2], .agg #[.int .i64 a1, .int .i64 a2], .agg #[.int .i64 s12, .slice d12 l12 c12], .agg #[.int .i64 a1, .int .i64 a2], .agg #[.int .i64 b1, .int .i64 b2], .agg #[.int .i64 s13, .slice d13 l13 c13], .agg #[.int .i64 s11, .slice d11 l11 c11], .agg #[.int .i64 s12, .slice d12 l12 c12], .agg #[.int .i64 s13, .slice d13 l13 c13], .agg #[.int .i64 s14, .slice d14 l14 c14], .agg #[.int .i64 s12, .slice d12 l12 c12], .agg #[.int .i64 s13, .slice d13 l13 c13], .agg #[.int .i64 s11, .slice d11 l11 c11], .agg #[.int .i64 s15, .slice d15 l15 c15], .agg #[.int .i64 s13, .slice d13 l13 c13], .agg #[.int .i64 s11, .slice d11 l11 c11], .agg #[.int .i64 s12, .slice d12 l12 c12], .agg #[.int .i64 s16, .slice d16 l16 c16], undef, undef, undef, undef, undef, undef, undef, undef, undef, undef, undef, undef, undef, undef, undef, undef, undef, undef, undef, undef, undef, undef, undef], []⟩ ∧ RN wr s11 d11 l11 c11 P ∧ RN wr s12 d12 l12 c12 Q ∧ RN wr s13 d13 l13 c13 R ∧ RN wr s14 d14 l14 c14 Xw ∧ RN wr s15 d15 l15 c15 Yw ∧ RN wr s16 d16 l16 c16 Zw ∧ Bx wr (w.heap.size) (.int .i64 a1) (.int .i64 a2) ∧ Bx wr (w.heap.size + 1) (.int .i64 b1) (.int .i64 b2) ∧ Bx wr (w.heap.size + 1 + 1) (.int .i64 c1) (.int .i64 c2) ∧ B8 wr (w.heap.size + 1 + 1 + 1) (.int .i64 0) (.slice none 0 0) (.int .i64 0) (.slice none 0 0) (.int .i64 0) (.slice none 0 0) (.int .i64 0) (.slice none 0 0) ∧ Bx wr (pma0) (.int .i64 s11) (.slice d11 l11 c11) ∧ Bx wr (pma1) (.int .i64 s12) (.slice d12 l12 c12) ∧ Bx wr (pma2) (.int .i64 s13) (.slice d13 l13 c13) ∧ Bx wr pmb0 (.int .i64 s14) (.slice d14 l14 c14) ∧ Bx wr pmb1 (.int .i64 s15) (.slice d15 l15 c15) ∧ Bx wr pmb2 (.int .i64 s16) (.slice d16 l16 c16) ∧ Below w.heap.size w wr ∧ Y1.heap.size ≤ wr.heap.size ∧ (Y1.heap.size ≤ pmb0 ∧ pmb0 < wr.heap.size) ∧ (Y1.heap.size ≤ pmb1 ∧ pmb1 < wr.heap.size) ∧ (Y1.heap.size ≤ pmb2 ∧ pmb2 < wr.heap.size) := ⟨_, rfl⟩
  have HQQ : Hid _ := hQQ
  clear hQQ
  refine wp_mono (Q := QQ) ?_ ?_
  · refine wp_region_held_drew (S := (fun w' => w'.cell? ⟨pma0, 0, none⟩ = some (.int .i64 s11) ∧ w'.cell? ⟨pma0, 1, none⟩ = some (.slice d11 l11 c11) ∧ w'.cell? ⟨pma1, 0, none⟩ = some (.int .i64 s12) ∧ w'.cell? ⟨pma1, 1, none⟩ = some (.slice d12 l12 c12) ∧ w'.cell? ⟨pma2, 0, none⟩ = some (.int .i64 s13) ∧ w'.cell? ⟨pma2, 1, none⟩ = some (.slice d13 l13 c13) ∧ Below w.heap.size w w')) (by kernel_rfl) ?_ (fun hHeld => ?_)
    · exact ⟨x_p.c0, x_p.c1, x_q.c0, x_q.c1, x_s.c0, x_s.c1, BB.drew⟩
    refine take_yes (i := 0) (v := ?vmb0x1) rfl (by kernel_rfl) (by kernel_rfl) (by kernel_rfl) (fun _ _ _ h => by rw [HQQ.out] at h; exact Exit.noConfusion h.1) (by rfl) (by assumption) ?hymb0x1 ?restmb0x1
    case hymb0x1 => (intro w hSw; (try dsimp only at hSw); first | (go_simp; done) | (go_simp; with_reducible rfl))
    simp only [Act.put, List.setIfInBounds_toArray, List.set_cons_zero, List.set_cons_succ]
    refine take_yes (i := 1) (v := ?vmb1x2) rfl (by kernel_rfl) (by kernel_rfl) (by kernel_rfl) (fun _ _ _ h => by rw [HQQ.out] at h; exact Exit.noConfusion h.1) (by rfl) (by assumption) ?hymb1x2 ?restmb1x2
    case hymb1x2 => (intro w hSw; (try dsimp only at hSw); first | (go_simp; done) | (go_simp; with_reducible rfl))
    simp only [Act.put, List.setIfInBounds_toArray, List.set_cons_zero, List.set_cons_succ]
    refine take_yes (i := 2) (v := ?vmb2x3) rfl (by kernel_rfl) (by kernel_rfl) (by kernel_rfl) (fun _ _ _ h => by rw [HQQ.out] at h; exact Exit.noConfusion h.1) (by rfl) (by assumption) ?hymb2x3 ?restmb2x3
    case hymb2x3 => (intro w hSw; (try dsimp only at hSw); first | (go_simp; done) | (go_simp; with_reducible rfl))
    simp only [Act.put, List.setIfInBounds_toArray, List.set_cons_zero, List.set_cons_succ]
    refine take_yes (i := 4) (v := ?vmb4x4) rfl (by kernel_rfl) (by kernel_rfl) (by kernel_rfl) (fun _ _ _ h => by rw [HQQ.out] at h; exact Exit.noConfusion h.1) (by rfl) (by assumption) ?hymb4x4 ?restmb4x4
    case hymb4x4 => (intro w hSw; (try dsimp only at hSw); first | (go_simp; done) | (go_simp; with_reducible rfl))
    simp only [Act.put, List.setIfInBounds_toArray, List.set_cons_zero, List.set_cons_succ]
    refine take_yes (i := 5) (v := ?vmb5x5) rfl (by kernel_rfl) (by kernel_rfl) (by kernel_rfl) (fun _ _ _ h => by rw [HQQ.out] at h; exact Exit.noConfusion h.1) (by rfl) (by assumption) ?hymb5x5 ?restmb5x5
    case hymb5x5 => (intro w hSw; (try dsimp only at hSw); first | (go_simp; done) | (go_simp; with_reducible rfl))
    simp only [Act.put, List.setIfInBounds_toArray, List.set_cons_zero, List.set_cons_succ]
    refine take_yes (i := 6) (v := ?vmb6x6) rfl (by kernel_rfl) (by kernel_rfl) (by kernel_rfl) (fun _ _ _ h => by rw [HQQ.out] at h; exact Exit.noConfusion h.1) (by rfl) (by assumption) ?hymb6x6 ?restmb6x6
    case hymb6x6 => (intro w hSw; (try dsimp only at hSw); first | (go_simp; done) | (go_simp; with_reducible rfl))
    simp only [Act.put, List.setIfInBounds_toArray, List.set_cons_zero, List.set_cons_succ]
    refine take_yes (i := 8) (v := ?vmb8x7) rfl (by kernel_rfl) (by kernel_rfl) (by kernel_rfl) (fun _ _ _ h => by rw [HQQ.out] at h; exact Exit.noConfusion h.1) (by rfl) (by assumption) ?hymb8x7 ?restmb8x7
    case hymb8x7 => (intro w hSw; (try dsimp only at hSw); first | (go_simp; done) | (go_simp; with_reducible rfl))
    simp only [Act.put, List.setIfInBounds_toArray, List.set_cons_zero, List.set_cons_succ]
    refine take_yes (i := 9) (v := ?vmb9x8) rfl (by kernel_rfl) (by kernel_rfl) (by kernel_rfl) (fun _ _ _ h => by rw [HQQ.out] at h; exact Exit.noConfusion h.1) (by rfl) (by assumption) ?hymb9x8 ?restmb9x8
    case hymb9x8 => (intro w hSw; (try dsimp only at hSw); first | (go_simp; done) | (go_simp; with_reducible rfl))
    simp only [Act.put, List.setIfInBounds_toArray, List.set_cons_zero, List.set_cons_succ]
    refine take_yes (i := 10) (v := ?vmb10x9) rfl (by kernel_rfl) (by kernel_rfl) (by kernel_rfl) (fun _ _ _ h => by rw [HQQ.out] at h; exact Exit.noConfusion h.1) (by rfl) (by assumption) ?hymb10x9 ?restmb10x9
    case hymb10x9 => (intro w hSw; (try dsimp only at hSw); first | (go_simp; done) | (go_simp; with_reducible rfl))
    simp only [Act.put, List.setIfInBounds_toArray, List.set_cons_zero, List.set_cons_succ]
    clear hHeld
    obtain ⟨INV, hINV⟩ : ∃ INV : Nat → Array Bool → Act → World → Prop, INV = fun f L act wr => ∃ (bD eD : Nat → Bool) (pD : Nat → Nat) (RD : Nat → World → Prop) (AD : Nat → Nat → Prop) (uD vD : Nat → Value), f = 3 + (nb (bD 0) + nb (bD 1) + nb (bD 2) + nb (eD 0) + nb (eD 1) + nb (eD 2)) ∧ L = #[true, true, true, bD 0, true, true, true, bD 1, true, true, true, bD 2, eD 0, eD 1, eD 2, false, false, false] ∧ act = ⟨#[.agg #[.int .i64 a1, .int .i64 a2], .agg #[.int .i64 b1, .int .i64 b2], .agg #[.int .i64 c1, .int .i64 c2], .pointer (some ⟨w.heap.size, 0, none⟩), .pointer (some ⟨w.heap.size + 1, 0, none⟩), .pointer (some ⟨w.heap.size + 1 + 1, 0, none⟩), .pointer (some ⟨w.heap.size + 1 + 1 + 1, 0, none⟩), .pointer (some ⟨pma0, 0, none⟩), .pointer (some ⟨pma1, 0, none⟩), .pointer (some ⟨pma2, 0, none⟩), vD 0, vD 1, vD 2, .agg #[.int .i64 b1, .int .i64 b2], .agg #[.int .i64 c1, .int .i64 c2], .agg #[.int .i64 s11, .slice d11 l11 c11], .agg #[.int .i64 c1, .int .i64 c2], .agg #[.int .i64 a1, .int .i64 a2], .agg #[.int .i64 s12, .slice d12 l12 c12], .agg #[.int .i64 a1, .int .i64 a2], .agg #[.int .i64 b1, .int .i64 b2], .agg #[.int .i64 s13, .slice d13 l13 c13], .agg #[.int .i64 s11, .slice d11 l11 c11], .agg #[.int .i64 s12, .slice d12 l12 c12], .agg #[.int .i64 s13, .slice d13 l13 c13], uD 0, .agg #[.int .i64 s12, .slice d12 l12 c12], .agg #[.int .i64 s13, .slice d13 l13 c13], .agg #[.int .i64 s11, .slice d11 l11 c11], uD 1, .agg #[.int .i64 s13, .slice d13 l13 c13], .agg #[.int .i64 s11, .slice d11 l11 c11], .agg #[.int .i64 s12, .slice d12 l12 c12], uD 2, undef, undef, undef, undef, undef, undef, undef, undef, undef, undef, undef, undef, undef, undef, undef, undef, undef, undef, undef, undef, undef, undef, undef], []⟩ ∧ (bD 1 = true → bD 0 = true) ∧ (bD 2 = true → bD 1 = true) ∧ Mk Y1 SpFZ (SpF Xw Yw Zw) bD eD pD RD AD uD vD wr := ⟨_, rfl⟩
    have HINV : Hid _ := hINV
    clear hINV
    refine phase INV ?stepmb _ _ _ _ ?initmb
    case initmb => rw [HINV.out]; exact ⟨fun _ => false, fun _ => false, fun _ => 0, fun _ _ => True, fun _ _ => True, fun _ => undef, fun _ => undef, rfl, rfl, rfl, fun h => Bool.noConfusion h, fun h => Bool.noConfusion h, Mk.start _ _ _ (Below.refl _ _).drew⟩
    intro f L act wr hinv
    rw [HINV.out] at hinv
    obtain ⟨bD, eD, pD, RD, AD, uD, vD, hf, rfl, rfl, ch0, ch1, hm⟩ := hinv
    by_cases hall : bD 2 = true ∧ eD 0 = true ∧ eD 1 = true ∧ eD 2 = true
    · refine Or.inl ?_
      obtain ⟨hb2, he0, he1, he2⟩ := hall
      have hb1 := ch1 hb2
      have hb0 := ch0 hb1
      simp only [hb0, hb1, hb2, he0, he1, he2, nb] at hf
      subst hf
      rw [hb0, hb1, hb2, he0, he1, he2, hm.ptr 0 he0, hm.ptr 1 he1, hm.ptr 2 he2]
      obtain ⟨s14, d14, l14, c14, hu0, hR0, hA0⟩ : RNIs _ _ _ _ := hm.spec 0 hb0
      rw [hu0]
      have r14 : RN wr s14 d14 l14 c14 Xw := by have := hm.res 0 hb0; rw [hR0] at this; exact this
      have n_r14_0_pmb0 : NA (pD 0) d14 l14 := by have := hm.ap 0 0 he0 hb0; rw [hA0] at this; exact this
      have n_r14_0_pmb1 : NA (pD 1) d14 l14 := by have := hm.ap 1 0 he1 hb0; rw [hA0] at this; exact this
      have n_r14_0_pmb2 : NA (pD 2) d14 l14 := by have := hm.ap 2 0 he2 hb0; rw [hA0] at this; exact this
      obtain ⟨s15, d15, l15, c15, hu1, hR1, hA1⟩ : RNIs _ _ _ _ := hm.spec 1 hb1
      rw [hu1]
      have r15 : RN wr s15 d15 l15 c15 Yw := by have := hm.res 1 hb1; rw [hR1] at this; exact this
      have n_r15_0_pmb0 : NA (pD 0) d15 l15 := by have := hm.ap 0 1 he0 hb1; rw [hA1] at this; exact this
      have n_r15_0_pmb1 : NA (pD 1) d15 l15 := by have := hm.ap 1 1 he1 hb1; rw [hA1] at this; exact this
      have n_r15_0_pmb2 : NA (pD 2) d15 l15 := by have := hm.ap 2 1 he2 hb1; rw [hA1] at this; exact this
      obtain ⟨s16, d16, l16, c16, hu2, hR2, hA2⟩ : RNIs _ _ _ _ := hm.spec 2 hb2
      rw [hu2]
      have r16 : RN wr s16 d16 l16 c16 Zw := by have := hm.res 2 hb2; rw [hR2] at this; exact this
      have n_r16_0_pmb0 : NA (pD 0) d16 l16 := by have := hm.ap 0 2 he0 hb2; rw [hA2] at this; exact this
      have n_r16_0_pmb1 : NA (pD 1) d16 l16 := by have := hm.ap 1 2 he1 hb2; rw [hA2] at this; exact this
      have n_r16_0_pmb2 : NA (pD 2) d16 l16 := by have := hm.ap 2 2 he2 hb2; rw [hA2] at this; exact this
      have y_pmb0 : Bx wr (pD 0) (.int .i64 0) (.slice none 0 0) := bx_row (hm.blk 0 he0)
      have gpmb0 := hm.old 0 he0
      have ltpmb0 := hm.lt 0 he0
      have y_pmb1 : Bx wr (pD 1) (.int .i64 0) (.slice none 0 0) := bx_row (hm.blk 1 he1)
      have gpmb1 := hm.old 1 he1
      have ltpmb1 := hm.lt 1 he1
      have y_pmb2 : Bx wr (pD 2) (.int .i64 0) (.slice none 0 0) := bx_row (hm.blk 2 he2)
      have gpmb2 := hm.old 2 he2
      have ltpmb2 := hm.lt 2 he2
      have ne_0_1 : pD 0 ≠ pD 1 := hm.ne 0 1 he0 he1 (by decide)
      have ne_0_2 : pD 0 ≠ pD 2 := hm.ne 0 2 he0 he2 (by decide)
      have ne_1_2 : pD 1 ≠ pD 2 := hm.ne 1 2 he1 he2 (by decide)
      have BU := hm.bel
      have n_r11_0_pmb0 : NA (pD 0) d11 l11 := r11.hd.sl.na gpmb0
      have n_r11_0_pmb1 : NA (pD 1) d11 l11 := r11.hd.sl.na gpmb1
      have n_r11_0_pmb2 : NA (pD 2) d11 l11 := r11.hd.sl.na gpmb2
      replace r11 := r11.below BU
      have n_r12_0_pmb0 : NA (pD 0) d12 l12 := r12.hd.sl.na gpmb0
      have n_r12_0_pmb1 : NA (pD 1) d12 l12 := r12.hd.sl.na gpmb1
      have n_r12_0_pmb2 : NA (pD 2) d12 l12 := r12.hd.sl.na gpmb2
      replace r12 := r12.below BU
      have n_r13_0_pmb0 : NA (pD 0) d13 l13 := r13.hd.sl.na gpmb0
      have n_r13_0_pmb1 : NA (pD 1) d13 l13 := r13.hd.sl.na gpmb1
      have n_r13_0_pmb2 : NA (pD 2) d13 l13 := r13.hd.sl.na gpmb2
      replace r13 := r13.below BU
      replace x_a := x_a.on BU
      replace x_b := x_b.on BU
      replace x_c := x_c.on BU
      replace x_r := x_r.on BU
      replace x_p := x_p.on BU
      replace x_q := x_q.on BU
      replace x_s := x_s.on BU
      replace BB := also BB BU
      have hHeld : ((fun w' => w'.cell? ⟨pma0, 0, none⟩ = some (.int .i64 s11) ∧ w'.cell? ⟨pma0, 1, none⟩ = some (.slice d11 l11 c11) ∧ w'.cell? ⟨pma1, 0, none⟩ = some (.int .i64 s12) ∧ w'.cell? ⟨pma1, 1, none⟩ = some (.slice d12 l12 c12) ∧ w'.cell? ⟨pma2, 0, none⟩ = some (.int .i64 s13) ∧ w'.cell? ⟨pma2, 1, none⟩ = some (.slice d13 l13 c13) ∧ Below w.heap.size w w')) wr := ⟨x_p.c0, x_p.c1, x_q.c0, x_q.c1, x_s.c0, x_s.c1, BB⟩
      clear hm HINV INV ch0 ch1
      generalize pD 0 = pmb0 at *
      generalize pD 1 = pmb1 at *
      generalize pD 2 = pmb2 at *
      dsimp only at hHeld
      have ⟨c_pmb0_0, c_pmb0_1, c_pmb0_2, c_pmb0_3⟩ : Bx wr pmb0 (.int .i64 0) (.slice none 0 0) := y_pmb0
      refine take_call (i := 15) rfl (by kernel_rfl) (fun Kc hK => ?_)
      go_simp
      refine hK.out _ _ ⟨cell_put2 hHeld.1 (by omega) _ _, cell_put2 hHeld.2.1 (by omega) _ _, cell_put2 hHeld.2.2.1 (by omega) _ _, cell_put2 hHeld.2.2.2.1 (by omega) _ _, cell_put2 hHeld.2.2.2.2.1 (by omega) _ _, cell_put2 hHeld.2.2.2.2.2.1 (by omega) _ _, below_put2 hHeld.2.2.2.2.2.2 (by omega) _ _⟩ (fun hHeld => ?_)
      clear hK Kc
      have ⟨c_pmb1_0, c_pmb1_1, c_pmb1_2, c_pmb1_3⟩ : Bx ((wr.setCell ⟨pmb0, 0, none⟩ (.int .i64 s14)).setCell ⟨pmb0, 1, none⟩ (.slice d14 l14 c14)) pmb1 (.int .i64 0) (.slice none 0 0) := ((y_pmb1.put ne_0_1).put ne_0_1)
      refine take_call (i := 16) rfl (by kernel_rfl) (fun Kc hK => ?_)
      go_simp
      refine hK.out _ _ ⟨cell_put2 hHeld.1 (by omega) _ _, cell_put2 hHeld.2.1 (by omega) _ _, cell_put2 hHeld.2.2.1 (by omega) _ _, cell_put2 hHeld.2.2.2.1 (by omega) _ _, cell_put2 hHeld.2.2.2.2.1 (by omega) _ _, cell_put2 hHeld.2.2.2.2.2.1 (by omega) _ _, below_put2 hHeld.2.2.2.2.2.2 (by omega) _ _⟩ (fun hHeld => ?_)
      clear hK Kc
      have ⟨c_pmb2_0, c_pmb2_1, c_pmb2_2, c_pmb2_3⟩ : Bx ((((wr.setCell ⟨pmb0, 0, none⟩ (.int .i64 s14)).setCell ⟨pmb0, 1, none⟩ (.slice d14 l14 c14)).setCell ⟨pmb1, 0, none⟩ (.int .i64 s15)).setCell ⟨pmb1, 1, none⟩ (.slice d15 l15 c15)) pmb2 (.int .i64 0) (.slice none 0 0) := ((((y_pmb2.put ne_0_2).put ne_0_2).put ne_1_2).put ne_1_2)
      refine take_call (i := 17) rfl (by kernel_rfl) (fun Kc hK => ?_)
      go_simp
      refine hK.out _ _ ⟨cell_put2 hHeld.1 (by omega) _ _, cell_put2 hHeld.2.1 (by omega) _ _, cell_put2 hHeld.2.2.1 (by omega) _ _, cell_put2 hHeld.2.2.2.1 (by omega) _ _, cell_put2 hHeld.2.2.2.2.1 (by omega) _ _, cell_put2 hHeld.2.2.2.2.2.1 (by omega) _ _, below_put2 hHeld.2.2.2.2.2.2 (by omega) _ _⟩ (fun hHeld => ?_)
      clear hK Kc
      refine wpAnyH_done (by kernel_rfl) ?_ _
      rw [HQQ.out]
      exact ⟨rfl, pmb0, pmb1, pmb2, s14, d14, l14, c14, s15, d15, l15, c15, s16, d16, l16, c16, rfl, ((((((r11.put n_r11_0_pmb0 0 _).put n_r11_0_pmb0 1 _).put n_r11_0_pmb1 0 _).put n_r11_0_pmb1 1 _).put n_r11_0_pmb2 0 _).put n_r11_0_pmb2 1 _), ((((((r12.put n_r12_0_pmb0 0 _).put n_r12_0_pmb0 1 _).put n_r12_0_pmb1 0 _).put n_r12_0_pmb1 1 _).put n_r12_0_pmb2 0 _).put n_r12_0_pmb2 1 _), ((((((r13.put n_r13_0_pmb0 0 _).put n_r13_0_pmb0 1 _).put n_r13_0_pmb1 0 _).put n_r13_0_pmb1 1 _).put n_r13_0_pmb2 0 _).put n_r13_0_pmb2 1 _), ((((((r14.put n_r14_0_pmb0 0 _).put n_r14_0_pmb0 1 _).put n_r14_0_pmb1 0 _).put n_r14_0_pmb1 1 _).put n_r14_0_pmb2 0 _).put n_r14_0_pmb2 1 _), ((((((r15.put n_r15_0_pmb0 0 _).put n_r15_0_pmb0 1 _).put n_r15_0_pmb1 0 _).put n_r15_0_pmb1 1 _).put n_r15_0_pmb2 0 _).put n_r15_0_pmb2 1 _), ((((((r16.put n_r16_0_pmb0 0 _).put n_r16_0_pmb0 1 _).put n_r16_0_pmb1 0 _).put n_r16_0_pmb1 1 _).put n_r16_0_pmb2 0 _).put n_r16_0_pmb2 1 _), ((((((x_a.put (by omega)).put (by omega)).put (by omega)).put (by omega)).put (by omega)).put (by omega)), ((((((x_b.put (by omega)).put (by omega)).put (by omega)).put (by omega)).put (by omega)).put (by omega)), ((((((x_c.put (by omega)).put (by omega)).put (by omega)).put (by omega)).put (by omega)).put (by omega)), ((((((x_r.put (by omega)).put (by omega)).put (by omega)).put (by omega)).put (by omega)).put (by omega)), ((((((x_p.put (by omega)).put (by omega)).put (by omega)).put (by omega)).put (by omega)).put (by omega)), ((((((x_q.put (by omega)).put (by omega)).put (by omega)).put (by omega)).put (by omega)).put (by omega)), ((((((x_s.put (by omega)).put (by omega)).put (by omega)).put (by omega)).put (by omega)).put (by omega)), ((((y_pmb0.set.put (fun e => ne_0_1 e.symm)).put (fun e => ne_0_1 e.symm)).put (fun e => ne_0_2 e.symm)).put (fun e => ne_0_2 e.symm)), ((((y_pmb1.put ne_0_1).put ne_0_1).set.put (fun e => ne_1_2 e.symm)).put (fun e => ne_1_2 e.symm)), ((((y_pmb2.put ne_0_2).put ne_0_2).put ne_1_2).put ne_1_2).set, (below_put2 (below_put2 (below_put2 BB (by omega) _ _) (by omega) _ _) (by omega) _ _), by have := BU.size; simp only [World.size_setCell]; omega, ⟨gpmb0, by simp only [World.size_setCell]; omega⟩, ⟨gpmb1, by simp only [World.size_setCell]; omega⟩, ⟨gpmb2, by simp only [World.size_setCell]; omega⟩⟩
    · refine Or.inr ⟨f - 1, by omega, ?nemb, ?opsmb⟩
      case nemb =>
        cases he0 : eD 0
        · exact ready_ne (i := 12) (by decide) (by kernel_rfl)
        cases he1 : eD 1
        · exact ready_ne (i := 13) (by decide) (by kernel_rfl)
        cases he2 : eD 2
        · exact ready_ne (i := 14) (by decide) (by kernel_rfl)
        cases hb0 : bD 0
        · exact ready_ne (i := 3) (by decide) (by kernel_rfl)
        cases hb1 : bD 1
        · exact ready_ne (i := 7) (by decide) (by kernel_rfl)
        cases hb2 : bD 2
        · exact ready_ne (i := 11) (by decide) (by kernel_rfl)
        exact absurd ⟨hb2, he0, he1, he2⟩ hall
      case opsmb =>
        intro i hi
        obtain ⟨hlt, hnot, hdep⟩ := ready_at hi
        replace hlt : i < 18 := hlt
        obtain rfl | rfl | rfl | rfl | rfl | rfl | rfl | rfl | rfl | rfl | rfl | rfl | rfl | rfl | rfl | rfl | rfl | rfl : i = 0 ∨ i = 1 ∨ i = 2 ∨ i = 3 ∨ i = 4 ∨ i = 5 ∨ i = 6 ∨ i = 7 ∨ i = 8 ∨ i = 9 ∨ i = 10 ∨ i = 11 ∨ i = 12 ∨ i = 13 ∨ i = 14 ∨ i = 15 ∨ i = 16 ∨ i = 17 := by omega
        · skip
          exact Bool.noConfusion (show true = false from hnot)
        · skip
          exact Bool.noConfusion (show true = false from hnot)
        · skip
          exact Bool.noConfusion (show true = false from hnot)
        · skip
          have hbj : bD 0 = false := hnot
          refine ⟨_, rfl, fun K' hK => ?_⟩
          have r11 := r11.below hm.bel
          have r12 := r12.below hm.bel
          have r13 := r13.below hm.bel
          go_simp
          (go_at_call 29; refine (rcWeight s11 d11 l11 c11 s12 d12 l12 c12 s13 d13 l13 c13 P Q R _ r11 r12 r13 QP.out QQ'.out QR.out EXw.out).mono ?_; rintro e' X ⟨s14, d14, l14, c14, rfl, r14, f14, bX⟩)
          have hm' := hm.call (SpF_good Xw Yw Zw) 0 bX (.agg #[.int .i64 s14, .slice d14 l14 c14]) (fun w => RN w s14 d14 l14 c14 Xw) (fun k => NA k d14 l14) ⟨_, _, _, _, rfl, rfl, rfl⟩ r14 (fun i hi => f14 (pD i) (hm.lt i hi) trivial)
          refine hK.out _ _ ⟨cell_on hm'.bel x_p.c0, cell_on hm'.bel x_p.c1, cell_on hm'.bel x_q.c0, cell_on hm'.bel x_q.c1, cell_on hm'.bel x_s.c0, cell_on hm'.bel x_s.c1, also BB hm'.bel⟩ ?_
          rw [HINV.out]
          exact ⟨upd bD 0 true, eD, pD, upd RD 0 (fun w => RN w s14 d14 l14 c14 Xw), upd AD 0 (fun k => NA k d14 l14), upd uD 0 (.agg #[.int .i64 s14, .slice d14 l14 c14]), vD, fuel_SpF_b0 hf hbj, rfl, rfl, fun _ => rfl, ch1, hm'⟩
        · skip
          exact Bool.noConfusion (show true = false from hnot)
        · skip
          exact Bool.noConfusion (show true = false from hnot)
        · skip
          exact Bool.noConfusion (show true = false from hnot)
        · skip
          have hbj : bD 1 = false := hnot
          have hprev : bD 0 = true := hdep _ rfl 3 _ rfl rfl
          refine ⟨_, rfl, fun K' hK => ?_⟩
          have r11 := r11.below hm.bel
          have r12 := r12.below hm.bel
          have r13 := r13.below hm.bel
          go_simp
          (go_at_call 29; refine (rcWeight s12 d12 l12 c12 s13 d13 l13 c13 s11 d11 l11 c11 Q R P _ r12 r13 r11 QQ'.out QR.out QP.out EYw.out).mono ?_; rintro e' X ⟨s15, d15, l15, c15, rfl, r15, f15, bX⟩)
          have hm' := hm.call (SpF_good Xw Yw Zw) 1 bX (.agg #[.int .i64 s15, .slice d15 l15 c15]) (fun w => RN w s15 d15 l15 c15 Yw) (fun k => NA k d15 l15) ⟨_, _, _, _, rfl, rfl, rfl⟩ r15 (fun i hi => f15 (pD i) (hm.lt i hi) trivial)
          refine hK.out _ _ ⟨cell_on hm'.bel x_p.c0, cell_on hm'.bel x_p.c1, cell_on hm'.bel x_q.c0, cell_on hm'.bel x_q.c1, cell_on hm'.bel x_s.c0, cell_on hm'.bel x_s.c1, also BB hm'.bel⟩ ?_
          rw [HINV.out]
          exact ⟨upd bD 1 true, eD, pD, upd RD 1 (fun w => RN w s15 d15 l15 c15 Yw), upd AD 1 (fun k => NA k d15 l15), upd uD 1 (.agg #[.int .i64 s15, .slice d15 l15 c15]), vD, fuel_SpF_b1 hf hbj, rfl, rfl, fun _ => hprev, fun _ => rfl, hm'⟩
        · skip
          exact Bool.noConfusion (show true = false from hnot)
        · skip
          exact Bool.noConfusion (show true = false from hnot)
        · skip
          exact Bool.noConfusion (show true = false from hnot)
        · skip
          have hbj : bD 2 = false := hnot
          have hprev : bD 1 = true := hdep _ rfl 3 _ rfl rfl
          have hq0 : bD 0 = true := ch0 hprev
          refine ⟨_, rfl, fun K' hK => ?_⟩
          have r11 := r11.below hm.bel
          have r12 := r12.below hm.bel
          have r13 := r13.below hm.bel
          go_simp
          (go_at_call 29; refine (rcWeight s13 d13 l13 c13 s11 d11 l11 c11 s12 d12 l12 c12 R P Q _ r13 r11 r12 QR.out QP.out QQ'.out EZw.out).mono ?_; rintro e' X ⟨s16, d16, l16, c16, rfl, r16, f16, bX⟩)
          have hm' := hm.call (SpF_good Xw Yw Zw) 2 bX (.agg #[.int .i64 s16, .slice d16 l16 c16]) (fun w => RN w s16 d16 l16 c16 Zw) (fun k => NA k d16 l16) ⟨_, _, _, _, rfl, rfl, rfl⟩ r16 (fun i hi => f16 (pD i) (hm.lt i hi) trivial)
          refine hK.out _ _ ⟨cell_on hm'.bel x_p.c0, cell_on hm'.bel x_p.c1, cell_on hm'.bel x_q.c0, cell_on hm'.bel x_q.c1, cell_on hm'.bel x_s.c0, cell_on hm'.bel x_s.c1, also BB hm'.bel⟩ ?_
          rw [HINV.out]
          exact ⟨upd bD 2 true, eD, pD, upd RD 2 (fun w => RN w s16 d16 l16 c16 Zw), upd AD 2 (fun k => NA k d16 l16), upd uD 2 (.agg #[.int .i64 s16, .slice d16 l16 c16]), vD, fuel_SpF_b2 hf hbj, rfl, rfl, ch0, fun _ => hprev, hm'⟩
        · skip
          have hei : eD 0 = false := hnot
          refine ⟨_, rfl, fun K' hK => ?_⟩
          go_simp
          have hm' := hm.alloc (SpF_good Xw Yw Zw) 0 39 hei
          refine hK.out _ _ ⟨cell_on hm'.bel x_p.c0, cell_on hm'.bel x_p.c1, cell_on hm'.bel x_q.c0, cell_on hm'.bel x_q.c1, cell_on hm'.bel x_s.c0, cell_on hm'.bel x_s.c1, also BB hm'.bel⟩ ?_
          rw [HINV.out]
          exact ⟨bD, upd eD 0 true, upd pD 0 wr.heap.size, RD, AD, uD, upd vD 0 (.pointer (some ⟨wr.heap.size, 0, none⟩)), fuel_SpF_e0 hf hei, rfl, rfl, ch0, ch1, hm'⟩
        · skip
          have hei : eD 1 = false := hnot
          refine ⟨_, rfl, fun K' hK => ?_⟩
          go_simp
          have hm' := hm.alloc (SpF_good Xw Yw Zw) 1 39 hei
          refine hK.out _ _ ⟨cell_on hm'.bel x_p.c0, cell_on hm'.bel x_p.c1, cell_on hm'.bel x_q.c0, cell_on hm'.bel x_q.c1, cell_on hm'.bel x_s.c0, cell_on hm'.bel x_s.c1, also BB hm'.bel⟩ ?_
          rw [HINV.out]
          exact ⟨bD, upd eD 1 true, upd pD 1 wr.heap.size, RD, AD, uD, upd vD 1 (.pointer (some ⟨wr.heap.size, 0, none⟩)), fuel_SpF_e1 hf hei, rfl, rfl, ch0, ch1, hm'⟩
        · skip
          have hei : eD 2 = false := hnot
          refine ⟨_, rfl, fun K' hK => ?_⟩
          go_simp
          have hm' := hm.alloc (SpF_good Xw Yw Zw) 2 39 hei
          refine hK.out _ _ ⟨cell_on hm'.bel x_p.c0, cell_on hm'.bel x_p.c1, cell_on hm'.bel x_q.c0, cell_on hm'.bel x_q.c1, cell_on hm'.bel x_s.c0, cell_on hm'.bel x_s.c1, also BB hm'.bel⟩ ?_
          rw [HINV.out]
          exact ⟨bD, upd eD 2 true, upd pD 2 wr.heap.size, RD, AD, uD, upd vD 2 (.pointer (some ⟨wr.heap.size, 0, none⟩)), fuel_SpF_e2 hf hei, rfl, rfl, ch0, ch1, hm'⟩
        · skip
          exact absurd ⟨hdep _ rfl 2 _ rfl rfl, hdep _ rfl 0 _ rfl rfl, hdep _ rfl 16 _ rfl rfl, hdep _ rfl 17 _ rfl rfl⟩ hall
        · skip
          exact Bool.noConfusion (show false = true from hdep _ rfl 2 _ rfl rfl)
        · skip
          exact Bool.noConfusion (show false = true from hdep _ rfl 2 _ rfl rfl)
  rw [HQQ.out]
  rintro e act Y2 ⟨rfl, pmb0, pmb1, pmb2, s14, d14, l14, c14, s15, d15, l15, c15, s16, d16, l16, c16, rfl, r11, r12, r13, r14, r15, r16, x_a, x_b, x_c, x_r, x_p, x_q, x_s, x_x, x_y, x_z, BB, z_Y2, z_Y2_pmb0, z_Y2_pmb1, z_Y2_pmb2⟩
  clear HQQ QQ
  try dsimp only
  go_wp2
  have dd1 : Below Y2.heap.size Y2 Y2.drew := (Below.refl _ _).drew
  have zdd1 := dd1.size
  replace BB := also BB dd1
  replace x_a := x_a.on dd1
  replace x_b := x_b.on dd1
  replace x_c := x_c.on dd1
  replace x_r := x_r.on dd1
  replace r11 := r11.below dd1
  replace r12 := r12.below dd1
  replace r13 := r13.below dd1
  replace x_p := x_p.on dd1
  replace x_q := x_q.on dd1
  replace x_s := x_s.on dd1
  replace r14 := r14.below dd1
  replace r15 := r15.below dd1
  replace r16 := r16.below dd1
  replace x_x := x_x.on dd1
  replace x_y := x_y.on dd1
  replace x_z := x_z.on dd1
  refine wp_region_held_drew (S := (fun w' => w'.cell? ⟨w.heap.size, 0, none⟩ = some (.int .i64 a1) ∧ w'.cell? ⟨w.heap.size, 1, none⟩ = some (.int .i64 a2) ∧ w'.cell? ⟨w.heap.size + 1, 0, none⟩ = some (.int .i64 b1) ∧ w'.cell? ⟨w.heap.size + 1, 1, none⟩ = some (.int .i64 b2) ∧ w'.cell? ⟨w.heap.size + 1 + 1, 0, none⟩ = some (.int .i64 c1) ∧ w'.cell? ⟨w.heap.size + 1 + 1, 1, none⟩ = some (.int .i64 c2) ∧ w'.cell? ⟨pmb0, 0, none⟩ = some (.int .i64 s14) ∧ w'.cell? ⟨pmb0, 1, none⟩ = some (.slice d14 l14 c14) ∧ w'.cell? ⟨pmb1, 0, none⟩ = some (.int .i64 s15) ∧ w'.cell? ⟨pmb1, 1, none⟩ = some (.slice d15 l15 c15) ∧ w'.cell? ⟨pmb2, 0, none⟩ = some (.int .i64 s16) ∧ w'.cell? ⟨pmb2, 1, none⟩ = some (.slice d16 l16 c16) ∧ Below w.heap.size w w')) (by kernel_rfl) ?_ (fun hHeld => ?_)
  · exact ⟨x_a.c0, x_a.c1, x_b.c0, x_b.c1, x_c.c0, x_c.c1, x_x.c0, x_x.c1, x_y.c0, x_y.c1, x_z.c0, x_z.c1, BB⟩
  refine take_yes (i := 0) (v := ?vs0) rfl (by kernel_rfl) (by kernel_rfl) (by kernel_rfl) (fun _ _ _ h => h) (by rfl) (by assumption) ?hys0 ?rests0
  case hys0 => (intro w hSw; (try dsimp only at hSw); first | (go_simp; done) | (go_simp; with_reducible rfl))
  simp only [Act.put, List.setIfInBounds_toArray, List.set_cons_zero, List.set_cons_succ]
  refine take_yes (i := 1) (v := ?vs1) rfl (by kernel_rfl) (by kernel_rfl) (by kernel_rfl) (fun _ _ _ h => h) (by rfl) (by assumption) ?hys1 ?rests1
  case hys1 => (intro w hSw; (try dsimp only at hSw); first | (go_simp; done) | (go_simp; with_reducible rfl))
  simp only [Act.put, List.setIfInBounds_toArray, List.set_cons_zero, List.set_cons_succ]
  refine take_yes (i := 2) (v := ?vs2) rfl (by kernel_rfl) (by kernel_rfl) (by kernel_rfl) (fun _ _ _ h => h) (by rfl) (by assumption) ?hys2 ?rests2
  case hys2 => (intro w hSw; (try dsimp only at hSw); first | (go_simp; done) | (go_simp; with_reducible rfl))
  simp only [Act.put, List.setIfInBounds_toArray, List.set_cons_zero, List.set_cons_succ]
  refine take_yes (i := 3) (v := ?vs3) rfl (by kernel_rfl) (by kernel_rfl) (by kernel_rfl) (fun _ _ _ h => h) (by rfl) (by assumption) ?hys3 ?rests3
  case hys3 => (intro w hSw; (try dsimp only at hSw); first | (go_simp; done) | (go_simp; with_reducible rfl))
  simp only [Act.put, List.setIfInBounds_toArray, List.set_cons_zero, List.set_cons_succ]
  refine take_yes (i := 4) (v := ?vs4) rfl (by kernel_rfl) (by kernel_rfl) (by kernel_rfl) (fun _ _ _ h => h) (by rfl) (by assumption) ?hys4 ?rests4
  case hys4 => (intro w hSw; (try dsimp only at hSw); first | (go_simp; done) | (go_simp; with_reducible rfl))
  simp only [Act.put, List.setIfInBounds_toArray, List.set_cons_zero, List.set_cons_succ]
  refine take_yes (i := 5) (v := ?vs5) rfl (by kernel_rfl) (by kernel_rfl) (by kernel_rfl) (fun _ _ _ h => h) (by rfl) (by assumption) ?hys5 ?rests5
  case hys5 => (intro w hSw; (try dsimp only at hSw); first | (go_simp; done) | (go_simp; with_reducible rfl))
  simp only [Act.put, List.setIfInBounds_toArray, List.set_cons_zero, List.set_cons_succ]
  refine take_yes (i := 6) (v := ?vs6) rfl (by kernel_rfl) (by kernel_rfl) (by kernel_rfl) (fun _ _ _ h => h) (by rfl) (by assumption) ?hys6 ?rests6
  case hys6 => (intro w hSw; (try dsimp only at hSw); first | (go_simp; done) | (go_simp; with_reducible rfl))
  simp only [Act.put, List.setIfInBounds_toArray, List.set_cons_zero, List.set_cons_succ]
  refine take_yes (i := 7) (v := ?vs7) rfl (by kernel_rfl) (by kernel_rfl) (by kernel_rfl) (fun _ _ _ h => h) (by rfl) (by assumption) ?hys7 ?rests7
  case hys7 => (intro w hSw; (try dsimp only at hSw); first | (go_simp; done) | (go_simp; with_reducible rfl))
  simp only [Act.put, List.setIfInBounds_toArray, List.set_cons_zero, List.set_cons_succ]
  refine take_yes (i := 8) (v := ?vs8) rfl (by kernel_rfl) (by kernel_rfl) (by kernel_rfl) (fun _ _ _ h => h) (by rfl) (by assumption) ?hys8 ?rests8
  case hys8 => (intro w hSw; (try dsimp only at hSw); first | (go_simp; done) | (go_simp; with_reducible rfl))
  simp only [Act.put, List.setIfInBounds_toArray, List.set_cons_zero, List.set_cons_succ]
  refine take_yes (i := 11) (v := ?vs11) rfl (by kernel_rfl) (by kernel_rfl) (by kernel_rfl) (fun _ _ _ h => h) (by rfl) (by assumption) ?hys11 ?rests11
  case hys11 => (intro w hSw; (try dsimp only at hSw); first | (go_simp; done) | (go_simp; with_reducible rfl))
  simp only [Act.put, List.setIfInBounds_toArray, List.set_cons_zero, List.set_cons_succ]
  refine take_yes (i := 12) (v := ?vs12) rfl (by kernel_rfl) (by kernel_rfl) (by kernel_rfl) (fun _ _ _ h => h) (by rfl) (by assumption) ?hys12 ?rests12
  case hys12 => (intro w hSw; (try dsimp only at hSw); first | (go_simp; done) | (go_simp; with_reducible rfl))
  simp only [Act.put, List.setIfInBounds_toArray, List.set_cons_zero, List.set_cons_succ]
  refine take_yes (i := 13) (v := ?vs13) rfl (by kernel_rfl) (by kernel_rfl) (by kernel_rfl) (fun _ _ _ h => h) (by rfl) (by assumption) ?hys13 ?rests13
  case hys13 => (intro w hSw; (try dsimp only at hSw); first | (go_simp; done) | (go_simp; with_reducible rfl))
  simp only [Act.put, List.setIfInBounds_toArray, List.set_cons_zero, List.set_cons_succ]
  refine take_yes (i := 14) (v := ?vs14) rfl (by kernel_rfl) (by kernel_rfl) (by kernel_rfl) (fun _ _ _ h => h) (by rfl) (by assumption) ?hys14 ?rests14
  case hys14 => (intro w hSw; (try dsimp only at hSw); first | (go_simp; done) | (go_simp; with_reducible rfl))
  simp only [Act.put, List.setIfInBounds_toArray, List.set_cons_zero, List.set_cons_succ]
  refine take_yes (i := 15) (v := ?vs15) rfl (by kernel_rfl) (by kernel_rfl) (by kernel_rfl) (fun _ _ _ h => h) (by rfl) (by assumption) ?hys15 ?rests15
  case hys15 => (intro w hSw; (try dsimp only at hSw); first | (go_simp; done) | (go_simp; with_reducible rfl))
  simp only [Act.put, List.setIfInBounds_toArray, List.set_cons_zero, List.set_cons_succ]
  refine take_yes (i := 16) (v := ?vs16) rfl (by kernel_rfl) (by kernel_rfl) (by kernel_rfl) (fun _ _ _ h => h) (by rfl) (by assumption) ?hys16 ?rests16
  case hys16 => (intro w hSw; (try dsimp only at hSw); first | (go_simp; done) | (go_simp; with_reducible rfl))
  simp only [Act.put, List.setIfInBounds_toArray, List.set_cons_zero, List.set_cons_succ]
  refine take_yes (i := 17) (v := ?vs17) rfl (by kernel_rfl) (by kernel_rfl) (by kernel_rfl) (fun _ _ _ h => h) (by rfl) (by assumption) ?hys17 ?rests17
  case hys17 => (intro w hSw; (try dsimp only at hSw); first | (go_simp; done) | (go_simp; with_reducible rfl))
  simp only [Act.put, List.setIfInBounds_toArray, List.set_cons_zero, List.set_cons_succ]
  refine take_yes (i := 18) (v := ?vs18) rfl (by kernel_rfl) (by kernel_rfl) (by kernel_rfl) (fun _ _ _ h => h) (by rfl) (by assumption) ?hys18 ?rests18
  case hys18 => (intro w hSw; (try dsimp only at hSw); first | (go_simp; done) | (go_simp; with_reducible rfl))
  simp only [Act.put, List.setIfInBounds_toArray, List.set_cons_zero, List.set_cons_succ]
  refine take_yes (i := 19) (v := ?vs19) rfl (by kernel_rfl) (by kernel_rfl) (by kernel_rfl) (fun _ _ _ h => h) (by rfl) (by assumption) ?hys19 ?rests19
  case hys19 => (intro w hSw; (try dsimp only at hSw); first | (go_simp; done) | (go_simp; with_reducible rfl))
  simp only [Act.put, List.setIfInBounds_toArray, List.set_cons_zero, List.set_cons_succ]
  refine take_call (i := 9) rfl (by kernel_rfl) (fun Kc hK => ?_)
  go_simp
  (go_at_call 31; refine (rcMean a1 b1 c1 s14 d14 l14 c14 s15 d15 l15 c15 s16 d16 l16 c16 Xw Yw Zw _ r14 r15 r16 Ra1 Rb1 Rc1 QXw.out QYw.out QZw.out H0.out M1 D EM1.out HD.out).mono ?_; rintro e w1 ⟨s21, d21, l21, c21, t21, g21, h21, k21, rfl, q21, f21, bw1⟩)
  refine hK.out _ _ ?_ (fun hHeld => ?_)
  · exact ⟨cell_on bw1 hHeld.1, cell_on bw1 hHeld.2.1, cell_on bw1 hHeld.2.2.1, cell_on bw1 hHeld.2.2.2.1, cell_on bw1 hHeld.2.2.2.2.1, cell_on bw1 hHeld.2.2.2.2.2.1, cell_on bw1 hHeld.2.2.2.2.2.2.1, cell_on bw1 hHeld.2.2.2.2.2.2.2.1, cell_on bw1 hHeld.2.2.2.2.2.2.2.2.1, cell_on bw1 hHeld.2.2.2.2.2.2.2.2.2.1, cell_on bw1 hHeld.2.2.2.2.2.2.2.2.2.2.1, cell_on bw1 hHeld.2.2.2.2.2.2.2.2.2.2.2.1, also hHeld.2.2.2.2.2.2.2.2.2.2.2.2 bw1⟩
  clear hK Kc
  have zbw1 := bw1.size
  replace BB := also BB bw1
  replace x_a := x_a.on bw1
  replace x_b := x_b.on bw1
  replace x_c := x_c.on bw1
  replace x_r := x_r.on bw1
  replace r11 := r11.below bw1
  replace r12 := r12.below bw1
  replace r13 := r13.below bw1
  replace x_p := x_p.on bw1
  replace x_q := x_q.on bw1
  replace x_s := x_s.on bw1
  replace r14 := r14.below bw1
  replace r15 := r15.below bw1
  replace r16 := r16.below bw1
  replace x_x := x_x.on bw1
  replace x_y := x_y.on bw1
  replace x_z := x_z.on bw1
  refine take_call (i := 10) rfl (by kernel_rfl) (fun Kc hK => ?_)
  go_simp
  (go_at_call 30; refine (rqLow s21 d21 l21 c21 t21 g21 h21 k21 M1 D 10 _ q21 N1 D1 EN1.out ED1.out).mono ?_; rintro e w2 ⟨s22, d22, l22, c22, t22, g22, h22, k22, rfl, q22, f22, bw2⟩)
  refine hK.out _ _ ?_ (fun hHeld => ?_)
  · exact ⟨cell_on bw2 hHeld.1, cell_on bw2 hHeld.2.1, cell_on bw2 hHeld.2.2.1, cell_on bw2 hHeld.2.2.2.1, cell_on bw2 hHeld.2.2.2.2.1, cell_on bw2 hHeld.2.2.2.2.2.1, cell_on bw2 hHeld.2.2.2.2.2.2.1, cell_on bw2 hHeld.2.2.2.2.2.2.2.1, cell_on bw2 hHeld.2.2.2.2.2.2.2.2.1, cell_on bw2 hHeld.2.2.2.2.2.2.2.2.2.1, cell_on bw2 hHeld.2.2.2.2.2.2.2.2.2.2.1, cell_on bw2 hHeld.2.2.2.2.2.2.2.2.2.2.2.1, also hHeld.2.2.2.2.2.2.2.2.2.2.2.2 bw2⟩
  clear hK Kc
  have zbw2 := bw2.size
  replace BB := also BB bw2
  replace x_a := x_a.on bw2
  replace x_b := x_b.on bw2
  replace x_c := x_c.on bw2
  replace x_r := x_r.on bw2
  replace r11 := r11.below bw2
  replace r12 := r12.below bw2
  replace r13 := r13.below bw2
  replace x_p := x_p.on bw2
  replace x_q := x_q.on bw2
  replace x_s := x_s.on bw2
  replace r14 := r14.below bw2
  replace r15 := r15.below bw2
  replace r16 := r16.below bw2
  replace x_x := x_x.on bw2
  replace x_y := x_y.on bw2
  replace x_z := x_z.on bw2
  replace q21 := q21.below bw2
  refine take_call (i := 20) rfl (by kernel_rfl) (fun Kc hK => ?_)
  go_simp
  (go_at_call 31; refine (rcMean a2 b2 c2 s14 d14 l14 c14 s15 d15 l15 c15 s16 d16 l16 c16 Xw Yw Zw _ r14 r15 r16 Ra2 Rb2 Rc2 QXw.out QYw.out QZw.out H0.out M2 D EM2.out HD.out).mono ?_; rintro e w3 ⟨s23, d23, l23, c23, t23, g23, h23, k23, rfl, q23, f23, bw3⟩)
  refine hK.out _ _ ?_ (fun hHeld => ?_)
  · exact ⟨cell_on bw3 hHeld.1, cell_on bw3 hHeld.2.1, cell_on bw3 hHeld.2.2.1, cell_on bw3 hHeld.2.2.2.1, cell_on bw3 hHeld.2.2.2.2.1, cell_on bw3 hHeld.2.2.2.2.2.1, cell_on bw3 hHeld.2.2.2.2.2.2.1, cell_on bw3 hHeld.2.2.2.2.2.2.2.1, cell_on bw3 hHeld.2.2.2.2.2.2.2.2.1, cell_on bw3 hHeld.2.2.2.2.2.2.2.2.2.1, cell_on bw3 hHeld.2.2.2.2.2.2.2.2.2.2.1, cell_on bw3 hHeld.2.2.2.2.2.2.2.2.2.2.2.1, also hHeld.2.2.2.2.2.2.2.2.2.2.2.2 bw3⟩
  clear hK Kc
  have zbw3 := bw3.size
  replace BB := also BB bw3
  replace x_a := x_a.on bw3
  replace x_b := x_b.on bw3
  replace x_c := x_c.on bw3
  replace x_r := x_r.on bw3
  replace r11 := r11.below bw3
  replace r12 := r12.below bw3
  replace r13 := r13.below bw3
  replace x_p := x_p.on bw3
  replace x_q := x_q.on bw3
  replace x_s := x_s.on bw3
  replace r14 := r14.below bw3
  replace r15 := r15.below bw3
  replace r16 := r16.below bw3
  replace x_x := x_x.on bw3
  replace x_y := x_y.on bw3
  replace x_z := x_z.on bw3
  replace q21 := q21.below bw3
  replace q22 := q22.below bw3
  refine take_call (i := 21) rfl (by kernel_rfl) (fun Kc hK => ?_)
  go_simp
  (go_at_call 30; refine (rqLow s23 d23 l23 c23 t23 g23 h23 k23 M2 D 10 _ q23 N2 D2 EN2.out ED2.out).mono ?_; rintro e w4 ⟨s24, d24, l24, c24, t24, g24, h24, k24, rfl, q24, f24, bw4⟩)
  refine hK.out _ _ ?_ (fun hHeld => ?_)
  · exact ⟨cell_on bw4 hHeld.1, cell_on bw4 hHeld.2.1, cell_on bw4 hHeld.2.2.1, cell_on bw4 hHeld.2.2.2.1, cell_on bw4 hHeld.2.2.2.2.1, cell_on bw4 hHeld.2.2.2.2.2.1, cell_on bw4 hHeld.2.2.2.2.2.2.1, cell_on bw4 hHeld.2.2.2.2.2.2.2.1, cell_on bw4 hHeld.2.2.2.2.2.2.2.2.1, cell_on bw4 hHeld.2.2.2.2.2.2.2.2.2.1, cell_on bw4 hHeld.2.2.2.2.2.2.2.2.2.2.1, cell_on bw4 hHeld.2.2.2.2.2.2.2.2.2.2.2.1, also hHeld.2.2.2.2.2.2.2.2.2.2.2.2 bw4⟩
  clear hK Kc
  have zbw4 := bw4.size
  replace BB := also BB bw4
  replace x_a := x_a.on bw4
  replace x_b := x_b.on bw4
  replace x_c := x_c.on bw4
  replace x_r := x_r.on bw4
  replace r11 := r11.below bw4
  replace r12 := r12.below bw4
  replace r13 := r13.below bw4
  replace x_p := x_p.on bw4
  replace x_q := x_q.on bw4
  replace x_s := x_s.on bw4
  replace r14 := r14.below bw4
  replace r15 := r15.below bw4
  replace r16 := r16.below bw4
  replace x_x := x_x.on bw4
  replace x_y := x_y.on bw4
  replace x_z := x_z.on bw4
  replace q21 := q21.below bw4
  replace q22 := q22.below bw4
  replace q23 := q23.below bw4
  refine take_yes (i := 22) (v := ?vs22) rfl (by kernel_rfl) (by kernel_rfl) (by kernel_rfl) (fun _ _ _ h => h) (by rfl) (by assumption) ?hys22 ?rests22
  case hys22 => (intro w hSw; (try dsimp only at hSw); first | (go_simp; done) | (go_simp; with_reducible rfl))
  simp only [Act.put, List.setIfInBounds_toArray, List.set_cons_zero, List.set_cons_succ]
  have ⟨x_r_0, x_r_1, x_r_2, x_r_3, x_r_4, x_r_5, x_r_6, x_r_7, x_r_8, x_r_9, x_r_10, x_r_11, x_r_12, x_r_13, x_r_14, x_r_15⟩ := x_r
  refine take_call (i := 23) rfl (by kernel_rfl) (fun Kc hK => ?_)
  go_simp
  refine hK.out _ _ ?_ (fun hHeld => ?_)
  · first | exact ⟨cell_put8 hHeld.1 (by omega) _ _ _ _ _ _ _ _, cell_put8 hHeld.2.1 (by omega) _ _ _ _ _ _ _ _, cell_put8 hHeld.2.2.1 (by omega) _ _ _ _ _ _ _ _, cell_put8 hHeld.2.2.2.1 (by omega) _ _ _ _ _ _ _ _, cell_put8 hHeld.2.2.2.2.1 (by omega) _ _ _ _ _ _ _ _, cell_put8 hHeld.2.2.2.2.2.1 (by omega) _ _ _ _ _ _ _ _, cell_put8 hHeld.2.2.2.2.2.2.1 (by omega) _ _ _ _ _ _ _ _, cell_put8 hHeld.2.2.2.2.2.2.2.1 (by omega) _ _ _ _ _ _ _ _, cell_put8 hHeld.2.2.2.2.2.2.2.2.1 (by omega) _ _ _ _ _ _ _ _, cell_put8 hHeld.2.2.2.2.2.2.2.2.2.1 (by omega) _ _ _ _ _ _ _ _, cell_put8 hHeld.2.2.2.2.2.2.2.2.2.2.1 (by omega) _ _ _ _ _ _ _ _, cell_put8 hHeld.2.2.2.2.2.2.2.2.2.2.2.1 (by omega) _ _ _ _ _ _ _ _, below_put8 hHeld.2.2.2.2.2.2.2.2.2.2.2.2 (by omega) _ _ _ _ _ _ _ _⟩ | exact ⟨x_a.c0, x_a.c1, x_b.c0, x_b.c1, x_c.c0, x_c.c1, x_x.c0, x_x.c1, x_y.c0, x_y.c1, x_z.c0, x_z.c1, BB⟩
  clear hK Kc
  refine wpAnyH_done (by kernel_rfl) ?_ _
  have m1 := f22 (w.heap.size + 1 + 1 + 1) (by omega) trivial
  have m2 := f24 (w.heap.size + 1 + 1 + 1) (by omega) trivial
  go_wp2
  exact bodyPost_ret (v := .agg #[.int .i64 s22, .slice d22 l22 c22, .int .i64 t22, .slice g22 h22 k22, .int .i64 s24, .slice d24 l24 c24, .int .i64 t24, .slice g24 h24 k24]) (by simp [results, Tryz.results12, go_sem, *]) rfl (⟨s22, d22, l22, c22, t22, g22, h22, k22, s24, d24, l24, c24, t24, g24, h24, k24, rfl, q22.put8 m1.1 m1.2 _ _ _ _ _ _ _ _, q24.put8 m2.1 m2.2 _ _ _ _ _ _ _ _, fun j hj => ⟨f22 j (by omega) trivial, f24 j (by omega) trivial⟩, below_put8 BB (by omega) _ _ _ _ _ _ _ _⟩)
end Go.Proofs.YtcaihoomcdbfnaaGreat
