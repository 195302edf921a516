/-
  Joined texts, part 6:
  What zelligeref04's Long and Floor answer.
-/
import Derived.Test.YtpkcjgkgabemoaaDoorP5
import Derived.Test.YtpkcjgkgabemoaaDoorP4
namespace Go.Proofs.YtpkcjgkgabemoaaDoor
open Go.RowKit
set_option linter.unusedVariables false

def GotHB (w : World) (q r : Nat) (e : Ending) (w' : World) : Prop := ∃ aq lq cq ar lr cr, e = .returned (.tuple #[.slice aq lq cq, .slice ar lr cr]) ∧ HD w' aq lq cq q ∧ HD w' ar lr cr r ∧ Far w.heap.size aq lq ∧ Far w.heap.size ar lr ∧ Below w.heap.size w w'
theorem hfDiv (a b : Option Addr) (la lb ca cb u v : Nat) (w : World) (ha : HD w a la ca u) (hb : HD w b lb cb v) (fu : hf.nlen u ≤ 1000000) (fv : hf.nlen v ≤ 1000000) (hv : 0 < v) : Calls Tryd.prog 52 #[.slice a la ca, .slice b lb cb] w (GotHB w (u / v) (u % v)) := by
  obtain ⟨ha, rfl⟩ := ha
  obtain ⟨hb, rfl⟩ := hb
  refine (rdivMod_own a b ca cb u v w ha hb (by omega) (by omega) hv).mono ?_
  rintro e w' ⟨aq, cq, ar, cr, he, hq, hr, hbel⟩
  exact ⟨aq, _, cq, ar, _, cr, he, ⟨Own.sl hq, rfl⟩, ⟨Own.sl hr, rfl⟩, Own.far hq, Own.far hr, hbel⟩

set_option maxRecDepth 100000 in
set_option maxHeartbeats 1000000 in
theorem rwLong (x : Int) (w : World) (h1 : -9223372036854775808 ≤ x) (h2 : x ≤ 9223372036854775807) : Calls Tryd.prog 31 #[.int .i64 x] w (GotR w (fun _ => True) x) := by
  by_cases hx : x = 0
  · subst hx
    go_enter Tryd.func31, Tryd.ntmps31
    go_wp2
    exact bodyPost_ret (v := .agg #[.int .i64 0, .slice none 0 0]) (by simp [results, Tryd.results31, go_sem, *]) rfl ⟨0, none, 0, 0, rfl, rn_zero _ 0, fun _ _ _ => Or.inl rfl, (Below.refl _ _).alloc (Nat.le_refl _) _⟩
  have B0 : Below w.heap.size w (w.alloc (.cells #[.int .i64 0, .slice none 0 0] 30)) := (Below.refl _ _).alloc (Nat.le_refl _) _
  have x0 := bx_new w (.int .i64 0) (.slice none 0 0) 30
  obtain ⟨u, hu⟩ : ∃ u, u = x.natAbs := ⟨_, rfl⟩
  have hul : u < 18446744073709551616 := by omega
  have ho := own_two (w.alloc (.cells #[.int .i64 0, .slice none 0 0] 30)) u hul
  have hb1 : Below (w.alloc (.cells #[.int .i64 0, .slice none 0 0] 30)).heap.size (w.alloc (.cells #[.int .i64 0, .slice none 0 0] 30)) ((w.alloc (.cells #[.int .i64 0, .slice none 0 0] 30)).alloc (.cells #[.int .u32 ((u : Int) % 4294967296), .int .u32 ((u : Int) / 4294967296)] 82)) := (Below.refl _ _).alloc (Nat.le_refl _) _
  have hni : NI _ _ 2 2 u := ⟨Own.sl ho, by omega, by decide⟩
  rw [World.size_alloc] at hni
  have x1 := x0.on hb1
  have E2 : (u : Int) / 4294967296 % 4294967296 = (u : Int) / 4294967296 := by omega
  by_cases hn : x < 0
  · have E : IntKind.u64.wrap (-IntKind.u64.wrap x) = (u : Int) := by rw [IntKind.wrap_u64, IntKind.wrap_u64]; omega
    have HR : Hid ((-1 : Int) = x.sign) := (sign_neg hn).symm
    have HU : Hid _ := hu
    clear hu ho
    go_enter Tryd.func31, Tryd.ntmps31
    go_wp2_with (go_at_call 39; fail)
    refine (hfOf _ 2 2 u _ hni).mono ?_
    rintro e w2 ⟨d, l, c, rfl, hd, fd, b2⟩
    obtain ⟨k0, k1, k2, k3⟩ := x1.on b2
    go_wp2
    exact bodyPost_ret (v := .agg #[.int .i64 (-1), .slice d l c]) (by simp [results, Tryd.results31, go_sem, *]) rfl (endR _ (by omega) (also (also B0 hb1) b2) ⟨HU.out ▸ hd, HR.out⟩ (fd _ (by simp; omega)) (fun j hj _ => fd j (by simp; omega)) _ _)
  · obtain ⟨y, rfl⟩ := Int.eq_ofNat_of_zero_le (show 0 ≤ x by omega)
    obtain rfl : u = y := by omega
    have HR : Hid ((1 : Int) = ((u : Nat) : Int).sign) := (sign_pos (by omega)).symm
    have HU : Hid (u = ((u : Nat) : Int).natAbs) := hu
    clear hu ho
    go_enter Tryd.func31, Tryd.ntmps31
    go_wp2_with (go_at_call 39; fail)
    refine (hfOf _ 2 2 u _ hni).mono ?_
    rintro e w2 ⟨d, l, c, rfl, hd, fd, b2⟩
    obtain ⟨k0, k1, k2, k3⟩ := x1.on b2
    go_wp2
    exact bodyPost_ret (v := .agg #[.int .i64 (1), .slice d l c]) (by simp [results, Tryd.results31, go_sem, *]) rfl (endR _ (by omega) (also (also B0 hb1) b2) ⟨HU.out ▸ hd, HR.out⟩ (fd _ (by simp; omega)) (fun j hj _ => fd j (by simp; omega)) _ _)

theorem one_few : hf.nlen (1 : Int).natAbs ≤ 1000000 := Nat.le_trans (hf.nlen_le (n := 1) (by decide)) (by decide)
theorem sg_mul (x y : Int) : x.sign * y.sign = (x * y).sign := (Int.sign_mul x y).symm
theorem keepC3 {p q r : Nat} {v1 v2 v3 v4 v5 v6 : Value} {w0 w w' : World} (h : w.cell? ⟨p, 0, none⟩ = some v1 ∧ w.cell? ⟨p, 1, none⟩ = some v2 ∧ w.cell? ⟨q, 0, none⟩ = some v3 ∧ w.cell? ⟨q, 1, none⟩ = some v4 ∧ w.cell? ⟨r, 0, none⟩ = some v5 ∧ w.cell? ⟨r, 1, none⟩ = some v6 ∧ Below w0.heap.size w0 w) (hb : Below w.heap.size w w') :
    w'.cell? ⟨p, 0, none⟩ = some v1 ∧ w'.cell? ⟨p, 1, none⟩ = some v2 ∧ w'.cell? ⟨q, 0, none⟩ = some v3 ∧ w'.cell? ⟨q, 1, none⟩ = some v4 ∧ w'.cell? ⟨r, 0, none⟩ = some v5 ∧ w'.cell? ⟨r, 1, none⟩ = some v6 ∧ Below w0.heap.size w0 w' :=
  ⟨cell_on hb h.1, cell_on hb h.2.1, cell_on hb h.2.2.1, cell_on hb h.2.2.2.1, cell_on hb h.2.2.2.2.1, cell_on hb h.2.2.2.2.2.1, also h.2.2.2.2.2.2 hb⟩
theorem keepP3 {p q r k : Nat} {v1 v2 v3 v4 v5 v6 : Value} {w0 w : World} (h : w.cell? ⟨p, 0, none⟩ = some v1 ∧ w.cell? ⟨p, 1, none⟩ = some v2 ∧ w.cell? ⟨q, 0, none⟩ = some v3 ∧ w.cell? ⟨q, 1, none⟩ = some v4 ∧ w.cell? ⟨r, 0, none⟩ = some v5 ∧ w.cell? ⟨r, 1, none⟩ = some v6 ∧ Below w0.heap.size w0 w) (hp : k ≠ p) (hq : k ≠ q) (hr : k ≠ r) (hB : w0.heap.size ≤ k) (u v : Value) :
    ((w.setCell ⟨k, 0, none⟩ u).setCell ⟨k, 1, none⟩ v).cell? ⟨p, 0, none⟩ = some v1 ∧ ((w.setCell ⟨k, 0, none⟩ u).setCell ⟨k, 1, none⟩ v).cell? ⟨p, 1, none⟩ = some v2 ∧ ((w.setCell ⟨k, 0, none⟩ u).setCell ⟨k, 1, none⟩ v).cell? ⟨q, 0, none⟩ = some v3 ∧ ((w.setCell ⟨k, 0, none⟩ u).setCell ⟨k, 1, none⟩ v).cell? ⟨q, 1, none⟩ = some v4 ∧ ((w.setCell ⟨k, 0, none⟩ u).setCell ⟨k, 1, none⟩ v).cell? ⟨r, 0, none⟩ = some v5 ∧ ((w.setCell ⟨k, 0, none⟩ u).setCell ⟨k, 1, none⟩ v).cell? ⟨r, 1, none⟩ = some v6 ∧ Below w0.heap.size w0 ((w.setCell ⟨k, 0, none⟩ u).setCell ⟨k, 1, none⟩ v) := by
  have hne : ∀ i j b : Nat, k ≠ b → (⟨k, i, none⟩ : Addr) ≠ ⟨b, j, none⟩ := fun i j b hb e => by simp only [Addr.mk.injEq] at e; omega
  have g : ∀ (b j : Nat) (x : Value), k ≠ b → w.cell? ⟨b, j, none⟩ = some x → ((w.setCell ⟨k, 0, none⟩ u).setCell ⟨k, 1, none⟩ v).cell? ⟨b, j, none⟩ = some x := fun b j x hb hc => by
    rw [World.cell?_setCell_other _ _ _ _ (hne _ _ _ hb), World.cell?_setCell_other _ _ _ _ (hne _ _ _ hb)]; exact hc
  exact ⟨g _ _ _ hp h.1, g _ _ _ hp h.2.1, g _ _ _ hq h.2.2.1, g _ _ _ hq h.2.2.2.1, g _ _ _ hr h.2.2.2.2.1, g _ _ _ hr h.2.2.2.2.2.1, below_put2 h.2.2.2.2.2.2 hB u v⟩
def GotRF (w : World) (q r : Int) (e : Ending) (w' : World) : Prop := ∃ (s1 : Int) (d1 : Option Addr) (l1 c1 : Nat) (s2 : Int) (d2 : Option Addr) (l2 c2 : Nat), e = .returned (.tuple #[.agg #[.int .i64 s1, .slice d1 l1 c1], .agg #[.int .i64 s2, .slice d2 l2 c2]]) ∧ RN w' s1 d1 l1 c1 q ∧ RN w' s2 d2 l2 c2 r ∧ Below w.heap.size w w'
theorem endRF {w w6 : World} {s1 s2 : Int} {d1 d2 : Option Addr} {l1 c1 l2 c2 : Nat} {Q R : Int} (hq : RN w6 s1 d1 l1 c1 Q) (hr : RN w6 s2 d2 l2 c2 R) (B : Below w.heap.size w w6) (a1 : NA (w.heap.size + 1 + 1) d1 l1) (a2 : NA (w.heap.size + 1 + 1 + 1) d1 l1) (a3 : NA (w.heap.size + 1 + 1) d2 l2) (a4 : NA (w.heap.size + 1 + 1 + 1) d2 l2) (u v u' v' : Value) :
    GotRF w Q R (.returned (.tuple #[.agg #[.int .i64 s1, .slice d1 l1 c1], .agg #[.int .i64 s2, .slice d2 l2 c2]])) ((((w6.setCell ⟨w.heap.size + 1 + 1, 0, none⟩ u).setCell ⟨w.heap.size + 1 + 1, 1, none⟩ v).setCell ⟨w.heap.size + 1 + 1 + 1, 0, none⟩ u').setCell ⟨w.heap.size + 1 + 1 + 1, 1, none⟩ v') :=
  ⟨s1, d1, l1, c1, s2, d2, l2, c2, rfl, (hq.put2 a1 u v).put2 a2 u' v', (hr.put2 a3 u v).put2 a4 u' v', below_put2 (below_put2 B (by omega) u v) (by omega) u' v'⟩
set_option maxRecDepth 100000 in
set_option maxHeartbeats 10000000 in
theorem rwFloor (s t : Int) (d g : Option Addr) (l c h k : Nat) (x y : Int) (w : World) (hx : RN w s d l c x) (hy : RN w t g h k y) (fx : hf.nlen x.natAbs ≤ 1000000) (fy : hf.nlen y.natAbs ≤ 1000000) (h0 : y ≠ 0) (fq0 : hf.nlen (x.sign * y.sign * ((x.natAbs / y.natAbs : Nat) : Int)).natAbs ≤ 1000000) (fq : hf.nlen (flQ x y).natAbs ≤ 1000000) (fp : hf.nlen (flQ x y * y).natAbs ≤ 1000000)
    (Q R : Int) (hQ0 : Q = flQ x y) (hR0 : R = flR x y) : Calls Tryd.prog 23 #[.agg #[.int .i64 s, .slice d l c], .agg #[.int .i64 t, .slice g h k]] w (GotRF w Q R) := by
  obtain ⟨W, hW, B0, xa, xb, x4, x5, hs⟩ := box3 w (.int .i64 s) (.slice d l c) (.int .i64 t) (.slice g h k) (.int .i64 0) (.slice none 0 0) (.int .i64 0) (.slice none 0 0) 30 30 30 30
  have es : -1 ≤ s ∧ s ≤ 1 := by rw [hx.sg]; rcases sign_cases x with ⟨_, e⟩ | ⟨_, e⟩ | ⟨_, e⟩ <;> omega
  have et : t = -1 ∨ t = 0 ∨ t = 1 := by rw [hy.sg]; rcases sign_cases y with ⟨_, e⟩ | ⟨_, e⟩ | ⟨_, e⟩ <;> omega
  have ew' : wrap64 (s * t) = s * t := by
    unfold wrap64
    rcases et with e | e | e <;> rw [e] <;> omega
  have hst : s * t = x.sign * y.sign := by rw [hx.sg, hy.sg]
  obtain ⟨sd, hsd⟩ : ∃ sd, sd = s * t := ⟨_, rfl⟩
  rw [← hsd] at hst ew'
  have EW : wrap64 (s * t) = sd := by rw [hsd] at ew' ⊢; exact ew'
  have hv0 : 0 < y.natAbs := by omega
  obtain ⟨q0, hq0⟩ : ∃ q0 : Nat, q0 = x.natAbs / y.natAbs := ⟨_, rfl⟩
  obtain ⟨r0, hr0⟩ : ∃ r0 : Nat, r0 = x.natAbs % y.natAbs := ⟨_, rfl⟩
  obtain ⟨z0, hz0⟩ : ∃ z0, z0 = x.sign * y.sign * ((x.natAbs / y.natAbs : Nat) : Int) := ⟨_, rfl⟩
  have HD0 := hfDiv d g l h c k _ _ W (hx.hd.below B0) (hy.hd.below B0) fx fy hv0
  rw [← hq0, ← hr0] at HD0
  have HDD : Hid _ := HD0
  have hzq : q0 = z0.natAbs := by
    rw [hz0, ← hq0, Int.natAbs_mul, sg_mul]
    rcases sign_cases (x * y) with ⟨_, e⟩ | ⟨e', e⟩ | ⟨_, e⟩
    · rw [e]; simp
    · have : x = 0 := by rcases Int.mul_eq_zero.1 e' with z | z; exact z; exact absurd z h0
      rw [hq0, this]; simp
    · rw [e]; simp
  have hzs : z0 ≠ 0 → sd = z0.sign := fun hz => by
    rw [hst]
    have hq1 : q0 ≠ 0 := by rw [hzq]; omega
    rw [hz0, ← hq0, Int.sign_mul, sg_mul, Int.sign_sign, Int.sign_natCast_of_ne_zero hq1, Int.mul_one]
  have HZQ : Hid _ := hzq
  have HZS : Hid _ := hzs
  have HQ : Hid (Q = z0 - (if sd < 0 ∧ r0 ≠ 0 then 1 else 0)) := by
    unfold Hid
    rw [hQ0]
    unfold flQ
    rw [hz0, hst, hr0]
  have HR : Hid (R = x - Q * y) := by unfold Hid; rw [hR0, hQ0]; rfl
  have fq0' : hf.nlen z0.natAbs ≤ 1000000 := by rw [hz0]; exact fq0
  rw [← hQ0] at fq fp
  have n2 : NA (w.heap.size + 2) d l := hx.hd.sl.na (by omega)
  have n3 : NA (w.heap.size + 3) d l := hx.hd.sl.na (by omega)
  have n4 : NA (w.heap.size + 2) g h := hy.hd.sl.na (by omega)
  have n5 : NA (w.heap.size + 3) g h := hy.hd.sl.na (by omega)
  have hxW := hx.below B0
  have hyW := hy.below B0
  clear HD0 hzq hzs hq0 hr0 hz0 hst hsd es et ew' fq0 hQ0 hR0
  go_enter Tryd.func23, Tryd.ntmps23
  go_wp2_with (go_at_call 52; fail)
  rw [← hW]
  clear hW
  refine (show Calls _ _ _ _ (GotHB W q0 r0) from HDD.out).mono ?_
  rintro e w1 ⟨aq, lq, cq, ar, lr, cr, rfl, hq, hr, fq1, fr1, b1⟩
  obtain ⟨k0, k1, k2, k3⟩ := xa.on b1
  obtain ⟨j0, j1, j2, j3⟩ := xb.on b1
  go_wp2_with (go_at_call 42; fail)
  refine (rwMake sd aq lq cq q0 z0 w1 hq HZQ.out HZS.out).mono ?_
  rintro e w2 ⟨s2, a2, l2, c2, rfl, h2, f2, b2⟩
  have x8 := bx_new w2 (.int .i64 s2) (.slice a2 l2 c2) 30
  have b3 : Below w2.heap.size w2 (w2.alloc (.cells #[.int .i64 s2, .slice a2 l2 c2] 30)) := (Below.refl _ _).alloc (Nat.le_refl _) _
  have g8 : w.heap.size + 1 + 1 + 1 < w2.heap.size := Nat.lt_of_lt_of_le hs (Nat.le_trans b1.size b2.size)
  have H2 := h2.below b3
  have BW := also (also (also B0 b1) b2) b3
  have XA := ((xa.on b1).on b2).on b3
  have XB := ((xb.on b1).on b2).on b3
  have X4 := ((x4.on b1).on b2).on b3
  have X5 := ((x5.on b1).on b2).on b3
  have hxB := ((hxW.below b1).below b2).below b3
  have hyB := ((hyW.below b1).below b2).below b3
  have F2 : Far W.heap.size a2 l2 := fun j hj => f2 j (Nat.lt_of_lt_of_le hj b1.size) (fq1 j hj)
  have n82 : NA w2.heap.size a2 l2 := h2.hd.sl.na (Nat.le_refl _)
  have nx8 : NA w2.heap.size d l := ((hxW.below b1).below b2).hd.sl.na (Nat.le_refl _)
  have ny8 : NA w2.heap.size g h := ((hyW.below b1).below b2).hd.sl.na (Nat.le_refl _)
  obtain ⟨k0, k1, k2, k3⟩ := XA
  obtain ⟨j0, j1, j2, j3⟩ := XB
  have XA : Bx _ _ _ _ := ⟨k0, k1, k2, k3⟩
  have XB : Bx _ _ _ _ := ⟨j0, j1, j2, j3⟩
  have hlr := hr.pos
  clear x4 x5 xa xb hq hr h2 HDD HZQ HZS hxW hyW
  by_cases hadj : sd < 0 ∧ r0 ≠ 0
  · obtain ⟨hsn, hrn⟩ := hadj
    have HQ1 : Hid (Q = z0 - 1) := by have := HQ.out; rwa [if_pos ⟨hsn, hrn⟩] at this
    have hlr0 : (0 : Int) < lr := by omega
    clear HQ hlr
    go_wp2
    generalize w2.alloc (.cells #[.int .i64 s2, .slice a2 l2 c2] 30) = W2 at x8 H2 BW XA XB X4 X5 hxB hyB b3 k0 k1 k2 k3 j0 j1 j2 j3 ⊢
    generalize w2.heap.size = b8 at x8 g8 nx8 ny8 n82 ⊢
    have x8' := x8.drew
    obtain ⟨i0, i1, i2, i3⟩ := x8'
    have x8' : Bx _ _ _ _ := ⟨i0, i1, i2, i3⟩
    have d0 : Below W2.heap.size W2 W2.drew := (Below.refl _ _).drew
    go_region_with (first
      | (go_at_call 31; refine (rwLong 1 _ (by decide) (by decide)).mono ?_; rintro e w5 ⟨s5, d5, l5, c5, rfl, h5, f5, b5⟩; obtain ⟨i0, i1, i2, i3⟩ := x8'.on b5)
      | (go_at_call 15; refine (rwSub s2 s5 a2 d5 l2 c2 l5 c5 z0 1 (z0 - 1) _ ((H2.below d0).below b5) h5 fq0' one_few rfl).mono ?_; rintro e w6 ⟨s6, d6, l6, c6, rfl, h6, f6, b6⟩; obtain ⟨i0, i1, i2, i3⟩ := (x8'.on b5).on b6))
    · skip
      have F6 : Far W.heap.size d6 l6 := fun j hj => f6 j (Nat.lt_of_lt_of_le (Nat.lt_of_lt_of_le hj (Nat.le_trans (Nat.le_trans b1.size b2.size) b3.size)) b5.size) ⟨F2 j hj, f5 j (Nat.lt_of_lt_of_le hj (Nat.le_trans (Nat.le_trans b1.size b2.size) b3.size)) trivial⟩
      have n8 : NA b8 d6 l6 := f6 b8 (Nat.lt_of_lt_of_le (bx_lt x8) b5.size) ⟨n82, f5 b8 (bx_lt x8') trivial⟩
      have e8 : Bx ((w6.setCell ⟨b8, 0, none⟩ (.int .i64 s6)).setCell ⟨b8, 1, none⟩ (.slice d6 l6 c6)) b8 (.int .i64 s6) (.slice d6 l6 c6) := ((x8'.on b5).on b6).set
      have eA := ((((XA.on d0).on b5).on b6).put (i := 0) (v := .int .i64 s6) (show b8 ≠ _ by omega)).put (i := 1) (v := .slice d6 l6 c6) (show b8 ≠ _ by omega)
      have eB := ((((XB.on d0).on b5).on b6).put (i := 0) (v := .int .i64 s6) (show b8 ≠ _ by omega)).put (i := 1) (v := .slice d6 l6 c6) (show b8 ≠ _ by omega)
      have e4 := ((((X4.on d0).on b5).on b6).put (i := 0) (v := .int .i64 s6) (show b8 ≠ _ by omega)).put (i := 1) (v := .slice d6 l6 c6) (show b8 ≠ _ by omega)
      have e5 := ((((X5.on d0).on b5).on b6).put (i := 0) (v := .int .i64 s6) (show b8 ≠ _ by omega)).put (i := 1) (v := .slice d6 l6 c6) (show b8 ≠ _ by omega)
      have ex := (((hxB.below d0).below b5).below b6).put2 nx8 (.int .i64 s6) (.slice d6 l6 c6)
      have ey := (((hyB.below d0).below b5).below b6).put2 ny8 (.int .i64 s6) (.slice d6 l6 c6)
      have eq := h6.put2 n8 (.int .i64 s6) (.slice d6 l6 c6)
      have eb := below_put2 (also (also (also BW d0) b5) b6) (show w.heap.size ≤ b8 by omega) (.int .i64 s6) (.slice d6 l6 c6)
      rw [← HQ1.out] at eq
      clear x8 x8' i0 i1 i2 i3 k0 k1 k2 k3 j0 j1 j2 j3 XA XB X4 X5 hxB hyB H2 BW F2 f6 f5 h5 h6 d0
      dsimp only [Exit.then]
      go_wp2
      generalize (w6.setCell ⟨b8, 0, none⟩ (.int .i64 s6)).setCell ⟨b8, 1, none⟩ (.slice d6 l6 c6) = WF at e8 eA eB e4 e5 ex ey eq eb ⊢
      have g2 : w.heap.size + 1 + 1 < b8 := by omega
      refine wp_region_held_drew (S := (fun w' => w'.cell? ⟨b8, 0, none⟩ = some (.int .i64 s6) ∧ w'.cell? ⟨b8, 1, none⟩ = some (.slice d6 l6 c6) ∧ w'.cell? ⟨w.heap.size, 0, none⟩ = some (.int .i64 s) ∧ w'.cell? ⟨w.heap.size, 1, none⟩ = some (.slice d l c) ∧ w'.cell? ⟨w.heap.size + 1, 0, none⟩ = some (.int .i64 t) ∧ w'.cell? ⟨w.heap.size + 1, 1, none⟩ = some (.slice g h k) ∧ Below w.heap.size w w')) (by kernel_rfl) ?_ (fun hHeld => ?_)
      · first | exact keepC3 hHeld b21 | exact keepC3 hHeld b20 | exact ⟨e8.c0, e8.c1, eA.c0, eA.c1, eB.c0, eB.c1, eb.drew⟩ | exact keepP3 hHeld (by omega) (by omega) (by omega) (by omega) _ _
      refine take_yes (i := 0) (v := ?vm0) rfl (by kernel_rfl) (by kernel_rfl) (by kernel_rfl) (fun _ _ _ h => h) (by rfl) (by assumption) ?hym0 ?restm0
      case hym0 => (intro w hSw; (try dsimp only at hSw); first | (go_simp; done) | (go_simp; with_reducible rfl))
      simp only [Act.put, List.setIfInBounds_toArray, List.set_cons_zero, List.set_cons_succ]
      refine take_yes (i := 1) (v := ?vm1) rfl (by kernel_rfl) (by kernel_rfl) (by kernel_rfl) (fun _ _ _ h => h) (by rfl) (by assumption) ?hym1 ?restm1
      case hym1 => (intro w hSw; (try dsimp only at hSw); first | (go_simp; done) | (go_simp; with_reducible rfl))
      simp only [Act.put, List.setIfInBounds_toArray, List.set_cons_zero, List.set_cons_succ]
      refine take_yes (i := 2) (v := ?vm2) rfl (by kernel_rfl) (by kernel_rfl) (by kernel_rfl) (fun _ _ _ h => h) (by rfl) (by assumption) ?hym2 ?restm2
      case hym2 => (intro w hSw; (try dsimp only at hSw); first | (go_simp; done) | (go_simp; with_reducible rfl))
      simp only [Act.put, List.setIfInBounds_toArray, List.set_cons_zero, List.set_cons_succ]
      refine take_yes (i := 3) (v := ?vm3) rfl (by kernel_rfl) (by kernel_rfl) (by kernel_rfl) (fun _ _ _ h => h) (by rfl) (by assumption) ?hym3 ?restm3
      case hym3 => (intro w hSw; (try dsimp only at hSw); first | (go_simp; done) | (go_simp; with_reducible rfl))
      simp only [Act.put, List.setIfInBounds_toArray, List.set_cons_zero, List.set_cons_succ]
      refine take_call (i := 4) rfl (by kernel_rfl) (fun K hK => ?_)
      go_simp
      (go_at_call 17; refine (rwMul s6 t d6 g l6 c6 h k Q y (Q * y) _ (eq.below ((Below.refl _ _).drew)) (ey.below ((Below.refl _ _).drew)) fq fy rfl).mono ?_; rintro e w20 ⟨s20, d20, l20, c20, rfl, h20, f20, b20⟩)
      refine hK.out _ _ ?_ (fun hHeld => ?_)
      · first | exact keepC3 hHeld b21 | exact keepC3 hHeld b20 | exact ⟨e8.c0, e8.c1, eA.c0, eA.c1, eB.c0, eB.c1, eb.drew⟩ | exact keepP3 hHeld (by omega) (by omega) (by omega) (by omega) _ _
      clear hK K
      refine take_call (i := 5) rfl (by kernel_rfl) (fun K hK => ?_)
      go_simp
      (go_at_call 15; refine (rwSub s s20 d d20 l c l20 c20 x (Q * y) R _ ((ex.below ((Below.refl _ _).drew)).below b20) h20 fx fp HR.out).mono ?_; rintro e w21 ⟨s21, d21, l21, c21, rfl, h21, f21, b21⟩)
      refine hK.out _ _ ?_ (fun hHeld => ?_)
      · first | exact keepC3 hHeld b21 | exact keepC3 hHeld b20 | exact ⟨e8.c0, e8.c1, eA.c0, eA.c1, eB.c0, eB.c1, eb.drew⟩ | exact keepP3 hHeld (by omega) (by omega) (by omega) (by omega) _ _
      clear hK K
      obtain ⟨k0, k1, k2, k3⟩ := (e4.drew.on b20).on b21
      refine take_call (i := 6) rfl (by kernel_rfl) (fun K hK => ?_)
      go_simp
      refine hK.out _ _ ?_ (fun hHeld => ?_)
      · first | exact keepC3 hHeld b21 | exact keepC3 hHeld b20 | exact ⟨e8.c0, e8.c1, eA.c0, eA.c1, eB.c0, eB.c1, eb.drew⟩ | exact keepP3 hHeld (by omega) (by omega) (by omega) (by omega) _ _
      clear hK K
      obtain ⟨j0, j1, j2, j3⟩ : Bx ((w21.setCell ⟨w.heap.size + 1 + 1, 0, none⟩ (.int .i64 s6)).setCell ⟨w.heap.size + 1 + 1, 1, none⟩ (.slice d6 l6 c6)) (w.heap.size + 1 + 1 + 1) (.int .i64 0) (.slice none 0 0) := (((e5.drew.on b20).on b21).put (by omega)).put (by omega)
      refine take_call (i := 7) rfl (by kernel_rfl) (fun K hK => ?_)
      go_simp
      refine hK.out _ _ ?_ (fun hHeld => ?_)
      · first | exact keepC3 hHeld b21 | exact keepC3 hHeld b20 | exact ⟨e8.c0, e8.c1, eA.c0, eA.c1, eB.c0, eB.c1, eb.drew⟩ | exact keepP3 hHeld (by omega) (by omega) (by omega) (by omega) _ _
      clear hK K
      refine wpAnyH_done (by kernel_rfl) ?_ _
      go_wp2
      have z2 : WF.heap.size ≤ w20.heap.size := b20.size
      exact bodyPost_ret (v := .tuple #[.agg #[.int .i64 s6, .slice d6 l6 c6], .agg #[.int .i64 s21, .slice d21 l21 c21]]) (by simp [results, Tryd.results23, go_sem, *]) rfl (endRF (((eq.below ((Below.refl _ _).drew)).below b20).below b21) h21 (also (also eb.drew b20) b21) (F6 _ (by omega)) (F6 _ (by omega)) (f21 _ (Nat.lt_of_lt_of_le (Nat.lt_trans g2 (bx_lt e8)) z2) ⟨n2, f20 _ (Nat.lt_trans g2 (bx_lt e8.drew)) trivial⟩) (f21 _ (Nat.lt_of_lt_of_le (Nat.lt_trans g8 (bx_lt e8)) z2) ⟨n3, f20 _ (Nat.lt_trans g8 (bx_lt e8.drew)) trivial⟩) _ _ _ _)
    · skip
      have F6 : Far W.heap.size d6 l6 := fun j hj => f6 j (Nat.lt_of_lt_of_le (Nat.lt_of_lt_of_le hj (Nat.le_trans (Nat.le_trans b1.size b2.size) b3.size)) b5.size) ⟨F2 j hj, f5 j (Nat.lt_of_lt_of_le hj (Nat.le_trans (Nat.le_trans b1.size b2.size) b3.size)) trivial⟩
      have n8 : NA b8 d6 l6 := f6 b8 (Nat.lt_of_lt_of_le (bx_lt x8) b5.size) ⟨n82, f5 b8 (bx_lt x8') trivial⟩
      have e8 : Bx ((w6.setCell ⟨b8, 0, none⟩ (.int .i64 s6)).setCell ⟨b8, 1, none⟩ (.slice d6 l6 c6)) b8 (.int .i64 s6) (.slice d6 l6 c6) := ((x8'.on b5).on b6).set
      have eA := ((((XA.on d0).on b5).on b6).put (i := 0) (v := .int .i64 s6) (show b8 ≠ _ by omega)).put (i := 1) (v := .slice d6 l6 c6) (show b8 ≠ _ by omega)
      have eB := ((((XB.on d0).on b5).on b6).put (i := 0) (v := .int .i64 s6) (show b8 ≠ _ by omega)).put (i := 1) (v := .slice d6 l6 c6) (show b8 ≠ _ by omega)
      have e4 := ((((X4.on d0).on b5).on b6).put (i := 0) (v := .int .i64 s6) (show b8 ≠ _ by omega)).put (i := 1) (v := .slice d6 l6 c6) (show b8 ≠ _ by omega)
      have e5 := ((((X5.on d0).on b5).on b6).put (i := 0) (v := .int .i64 s6) (show b8 ≠ _ by omega)).put (i := 1) (v := .slice d6 l6 c6) (show b8 ≠ _ by omega)
      have ex := (((hxB.below d0).below b5).below b6).put2 nx8 (.int .i64 s6) (.slice d6 l6 c6)
      have ey := (((hyB.below d0).below b5).below b6).put2 ny8 (.int .i64 s6) (.slice d6 l6 c6)
      have eq := h6.put2 n8 (.int .i64 s6) (.slice d6 l6 c6)
      have eb := below_put2 (also (also (also BW d0) b5) b6) (show w.heap.size ≤ b8 by omega) (.int .i64 s6) (.slice d6 l6 c6)
      rw [← HQ1.out] at eq
      clear x8 x8' i0 i1 i2 i3 k0 k1 k2 k3 j0 j1 j2 j3 XA XB X4 X5 hxB hyB H2 BW F2 f6 f5 h5 h6 d0
      dsimp only [Exit.then]
      go_wp2
      generalize (w6.setCell ⟨b8, 0, none⟩ (.int .i64 s6)).setCell ⟨b8, 1, none⟩ (.slice d6 l6 c6) = WF at e8 eA eB e4 e5 ex ey eq eb ⊢
      have g2 : w.heap.size + 1 + 1 < b8 := by omega
      refine wp_region_held_drew (S := (fun w' => w'.cell? ⟨b8, 0, none⟩ = some (.int .i64 s6) ∧ w'.cell? ⟨b8, 1, none⟩ = some (.slice d6 l6 c6) ∧ w'.cell? ⟨w.heap.size, 0, none⟩ = some (.int .i64 s) ∧ w'.cell? ⟨w.heap.size, 1, none⟩ = some (.slice d l c) ∧ w'.cell? ⟨w.heap.size + 1, 0, none⟩ = some (.int .i64 t) ∧ w'.cell? ⟨w.heap.size + 1, 1, none⟩ = some (.slice g h k) ∧ Below w.heap.size w w')) (by kernel_rfl) ?_ (fun hHeld => ?_)
      · first | exact keepC3 hHeld b21 | exact keepC3 hHeld b20 | exact ⟨e8.c0, e8.c1, eA.c0, eA.c1, eB.c0, eB.c1, eb.drew⟩ | exact keepP3 hHeld (by omega) (by omega) (by omega) (by omega) _ _
      refine take_yes (i := 0) (v := ?vmm0) rfl (by kernel_rfl) (by kernel_rfl) (by kernel_rfl) (fun _ _ _ h => h) (by rfl) (by assumption) ?hymm0 ?restmm0
      case hymm0 => (intro w hSw; (try dsimp only at hSw); first | (go_simp; done) | (go_simp; with_reducible rfl))
      simp only [Act.put, List.setIfInBounds_toArray, List.set_cons_zero, List.set_cons_succ]
      refine take_yes (i := 1) (v := ?vmm1) rfl (by kernel_rfl) (by kernel_rfl) (by kernel_rfl) (fun _ _ _ h => h) (by rfl) (by assumption) ?hymm1 ?restmm1
      case hymm1 => (intro w hSw; (try dsimp only at hSw); first | (go_simp; done) | (go_simp; with_reducible rfl))
      simp only [Act.put, List.setIfInBounds_toArray, List.set_cons_zero, List.set_cons_succ]
      refine take_yes (i := 2) (v := ?vmm2) rfl (by kernel_rfl) (by kernel_rfl) (by kernel_rfl) (fun _ _ _ h => h) (by rfl) (by assumption) ?hymm2 ?restmm2
      case hymm2 => (intro w hSw; (try dsimp only at hSw); first | (go_simp; done) | (go_simp; with_reducible rfl))
      simp only [Act.put, List.setIfInBounds_toArray, List.set_cons_zero, List.set_cons_succ]
      refine take_yes (i := 3) (v := ?vmm3) rfl (by kernel_rfl) (by kernel_rfl) (by kernel_rfl) (fun _ _ _ h => h) (by rfl) (by assumption) ?hymm3 ?restmm3
      case hymm3 => (intro w hSw; (try dsimp only at hSw); first | (go_simp; done) | (go_simp; with_reducible rfl))
      simp only [Act.put, List.setIfInBounds_toArray, List.set_cons_zero, List.set_cons_succ]
      refine take_call (i := 4) rfl (by kernel_rfl) (fun K hK => ?_)
      go_simp
      (go_at_call 17; refine (rwMul s6 t d6 g l6 c6 h k Q y (Q * y) _ (eq.below ((Below.refl _ _).drew)) (ey.below ((Below.refl _ _).drew)) fq fy rfl).mono ?_; rintro e w20 ⟨s20, d20, l20, c20, rfl, h20, f20, b20⟩)
      refine hK.out _ _ ?_ (fun hHeld => ?_)
      · first | exact keepC3 hHeld b21 | exact keepC3 hHeld b20 | exact ⟨e8.c0, e8.c1, eA.c0, eA.c1, eB.c0, eB.c1, eb.drew⟩ | exact keepP3 hHeld (by omega) (by omega) (by omega) (by omega) _ _
      clear hK K
      refine take_call (i := 5) rfl (by kernel_rfl) (fun K hK => ?_)
      go_simp
      (go_at_call 15; refine (rwSub s s20 d d20 l c l20 c20 x (Q * y) R _ ((ex.below ((Below.refl _ _).drew)).below b20) h20 fx fp HR.out).mono ?_; rintro e w21 ⟨s21, d21, l21, c21, rfl, h21, f21, b21⟩)
      refine hK.out _ _ ?_ (fun hHeld => ?_)
      · first | exact keepC3 hHeld b21 | exact keepC3 hHeld b20 | exact ⟨e8.c0, e8.c1, eA.c0, eA.c1, eB.c0, eB.c1, eb.drew⟩ | exact keepP3 hHeld (by omega) (by omega) (by omega) (by omega) _ _
      clear hK K
      obtain ⟨k0, k1, k2, k3⟩ := (e4.drew.on b20).on b21
      refine take_call (i := 6) rfl (by kernel_rfl) (fun K hK => ?_)
      go_simp
      refine hK.out _ _ ?_ (fun hHeld => ?_)
      · first | exact keepC3 hHeld b21 | exact keepC3 hHeld b20 | exact ⟨e8.c0, e8.c1, eA.c0, eA.c1, eB.c0, eB.c1, eb.drew⟩ | exact keepP3 hHeld (by omega) (by omega) (by omega) (by omega) _ _
      clear hK K
      obtain ⟨j0, j1, j2, j3⟩ : Bx ((w21.setCell ⟨w.heap.size + 1 + 1, 0, none⟩ (.int .i64 s6)).setCell ⟨w.heap.size + 1 + 1, 1, none⟩ (.slice d6 l6 c6)) (w.heap.size + 1 + 1 + 1) (.int .i64 0) (.slice none 0 0) := (((e5.drew.on b20).on b21).put (by omega)).put (by omega)
      refine take_call (i := 7) rfl (by kernel_rfl) (fun K hK => ?_)
      go_simp
      refine hK.out _ _ ?_ (fun hHeld => ?_)
      · first | exact keepC3 hHeld b21 | exact keepC3 hHeld b20 | exact ⟨e8.c0, e8.c1, eA.c0, eA.c1, eB.c0, eB.c1, eb.drew⟩ | exact keepP3 hHeld (by omega) (by omega) (by omega) (by omega) _ _
      clear hK K
      refine wpAnyH_done (by kernel_rfl) ?_ _
      go_wp2
      have z2 : WF.heap.size ≤ w20.heap.size := b20.size
      exact bodyPost_ret (v := .tuple #[.agg #[.int .i64 s6, .slice d6 l6 c6], .agg #[.int .i64 s21, .slice d21 l21 c21]]) (by simp [results, Tryd.results23, go_sem, *]) rfl (endRF (((eq.below ((Below.refl _ _).drew)).below b20).below b21) h21 (also (also eb.drew b20) b21) (F6 _ (by omega)) (F6 _ (by omega)) (f21 _ (Nat.lt_of_lt_of_le (Nat.lt_trans g2 (bx_lt e8)) z2) ⟨n2, f20 _ (Nat.lt_trans g2 (bx_lt e8.drew)) trivial⟩) (f21 _ (Nat.lt_of_lt_of_le (Nat.lt_trans g8 (bx_lt e8)) z2) ⟨n3, f20 _ (Nat.lt_trans g8 (bx_lt e8.drew)) trivial⟩) _ _ _ _)
  · have HQ1 : Hid (Q = z0) := by have := HQ.out; rw [if_neg hadj, Int.sub_zero] at this; exact this
    clear HQ
    have hnot : ¬ (sd < 0 ∧ 0 < lr) := fun hh => hadj ⟨hh.1, fun e => by have := hlr.2 e; omega⟩
    clear hlr hadj
    by_cases hsn : sd < 0
    · have hl0 : lr = 0 := by
        rcases Nat.eq_zero_or_pos lr with e | e
        · exact e
        · exact absurd ⟨hsn, e⟩ hnot
      subst hl0
      clear hnot
      go_wp2
      have e8 := x8
      have eA := XA
      have eB := XB
      have e4 := X4
      have e5 := X5
      have ex := hxB
      have ey := hyB
      have eq := H2
      have eb := BW
      rw [← HQ1.out] at eq
      clear x8 k0 k1 k2 k3 j0 j1 j2 j3 XA XB X4 X5 hxB hyB H2 BW
      generalize w2.alloc (.cells #[.int .i64 s2, .slice a2 l2 c2] 30) = WF at e8 eA eB e4 e5 ex ey eq eb b3 ⊢
      generalize w2.heap.size = b8 at e8 g8 nx8 ny8 n82 ⊢
      have g2 : w.heap.size + 1 + 1 < b8 := by omega
      refine wp_region_held_drew (S := (fun w' => w'.cell? ⟨b8, 0, none⟩ = some (.int .i64 s2) ∧ w'.cell? ⟨b8, 1, none⟩ = some (.slice a2 l2 c2) ∧ w'.cell? ⟨w.heap.size, 0, none⟩ = some (.int .i64 s) ∧ w'.cell? ⟨w.heap.size, 1, none⟩ = some (.slice d l c) ∧ w'.cell? ⟨w.heap.size + 1, 0, none⟩ = some (.int .i64 t) ∧ w'.cell? ⟨w.heap.size + 1, 1, none⟩ = some (.slice g h k) ∧ Below w.heap.size w w')) (by kernel_rfl) ?_ (fun hHeld => ?_)
      · first | exact keepC3 hHeld b21 | exact keepC3 hHeld b20 | exact ⟨e8.c0, e8.c1, eA.c0, eA.c1, eB.c0, eB.c1, eb.drew⟩ | exact keepP3 hHeld (by omega) (by omega) (by omega) (by omega) _ _
      refine take_yes (i := 0) (v := ?vk0) rfl (by kernel_rfl) (by kernel_rfl) (by kernel_rfl) (fun _ _ _ h => h) (by rfl) (by assumption) ?hyk0 ?restk0
      case hyk0 => (intro w hSw; (try dsimp only at hSw); first | (go_simp; done) | (go_simp; with_reducible rfl))
      simp only [Act.put, List.setIfInBounds_toArray, List.set_cons_zero, List.set_cons_succ]
      refine take_yes (i := 1) (v := ?vk1) rfl (by kernel_rfl) (by kernel_rfl) (by kernel_rfl) (fun _ _ _ h => h) (by rfl) (by assumption) ?hyk1 ?restk1
      case hyk1 => (intro w hSw; (try dsimp only at hSw); first | (go_simp; done) | (go_simp; with_reducible rfl))
      simp only [Act.put, List.setIfInBounds_toArray, List.set_cons_zero, List.set_cons_succ]
      refine take_yes (i := 2) (v := ?vk2) rfl (by kernel_rfl) (by kernel_rfl) (by kernel_rfl) (fun _ _ _ h => h) (by rfl) (by assumption) ?hyk2 ?restk2
      case hyk2 => (intro w hSw; (try dsimp only at hSw); first | (go_simp; done) | (go_simp; with_reducible rfl))
      simp only [Act.put, List.setIfInBounds_toArray, List.set_cons_zero, List.set_cons_succ]
      refine take_yes (i := 3) (v := ?vk3) rfl (by kernel_rfl) (by kernel_rfl) (by kernel_rfl) (fun _ _ _ h => h) (by rfl) (by assumption) ?hyk3 ?restk3
      case hyk3 => (intro w hSw; (try dsimp only at hSw); first | (go_simp; done) | (go_simp; with_reducible rfl))
      simp only [Act.put, List.setIfInBounds_toArray, List.set_cons_zero, List.set_cons_succ]
      refine take_call (i := 4) rfl (by kernel_rfl) (fun K hK => ?_)
      go_simp
      (go_at_call 17; refine (rwMul s2 t a2 g l2 c2 h k Q y (Q * y) _ (eq.below ((Below.refl _ _).drew)) (ey.below ((Below.refl _ _).drew)) fq fy rfl).mono ?_; rintro e w20 ⟨s20, d20, l20, c20, rfl, h20, f20, b20⟩)
      refine hK.out _ _ ?_ (fun hHeld => ?_)
      · first | exact keepC3 hHeld b21 | exact keepC3 hHeld b20 | exact ⟨e8.c0, e8.c1, eA.c0, eA.c1, eB.c0, eB.c1, eb.drew⟩ | exact keepP3 hHeld (by omega) (by omega) (by omega) (by omega) _ _
      clear hK K
      refine take_call (i := 5) rfl (by kernel_rfl) (fun K hK => ?_)
      go_simp
      (go_at_call 15; refine (rwSub s s20 d d20 l c l20 c20 x (Q * y) R _ ((ex.below ((Below.refl _ _).drew)).below b20) h20 fx fp HR.out).mono ?_; rintro e w21 ⟨s21, d21, l21, c21, rfl, h21, f21, b21⟩)
      refine hK.out _ _ ?_ (fun hHeld => ?_)
      · first | exact keepC3 hHeld b21 | exact keepC3 hHeld b20 | exact ⟨e8.c0, e8.c1, eA.c0, eA.c1, eB.c0, eB.c1, eb.drew⟩ | exact keepP3 hHeld (by omega) (by omega) (by omega) (by omega) _ _
      clear hK K
      obtain ⟨k0, k1, k2, k3⟩ := (e4.drew.on b20).on b21
      refine take_call (i := 6) rfl (by kernel_rfl) (fun K hK => ?_)
      go_simp
      refine hK.out _ _ ?_ (fun hHeld => ?_)
      · first | exact keepC3 hHeld b21 | exact keepC3 hHeld b20 | exact ⟨e8.c0, e8.c1, eA.c0, eA.c1, eB.c0, eB.c1, eb.drew⟩ | exact keepP3 hHeld (by omega) (by omega) (by omega) (by omega) _ _
      clear hK K
      obtain ⟨j0, j1, j2, j3⟩ : Bx ((w21.setCell ⟨w.heap.size + 1 + 1, 0, none⟩ (.int .i64 s2)).setCell ⟨w.heap.size + 1 + 1, 1, none⟩ (.slice a2 l2 c2)) (w.heap.size + 1 + 1 + 1) (.int .i64 0) (.slice none 0 0) := (((e5.drew.on b20).on b21).put (by omega)).put (by omega)
      refine take_call (i := 7) rfl (by kernel_rfl) (fun K hK => ?_)
      go_simp
      refine hK.out _ _ ?_ (fun hHeld => ?_)
      · first | exact keepC3 hHeld b21 | exact keepC3 hHeld b20 | exact ⟨e8.c0, e8.c1, eA.c0, eA.c1, eB.c0, eB.c1, eb.drew⟩ | exact keepP3 hHeld (by omega) (by omega) (by omega) (by omega) _ _
      clear hK K
      refine wpAnyH_done (by kernel_rfl) ?_ _
      go_wp2
      have z2 : WF.heap.size ≤ w20.heap.size := b20.size
      exact bodyPost_ret (v := .tuple #[.agg #[.int .i64 s2, .slice a2 l2 c2], .agg #[.int .i64 s21, .slice d21 l21 c21]]) (by simp [results, Tryd.results23, go_sem, *]) rfl (endRF (((eq.below ((Below.refl _ _).drew)).below b20).below b21) h21 (also (also eb.drew b20) b21) (F2 _ (by omega)) (F2 _ (by omega)) (f21 _ (Nat.lt_of_lt_of_le (Nat.lt_trans g2 (bx_lt e8)) z2) ⟨n2, f20 _ (Nat.lt_trans g2 (bx_lt e8.drew)) trivial⟩) (f21 _ (Nat.lt_of_lt_of_le (Nat.lt_trans g8 (bx_lt e8)) z2) ⟨n3, f20 _ (Nat.lt_trans g8 (bx_lt e8.drew)) trivial⟩) _ _ _ _)
    · clear hnot
      have hsn' : decide (sd < 0) = false := by simpa using hsn
      go_wp2
      have e8 := x8
      have eA := XA
      have eB := XB
      have e4 := X4
      have e5 := X5
      have ex := hxB
      have ey := hyB
      have eq := H2
      have eb := BW
      rw [← HQ1.out] at eq
      clear x8 k0 k1 k2 k3 j0 j1 j2 j3 XA XB X4 X5 hxB hyB H2 BW
      generalize w2.alloc (.cells #[.int .i64 s2, .slice a2 l2 c2] 30) = WF at e8 eA eB e4 e5 ex ey eq eb b3 ⊢
      generalize w2.heap.size = b8 at e8 g8 nx8 ny8 n82 ⊢
      have g2 : w.heap.size + 1 + 1 < b8 := by omega
      refine wp_region_held_drew (S := (fun w' => w'.cell? ⟨b8, 0, none⟩ = some (.int .i64 s2) ∧ w'.cell? ⟨b8, 1, none⟩ = some (.slice a2 l2 c2) ∧ w'.cell? ⟨w.heap.size, 0, none⟩ = some (.int .i64 s) ∧ w'.cell? ⟨w.heap.size, 1, none⟩ = some (.slice d l c) ∧ w'.cell? ⟨w.heap.size + 1, 0, none⟩ = some (.int .i64 t) ∧ w'.cell? ⟨w.heap.size + 1, 1, none⟩ = some (.slice g h k) ∧ Below w.heap.size w w')) (by kernel_rfl) ?_ (fun hHeld => ?_)
      · first | exact keepC3 hHeld b21 | exact keepC3 hHeld b20 | exact ⟨e8.c0, e8.c1, eA.c0, eA.c1, eB.c0, eB.c1, eb.drew⟩ | exact keepP3 hHeld (by omega) (by omega) (by omega) (by omega) _ _
      refine take_yes (i := 0) (v := ?vl0) rfl (by kernel_rfl) (by kernel_rfl) (by kernel_rfl) (fun _ _ _ h => h) (by rfl) (by assumption) ?hyl0 ?restl0
      case hyl0 => (intro w hSw; (try dsimp only at hSw); first | (go_simp; done) | (go_simp; with_reducible rfl))
      simp only [Act.put, List.setIfInBounds_toArray, List.set_cons_zero, List.set_cons_succ]
      refine take_yes (i := 1) (v := ?vl1) rfl (by kernel_rfl) (by kernel_rfl) (by kernel_rfl) (fun _ _ _ h => h) (by rfl) (by assumption) ?hyl1 ?restl1
      case hyl1 => (intro w hSw; (try dsimp only at hSw); first | (go_simp; done) | (go_simp; with_reducible rfl))
      simp only [Act.put, List.setIfInBounds_toArray, List.set_cons_zero, List.set_cons_succ]
      refine take_yes (i := 2) (v := ?vl2) rfl (by kernel_rfl) (by kernel_rfl) (by kernel_rfl) (fun _ _ _ h => h) (by rfl) (by assumption) ?hyl2 ?restl2
      case hyl2 => (intro w hSw; (try dsimp only at hSw); first | (go_simp; done) | (go_simp; with_reducible rfl))
      simp only [Act.put, List.setIfInBounds_toArray, List.set_cons_zero, List.set_cons_succ]
      refine take_yes (i := 3) (v := ?vl3) rfl (by kernel_rfl) (by kernel_rfl) (by kernel_rfl) (fun _ _ _ h => h) (by rfl) (by assumption) ?hyl3 ?restl3
      case hyl3 => (intro w hSw; (try dsimp only at hSw); first | (go_simp; done) | (go_simp; with_reducible rfl))
      simp only [Act.put, List.setIfInBounds_toArray, List.set_cons_zero, List.set_cons_succ]
      refine take_call (i := 4) rfl (by kernel_rfl) (fun K hK => ?_)
      go_simp
      (go_at_call 17; refine (rwMul s2 t a2 g l2 c2 h k Q y (Q * y) _ (eq.below ((Below.refl _ _).drew)) (ey.below ((Below.refl _ _).drew)) fq fy rfl).mono ?_; rintro e w20 ⟨s20, d20, l20, c20, rfl, h20, f20, b20⟩)
      refine hK.out _ _ ?_ (fun hHeld => ?_)
      · first | exact keepC3 hHeld b21 | exact keepC3 hHeld b20 | exact ⟨e8.c0, e8.c1, eA.c0, eA.c1, eB.c0, eB.c1, eb.drew⟩ | exact keepP3 hHeld (by omega) (by omega) (by omega) (by omega) _ _
      clear hK K
      refine take_call (i := 5) rfl (by kernel_rfl) (fun K hK => ?_)
      go_simp
      (go_at_call 15; refine (rwSub s s20 d d20 l c l20 c20 x (Q * y) R _ ((ex.below ((Below.refl _ _).drew)).below b20) h20 fx fp HR.out).mono ?_; rintro e w21 ⟨s21, d21, l21, c21, rfl, h21, f21, b21⟩)
      refine hK.out _ _ ?_ (fun hHeld => ?_)
      · first | exact keepC3 hHeld b21 | exact keepC3 hHeld b20 | exact ⟨e8.c0, e8.c1, eA.c0, eA.c1, eB.c0, eB.c1, eb.drew⟩ | exact keepP3 hHeld (by omega) (by omega) (by omega) (by omega) _ _
      clear hK K
      obtain ⟨k0, k1, k2, k3⟩ := (e4.drew.on b20).on b21
      refine take_call (i := 6) rfl (by kernel_rfl) (fun K hK => ?_)
      go_simp
      refine hK.out _ _ ?_ (fun hHeld => ?_)
      · first | exact keepC3 hHeld b21 | exact keepC3 hHeld b20 | exact ⟨e8.c0, e8.c1, eA.c0, eA.c1, eB.c0, eB.c1, eb.drew⟩ | exact keepP3 hHeld (by omega) (by omega) (by omega) (by omega) _ _
      clear hK K
      obtain ⟨j0, j1, j2, j3⟩ : Bx ((w21.setCell ⟨w.heap.size + 1 + 1, 0, none⟩ (.int .i64 s2)).setCell ⟨w.heap.size + 1 + 1, 1, none⟩ (.slice a2 l2 c2)) (w.heap.size + 1 + 1 + 1) (.int .i64 0) (.slice none 0 0) := (((e5.drew.on b20).on b21).put (by omega)).put (by omega)
      refine take_call (i := 7) rfl (by kernel_rfl) (fun K hK => ?_)
      go_simp
      refine hK.out _ _ ?_ (fun hHeld => ?_)
      · first | exact keepC3 hHeld b21 | exact keepC3 hHeld b20 | exact ⟨e8.c0, e8.c1, eA.c0, eA.c1, eB.c0, eB.c1, eb.drew⟩ | exact keepP3 hHeld (by omega) (by omega) (by omega) (by omega) _ _
      clear hK K
      refine wpAnyH_done (by kernel_rfl) ?_ _
      go_wp2
      have z2 : WF.heap.size ≤ w20.heap.size := b20.size
      exact bodyPost_ret (v := .tuple #[.agg #[.int .i64 s2, .slice a2 l2 c2], .agg #[.int .i64 s21, .slice d21 l21 c21]]) (by simp [results, Tryd.results23, go_sem, *]) rfl (endRF (((eq.below ((Below.refl _ _).drew)).below b20).below b21) h21 (also (also eb.drew b20) b21) (F2 _ (by omega)) (F2 _ (by omega)) (f21 _ (Nat.lt_of_lt_of_le (Nat.lt_trans g2 (bx_lt e8)) z2) ⟨n2, f20 _ (Nat.lt_trans g2 (bx_lt e8.drew)) trivial⟩) (f21 _ (Nat.lt_of_lt_of_le (Nat.lt_trans g8 (bx_lt e8)) z2) ⟨n3, f20 _ (Nat.lt_trans g8 (bx_lt e8.drew)) trivial⟩) _ _ _ _)
end Go.Proofs.YtpkcjgkgabemoaaDoor
