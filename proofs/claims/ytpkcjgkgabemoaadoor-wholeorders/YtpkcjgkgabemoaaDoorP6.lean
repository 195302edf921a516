/-
  Joined texts, part 6:
  What zelligeref04's Long and Floor answer.
  What package whole's Cmp answers.
  What package whole's Small answers.
  What zelligeref04's Small answers.
-/
import Derived.Test.YtpkcjgkgabemoaaDoorP5
import Derived.Test.YtpkcjgkgabemoaaDoorP4
namespace Go.Proofs.YtpkcjgkgabemoaaDoor
open Go.RowKit
set_option linter.unusedVariables false

def GotHB (w : World) (q r : Nat) (e : Ending) (w' : World) : Prop := ∃ aq lq cq ar lr cr, e = .returned (.tuple #[.slice aq lq cq, .slice ar lr cr]) ∧ HD w' aq lq cq q ∧ HD w' ar lr cr r ∧ Far w.heap.size aq lq ∧ Far w.heap.size ar lr ∧ Below w.heap.size w w'
theorem hfDiv (a b : Option Addr) (la lb ca cb u v : Nat) (w : World) (ha : HD w a la ca u) (hb : HD w b lb cb v) (fu : hf.nlen u ≤ 1000000) (fv : hf.nlen v ≤ 1000000) (hv : 0 < v) : Calls Tryd.prog 52 #[.slice a la ca, .slice b lb cb] w (GotHB w (u / v) (u % v)) := by
  obtain ⟨ha, rfl⟩ := ha
  obtain ⟨hb, rfl⟩ := hb
  refine (rdivMod_own a b ca cb u v w ha hb (by omega) (by omega) hv).mono ?_
  rintro e w' ⟨aq, cq, ar, cr, he, hq, hr, hbel⟩
  exact ⟨aq, _, cq, ar, _, cr, he, ⟨Own.sl hq, rfl⟩, ⟨Own.sl hr, rfl⟩, Own.far hq, Own.far hr, hbel⟩

set_option maxRecDepth 100000 in
set_option maxHeartbeats 1000000 in
theorem rwLong (x : Int) (w : World) (h1 : -9223372036854775808 ≤ x) (h2 : x ≤ 9223372036854775807) : Calls Tryd.prog 31 #[.int .i64 x] w (GotR w (fun _ => True) x) := by
  by_cases hx : x = 0
  · subst hx
    go_enter Tryd.func31, Tryd.ntmps31
    go_wp2
    exact bodyPost_ret (v := .agg #[.int .i64 0, .slice none 0 0]) (by simp [results, Tryd.results31, go_sem, *]) rfl ⟨0, none, 0, 0, rfl, rn_zero _ 0, fun _ _ _ => Or.inl rfl, (Below.refl _ _).alloc (Nat.le_refl _) _⟩
  have B0 : Below w.heap.size w (w.alloc (.cells #[.int .i64 0, .slice none 0 0] 30)) := (Below.refl _ _).alloc (Nat.le_refl _) _
  have x0 := bx_new w (.int .i64 0) (.slice none 0 0) 30
  obtain ⟨u, hu⟩ : ∃ u, u = x.natAbs := ⟨_, rfl⟩
  have hul : u < 18446744073709551616 := by omega
  have ho := own_two (w.alloc (.cells #[.int .i64 0, .slice none 0 0] 30)) u hul
  have hb1 : Below (w.alloc (.cells #[.int .i64 0, .slice none 0 0] 30)).heap.size (w.alloc (.cells #[.int .i64 0, .slice none 0 0] 30)) ((w.alloc (.cells #[.int .i64 0, .slice none 0 0] 30)).alloc (.cells #[.int .u32 ((u : Int) % 4294967296), .int .u32 ((u : Int) / 4294967296)] 82)) := (Below.refl _ _).alloc (Nat.le_refl _) _
  have hni : NI _ _ 2 2 u := ⟨Own.sl ho, by omega, by decide⟩
  rw [World.size_alloc] at hni
  have x1 := x0.on hb1
  have E2 : (u : Int) / 4294967296 % 4294967296 = (u : Int) / 4294967296 := by omega
  by_cases hn : x < 0
  · have E : IntKind.u64.wrap (-IntKind.u64.wrap x) = (u : Int) := by rw [IntKind.wrap_u64, IntKind.wrap_u64]; omega
    have HR : Hid ((-1 : Int) = x.sign) := (sign_neg hn).symm
    have HU : Hid _ := hu
    clear hu ho
    go_enter Tryd.func31, Tryd.ntmps31
    go_wp2_with (go_at_call 39; fail)
    refine (hfOf _ 2 2 u _ hni).mono ?_
    rintro e w2 ⟨d, l, c, rfl, hd, fd, b2⟩
    obtain ⟨k0, k1, k2, k3⟩ := x1.on b2
    go_wp2
    exact bodyPost_ret (v := .agg #[.int .i64 (-1), .slice d l c]) (by simp [results, Tryd.results31, go_sem, *]) rfl (endR _ (by omega) (also (also B0 hb1) b2) ⟨HU.out ▸ hd, HR.out⟩ (fd _ (by simp; omega)) (fun j hj _ => fd j (by simp; omega)) _ _)
  · obtain ⟨y, rfl⟩ := Int.eq_ofNat_of_zero_le (show 0 ≤ x by omega)
    obtain rfl : u = y := by omega
    have HR : Hid ((1 : Int) = ((u : Nat) : Int).sign) := (sign_pos (by omega)).symm
    have HU : Hid (u = ((u : Nat) : Int).natAbs) := hu
    clear hu ho
    go_enter Tryd.func31, Tryd.ntmps31
    go_wp2_with (go_at_call 39; fail)
    refine (hfOf _ 2 2 u _ hni).mono ?_
    rintro e w2 ⟨d, l, c, rfl, hd, fd, b2⟩
    obtain ⟨k0, k1, k2, k3⟩ := x1.on b2
    go_wp2
    exact bodyPost_ret (v := .agg #[.int .i64 (1), .slice d l c]) (by simp [results, Tryd.results31, go_sem, *]) rfl (endR _ (by omega) (also (also B0 hb1) b2) ⟨HU.out ▸ hd, HR.out⟩ (fd _ (by simp; omega)) (fun j hj _ => fd j (by simp; omega)) _ _)

theorem one_few : hf.nlen (1 : Int).natAbs ≤ 1000000 := Nat.le_trans (hf.nlen_le (n := 1) (by decide)) (by decide)
theorem sg_mul (x y : Int) : x.sign * y.sign = (x * y).sign := (Int.sign_mul x y).symm
theorem keepC3 {p q r : Nat} {v1 v2 v3 v4 v5 v6 : Value} {w0 w w' : World} (h : w.cell? ⟨p, 0, none⟩ = some v1 ∧ w.cell? ⟨p, 1, none⟩ = some v2 ∧ w.cell? ⟨q, 0, none⟩ = some v3 ∧ w.cell? ⟨q, 1, none⟩ = some v4 ∧ w.cell? ⟨r, 0, none⟩ = some v5 ∧ w.cell? ⟨r, 1, none⟩ = some v6 ∧ Below w0.heap.size w0 w) (hb : Below w.heap.size w w') :
    w'.cell? ⟨p, 0, none⟩ = some v1 ∧ w'.cell? ⟨p, 1, none⟩ = some v2 ∧ w'.cell? ⟨q, 0, none⟩ = some v3 ∧ w'.cell? ⟨q, 1, none⟩ = some v4 ∧ w'.cell? ⟨r, 0, none⟩ = some v5 ∧ w'.cell? ⟨r, 1, none⟩ = some v6 ∧ Below w0.heap.size w0 w' :=
  ⟨cell_on hb h.1, cell_on hb h.2.1, cell_on hb h.2.2.1, cell_on hb h.2.2.2.1, cell_on hb h.2.2.2.2.1, cell_on hb h.2.2.2.2.2.1, also h.2.2.2.2.2.2 hb⟩
theorem keepP3 {p q r k : Nat} {v1 v2 v3 v4 v5 v6 : Value} {w0 w : World} (h : w.cell? ⟨p, 0, none⟩ = some v1 ∧ w.cell? ⟨p, 1, none⟩ = some v2 ∧ w.cell? ⟨q, 0, none⟩ = some v3 ∧ w.cell? ⟨q, 1, none⟩ = some v4 ∧ w.cell? ⟨r, 0, none⟩ = some v5 ∧ w.cell? ⟨r, 1, none⟩ = some v6 ∧ Below w0.heap.size w0 w) (hp : k ≠ p) (hq : k ≠ q) (hr : k ≠ r) (hB : w0.heap.size ≤ k) (u v : Value) :
    ((w.setCell ⟨k, 0, none⟩ u).setCell ⟨k, 1, none⟩ v).cell? ⟨p, 0, none⟩ = some v1 ∧ ((w.setCell ⟨k, 0, none⟩ u).setCell ⟨k, 1, none⟩ v).cell? ⟨p, 1, none⟩ = some v2 ∧ ((w.setCell ⟨k, 0, none⟩ u).setCell ⟨k, 1, none⟩ v).cell? ⟨q, 0, none⟩ = some v3 ∧ ((w.setCell ⟨k, 0, none⟩ u).setCell ⟨k, 1, none⟩ v).cell? ⟨q, 1, none⟩ = some v4 ∧ ((w.setCell ⟨k, 0, none⟩ u).setCell ⟨k, 1, none⟩ v).cell? ⟨r, 0, none⟩ = some v5 ∧ ((w.setCell ⟨k, 0, none⟩ u).setCell ⟨k, 1, none⟩ v).cell? ⟨r, 1, none⟩ = some v6 ∧ Below w0.heap.size w0 ((w.setCell ⟨k, 0, none⟩ u).setCell ⟨k, 1, none⟩ v) := by
  have hne : ∀ i j b : Nat, k ≠ b → (⟨k, i, none⟩ : Addr) ≠ ⟨b, j, none⟩ := fun i j b hb e => by simp only [Addr.mk.injEq] at e; omega
  have g : ∀ (b j : Nat) (x : Value), k ≠ b → w.cell? ⟨b, j, none⟩ = some x → ((w.setCell ⟨k, 0, none⟩ u).setCell ⟨k, 1, none⟩ v).cell? ⟨b, j, none⟩ = some x := fun b j x hb hc => by
    rw [World.cell?_setCell_other _ _ _ _ (hne _ _ _ hb), World.cell?_setCell_other _ _ _ _ (hne _ _ _ hb)]; exact hc
  exact ⟨g _ _ _ hp h.1, g _ _ _ hp h.2.1, g _ _ _ hq h.2.2.1, g _ _ _ hq h.2.2.2.1, g _ _ _ hr h.2.2.2.2.1, g _ _ _ hr h.2.2.2.2.2.1, below_put2 h.2.2.2.2.2.2 hB u v⟩
def GotRF (w : World) (q r : Int) (e : Ending) (w' : World) : Prop := ∃ (s1 : Int) (d1 : Option Addr) (l1 c1 : Nat) (s2 : Int) (d2 : Option Addr) (l2 c2 : Nat), e = .returned (.tuple #[.agg #[.int .i64 s1, .slice d1 l1 c1], .agg #[.int .i64 s2, .slice d2 l2 c2]]) ∧ RN w' s1 d1 l1 c1 q ∧ RN w' s2 d2 l2 c2 r ∧ Below w.heap.size w w'
theorem endRF {w w6 : World} {s1 s2 : Int} {d1 d2 : Option Addr} {l1 c1 l2 c2 : Nat} {Q R : Int} (hq : RN w6 s1 d1 l1 c1 Q) (hr : RN w6 s2 d2 l2 c2 R) (B : Below w.heap.size w w6) (a1 : NA (w.heap.size + 1 + 1) d1 l1) (a2 : NA (w.heap.size + 1 + 1 + 1) d1 l1) (a3 : NA (w.heap.size + 1 + 1) d2 l2) (a4 : NA (w.heap.size + 1 + 1 + 1) d2 l2) (u v u' v' : Value) :
    GotRF w Q R (.returned (.tuple #[.agg #[.int .i64 s1, .slice d1 l1 c1], .agg #[.int .i64 s2, .slice d2 l2 c2]])) ((((w6.setCell ⟨w.heap.size + 1 + 1, 0, none⟩ u).setCell ⟨w.heap.size + 1 + 1, 1, none⟩ v).setCell ⟨w.heap.size + 1 + 1 + 1, 0, none⟩ u').setCell ⟨w.heap.size + 1 + 1 + 1, 1, none⟩ v') :=
  ⟨s1, d1, l1, c1, s2, d2, l2, c2, rfl, (hq.put2 a1 u v).put2 a2 u' v', (hr.put2 a3 u v).put2 a4 u' v', below_put2 (below_put2 B (by omega) u v) (by omega) u' v'⟩
set_option maxRecDepth 100000 in
set_option maxHeartbeats 10000000 in
theorem rwFloor (s t : Int) (d g : Option Addr) (l c h k : Nat) (x y : Int) (w : World) (hx : RN w s d l c x) (hy : RN w t g h k y) (fx : hf.nlen x.natAbs ≤ 1000000) (fy : hf.nlen y.natAbs ≤ 1000000) (h0 : y ≠ 0) (fq0 : hf.nlen (x.sign * y.sign * ((x.natAbs / y.natAbs : Nat) : Int)).natAbs ≤ 1000000) (fq : hf.nlen (flQ x y).natAbs ≤ 1000000) (fp : hf.nlen (flQ x y * y).natAbs ≤ 1000000)
    (Q R : Int) (hQ0 : Q = flQ x y) (hR0 : R = flR x y) : Calls Tryd.prog 23 #[.agg #[.int .i64 s, .slice d l c], .agg #[.int .i64 t, .slice g h k]] w (GotRF w Q R) := by
  obtain ⟨W, hW, B0, xa, xb, x4, x5, hs⟩ := box3 w (.int .i64 s) (.slice d l c) (.int .i64 t) (.slice g h k) (.int .i64 0) (.slice none 0 0) (.int .i64 0) (.slice none 0 0) 30 30 30 30
  have es : -1 ≤ s ∧ s ≤ 1 := by rw [hx.sg]; rcases sign_cases x with ⟨_, e⟩ | ⟨_, e⟩ | ⟨_, e⟩ <;> omega
  have et : t = -1 ∨ t = 0 ∨ t = 1 := by rw [hy.sg]; rcases sign_cases y with ⟨_, e⟩ | ⟨_, e⟩ | ⟨_, e⟩ <;> omega
  have ew' : wrap64 (s * t) = s * t := by
    unfold wrap64
    rcases et with e | e | e <;> rw [e] <;> omega
  have hst : s * t = x.sign * y.sign := by rw [hx.sg, hy.sg]
  obtain ⟨sd, hsd⟩ : ∃ sd, sd = s * t := ⟨_, rfl⟩
  rw [← hsd] at hst ew'
  have EW : wrap64 (s * t) = sd := by rw [hsd] at ew' ⊢; exact ew'
  have hv0 : 0 < y.natAbs := by omega
  obtain ⟨q0, hq0⟩ : ∃ q0 : Nat, q0 = x.natAbs / y.natAbs := ⟨_, rfl⟩
  obtain ⟨r0, hr0⟩ : ∃ r0 : Nat, r0 = x.natAbs % y.natAbs := ⟨_, rfl⟩
  obtain ⟨z0, hz0⟩ : ∃ z0, z0 = x.sign * y.sign * ((x.natAbs / y.natAbs : Nat) : Int) := ⟨_, rfl⟩
  have HD0 := hfDiv d g l h c k _ _ W (hx.hd.below B0) (hy.hd.below B0) fx fy hv0
  rw [← hq0, ← hr0] at HD0
  have HDD : Hid _ := HD0
  have hzq : q0 = z0.natAbs := by
    rw [hz0, ← hq0, Int.natAbs_mul, sg_mul]
    rcases sign_cases (x * y) with ⟨_, e⟩ | ⟨e', e⟩ | ⟨_, e⟩
    · rw [e]; simp
    · have : x = 0 := by rcases Int.mul_eq_zero.1 e' with z | z; exact z; exact absurd z h0
      rw [hq0, this]; simp
    · rw [e]; simp
  have hzs : z0 ≠ 0 → sd = z0.sign := fun hz => by
    rw [hst]
    have hq1 : q0 ≠ 0 := by rw [hzq]; omega
    rw [hz0, ← hq0, Int.sign_mul, sg_mul, Int.sign_sign, Int.sign_natCast_of_ne_zero hq1, Int.mul_one]
  have HZQ : Hid _ := hzq
  have HZS : Hid _ := hzs
  have HQ : Hid (Q = z0 - (if sd < 0 ∧ r0 ≠ 0 then 1 else 0)) := by
    unfold Hid
    rw [hQ0]
    unfold flQ
    rw [hz0, hst, hr0]
  have HR : Hid (R = x - Q * y) := by unfold Hid; rw [hR0, hQ0]; rfl
  have fq0' : hf.nlen z0.natAbs ≤ 1000000 := by rw [hz0]; exact fq0
  rw [← hQ0] at fq fp
  have n2 : NA (w.heap.size + 2) d l := hx.hd.sl.na (by omega)
  have n3 : NA (w.heap.size + 3) d l := hx.hd.sl.na (by omega)
  have n4 : NA (w.heap.size + 2) g h := hy.hd.sl.na (by omega)
  have n5 : NA (w.heap.size + 3) g h := hy.hd.sl.na (by omega)
  have hxW := hx.below B0
  have hyW := hy.below B0
  clear HD0 hzq hzs hq0 hr0 hz0 hst hsd es et ew' fq0 hQ0 hR0
  go_enter Tryd.func23, Tryd.ntmps23
  go_wp2_with (go_at_call 52; fail)
  rw [← hW]
  clear hW
  refine (show Calls _ _ _ _ (GotHB W q0 r0) from HDD.out).mono ?_
  rintro e w1 ⟨aq, lq, cq, ar, lr, cr, rfl, hq, hr, fq1, fr1, b1⟩
  obtain ⟨k0, k1, k2, k3⟩ := xa.on b1
  obtain ⟨j0, j1, j2, j3⟩ := xb.on b1
  go_wp2_with (go_at_call 42; fail)
  refine (rwMake sd aq lq cq q0 z0 w1 hq HZQ.out HZS.out).mono ?_
  rintro e w2 ⟨s2, a2, l2, c2, rfl, h2, f2, b2⟩
  have x8 := bx_new w2 (.int .i64 s2) (.slice a2 l2 c2) 30
  have b3 : Below w2.heap.size w2 (w2.alloc (.cells #[.int .i64 s2, .slice a2 l2 c2] 30)) := (Below.refl _ _).alloc (Nat.le_refl _) _
  have g8 : w.heap.size + 1 + 1 + 1 < w2.heap.size := Nat.lt_of_lt_of_le hs (Nat.le_trans b1.size b2.size)
  have H2 := h2.below b3
  have BW := also (also (also B0 b1) b2) b3
  have XA := ((xa.on b1).on b2).on b3
  have XB := ((xb.on b1).on b2).on b3
  have X4 := ((x4.on b1).on b2).on b3
  have X5 := ((x5.on b1).on b2).on b3
  have hxB := ((hxW.below b1).below b2).below b3
  have hyB := ((hyW.below b1).below b2).below b3
  have F2 : Far W.heap.size a2 l2 := fun j hj => f2 j (Nat.lt_of_lt_of_le hj b1.size) (fq1 j hj)
  have n82 : NA w2.heap.size a2 l2 := h2.hd.sl.na (Nat.le_refl _)
  have nx8 : NA w2.heap.size d l := ((hxW.below b1).below b2).hd.sl.na (Nat.le_refl _)
  have ny8 : NA w2.heap.size g h := ((hyW.below b1).below b2).hd.sl.na (Nat.le_refl _)
  obtain ⟨k0, k1, k2, k3⟩ := XA
  obtain ⟨j0, j1, j2, j3⟩ := XB
  have XA : Bx _ _ _ _ := ⟨k0, k1, k2, k3⟩
  have XB : Bx _ _ _ _ := ⟨j0, j1, j2, j3⟩
  have hlr := hr.pos
  clear x4 x5 xa xb hq hr h2 HDD HZQ HZS hxW hyW
  by_cases hadj : sd < 0 ∧ r0 ≠ 0
  · obtain ⟨hsn, hrn⟩ := hadj
    have HQ1 : Hid (Q = z0 - 1) := by have := HQ.out; rwa [if_pos ⟨hsn, hrn⟩] at this
    have hlr0 : (0 : Int) < lr := by omega
    clear HQ hlr
    go_wp2
    generalize w2.alloc (.cells #[.int .i64 s2, .slice a2 l2 c2] 30) = W2 at x8 H2 BW XA XB X4 X5 hxB hyB b3 k0 k1 k2 k3 j0 j1 j2 j3 ⊢
    generalize w2.heap.size = b8 at x8 g8 nx8 ny8 n82 ⊢
    have x8' := x8.drew
    obtain ⟨i0, i1, i2, i3⟩ := x8'
    have x8' : Bx _ _ _ _ := ⟨i0, i1, i2, i3⟩
    have d0 : Below W2.heap.size W2 W2.drew := (Below.refl _ _).drew
    go_region_with (first
      | (go_at_call 31; refine (rwLong 1 _ (by decide) (by decide)).mono ?_; rintro e w5 ⟨s5, d5, l5, c5, rfl, h5, f5, b5⟩; obtain ⟨i0, i1, i2, i3⟩ := x8'.on b5)
      | (go_at_call 15; refine (rwSub s2 s5 a2 d5 l2 c2 l5 c5 z0 1 (z0 - 1) _ ((H2.below d0).below b5) h5 fq0' one_few rfl).mono ?_; rintro e w6 ⟨s6, d6, l6, c6, rfl, h6, f6, b6⟩; obtain ⟨i0, i1, i2, i3⟩ := (x8'.on b5).on b6))
    · skip
      have F6 : Far W.heap.size d6 l6 := fun j hj => f6 j (Nat.lt_of_lt_of_le (Nat.lt_of_lt_of_le hj (Nat.le_trans (Nat.le_trans b1.size b2.size) b3.size)) b5.size) ⟨F2 j hj, f5 j (Nat.lt_of_lt_of_le hj (Nat.le_trans (Nat.le_trans b1.size b2.size) b3.size)) trivial⟩
      have n8 : NA b8 d6 l6 := f6 b8 (Nat.lt_of_lt_of_le (bx_lt x8) b5.size) ⟨n82, f5 b8 (bx_lt x8') trivial⟩
      have e8 : Bx ((w6.setCell ⟨b8, 0, none⟩ (.int .i64 s6)).setCell ⟨b8, 1, none⟩ (.slice d6 l6 c6)) b8 (.int .i64 s6) (.slice d6 l6 c6) := ((x8'.on b5).on b6).set
      have eA := ((((XA.on d0).on b5).on b6).put (i := 0) (v := .int .i64 s6) (show b8 ≠ _ by omega)).put (i := 1) (v := .slice d6 l6 c6) (show b8 ≠ _ by omega)
      have eB := ((((XB.on d0).on b5).on b6).put (i := 0) (v := .int .i64 s6) (show b8 ≠ _ by omega)).put (i := 1) (v := .slice d6 l6 c6) (show b8 ≠ _ by omega)
      have e4 := ((((X4.on d0).on b5).on b6).put (i := 0) (v := .int .i64 s6) (show b8 ≠ _ by omega)).put (i := 1) (v := .slice d6 l6 c6) (show b8 ≠ _ by omega)
      have e5 := ((((X5.on d0).on b5).on b6).put (i := 0) (v := .int .i64 s6) (show b8 ≠ _ by omega)).put (i := 1) (v := .slice d6 l6 c6) (show b8 ≠ _ by omega)
      have ex := (((hxB.below d0).below b5).below b6).put2 nx8 (.int .i64 s6) (.slice d6 l6 c6)
      have ey := (((hyB.below d0).below b5).below b6).put2 ny8 (.int .i64 s6) (.slice d6 l6 c6)
      have eq := h6.put2 n8 (.int .i64 s6) (.slice d6 l6 c6)
      have eb := below_put2 (also (also (also BW d0) b5) b6) (show w.heap.size ≤ b8 by omega) (.int .i64 s6) (.slice d6 l6 c6)
      rw [← HQ1.out] at eq
      clear x8 x8' i0 i1 i2 i3 k0 k1 k2 k3 j0 j1 j2 j3 XA XB X4 X5 hxB hyB H2 BW F2 f6 f5 h5 h6 d0
      dsimp only [Exit.then]
      go_wp2
      generalize (w6.setCell ⟨b8, 0, none⟩ (.int .i64 s6)).setCell ⟨b8, 1, none⟩ (.slice d6 l6 c6) = WF at e8 eA eB e4 e5 ex ey eq eb ⊢
      have g2 : w.heap.size + 1 + 1 < b8 := by omega
      refine wp_region_held_drew (S := (fun w' => w'.cell? ⟨b8, 0, none⟩ = some (.int .i64 s6) ∧ w'.cell? ⟨b8, 1, none⟩ = some (.slice d6 l6 c6) ∧ w'.cell? ⟨w.heap.size, 0, none⟩ = some (.int .i64 s) ∧ w'.cell? ⟨w.heap.size, 1, none⟩ = some (.slice d l c) ∧ w'.cell? ⟨w.heap.size + 1, 0, none⟩ = some (.int .i64 t) ∧ w'.cell? ⟨w.heap.size + 1, 1, none⟩ = some (.slice g h k) ∧ Below w.heap.size w w')) (by kernel_rfl) ?_ (fun hHeld => ?_)
      · first | exact keepC3 hHeld b21 | exact keepC3 hHeld b20 | exact ⟨e8.c0, e8.c1, eA.c0, eA.c1, eB.c0, eB.c1, eb.drew⟩ | exact keepP3 hHeld (by omega) (by omega) (by omega) (by omega) _ _
      refine take_yes (i := 0) (v := ?vm0) rfl (by kernel_rfl) (by kernel_rfl) (by kernel_rfl) (fun _ _ _ h => h) (by rfl) (by assumption) ?hym0 ?restm0
      case hym0 => (intro w hSw; (try dsimp only at hSw); first | (go_simp; done) | (go_simp; with_reducible rfl))
      simp only [Act.put, List.setIfInBounds_toArray, List.set_cons_zero, List.set_cons_succ]
      refine take_yes (i := 1) (v := ?vm1) rfl (by kernel_rfl) (by kernel_rfl) (by kernel_rfl) (fun _ _ _ h => h) (by rfl) (by assumption) ?hym1 ?restm1
      case hym1 => (intro w hSw; (try dsimp only at hSw); first | (go_simp; done) | (go_simp; with_reducible rfl))
      simp only [Act.put, List.setIfInBounds_toArray, List.set_cons_zero, List.set_cons_succ]
      refine take_yes (i := 2) (v := ?vm2) rfl (by kernel_rfl) (by kernel_rfl) (by kernel_rfl) (fun _ _ _ h => h) (by rfl) (by assumption) ?hym2 ?restm2
      case hym2 => (intro w hSw; (try dsimp only at hSw); first | (go_simp; done) | (go_simp; with_reducible rfl))
      simp only [Act.put, List.setIfInBounds_toArray, List.set_cons_zero, List.set_cons_succ]
      refine take_yes (i := 3) (v := ?vm3) rfl (by kernel_rfl) (by kernel_rfl) (by kernel_rfl) (fun _ _ _ h => h) (by rfl) (by assumption) ?hym3 ?restm3
      case hym3 => (intro w hSw; (try dsimp only at hSw); first | (go_simp; done) | (go_simp; with_reducible rfl))
      simp only [Act.put, List.setIfInBounds_toArray, List.set_cons_zero, List.set_cons_succ]
      refine take_call (i := 4) rfl (by kernel_rfl) (fun K hK => ?_)
      go_simp
      (go_at_call 17; refine (rwMul s6 t d6 g l6 c6 h k Q y (Q * y) _ (eq.below ((Below.refl _ _).drew)) (ey.below ((Below.refl _ _).drew)) fq fy rfl).mono ?_; rintro e w20 ⟨s20, d20, l20, c20, rfl, h20, f20, b20⟩)
      refine hK.out _ _ ?_ (fun hHeld => ?_)
      · first | exact keepC3 hHeld b21 | exact keepC3 hHeld b20 | exact ⟨e8.c0, e8.c1, eA.c0, eA.c1, eB.c0, eB.c1, eb.drew⟩ | exact keepP3 hHeld (by omega) (by omega) (by omega) (by omega) _ _
      clear hK K
      refine take_call (i := 5) rfl (by kernel_rfl) (fun K hK => ?_)
      go_simp
      (go_at_call 15; refine (rwSub s s20 d d20 l c l20 c20 x (Q * y) R _ ((ex.below ((Below.refl _ _).drew)).below b20) h20 fx fp HR.out).mono ?_; rintro e w21 ⟨s21, d21, l21, c21, rfl, h21, f21, b21⟩)
      refine hK.out _ _ ?_ (fun hHeld => ?_)
      · first | exact keepC3 hHeld b21 | exact keepC3 hHeld b20 | exact ⟨e8.c0, e8.c1, eA.c0, eA.c1, eB.c0, eB.c1, eb.drew⟩ | exact keepP3 hHeld (by omega) (by omega) (by omega) (by omega) _ _
      clear hK K
      obtain ⟨k0, k1, k2, k3⟩ := (e4.drew.on b20).on b21
      refine take_call (i := 6) rfl (by kernel_rfl) (fun K hK => ?_)
      go_simp
      refine hK.out _ _ ?_ (fun hHeld => ?_)
      · first | exact keepC3 hHeld b21 | exact keepC3 hHeld b20 | exact ⟨e8.c0, e8.c1, eA.c0, eA.c1, eB.c0, eB.c1, eb.drew⟩ | exact keepP3 hHeld (by omega) (by omega) (by omega) (by omega) _ _
      clear hK K
      obtain ⟨j0, j1, j2, j3⟩ : Bx ((w21.setCell ⟨w.heap.size + 1 + 1, 0, none⟩ (.int .i64 s6)).setCell ⟨w.heap.size + 1 + 1, 1, none⟩ (.slice d6 l6 c6)) (w.heap.size + 1 + 1 + 1) (.int .i64 0) (.slice none 0 0) := (((e5.drew.on b20).on b21).put (by omega)).put (by omega)
      refine take_call (i := 7) rfl (by kernel_rfl) (fun K hK => ?_)
      go_simp
      refine hK.out _ _ ?_ (fun hHeld => ?_)
      · first | exact keepC3 hHeld b21 | exact keepC3 hHeld b20 | exact ⟨e8.c0, e8.c1, eA.c0, eA.c1, eB.c0, eB.c1, eb.drew⟩ | exact keepP3 hHeld (by omega) (by omega) (by omega) (by omega) _ _
      clear hK K
      refine wpAnyH_done (by kernel_rfl) ?_ _
      go_wp2
      have z2 : WF.heap.size ≤ w20.heap.size := b20.size
      exact bodyPost_ret (v := .tuple #[.agg #[.int .i64 s6, .slice d6 l6 c6], .agg #[.int .i64 s21, .slice d21 l21 c21]]) (by simp [results, Tryd.results23, go_sem, *]) rfl (endRF (((eq.below ((Below.refl _ _).drew)).below b20).below b21) h21 (also (also eb.drew b20) b21) (F6 _ (by omega)) (F6 _ (by omega)) (f21 _ (Nat.lt_of_lt_of_le (Nat.lt_trans g2 (bx_lt e8)) z2) ⟨n2, f20 _ (Nat.lt_trans g2 (bx_lt e8.drew)) trivial⟩) (f21 _ (Nat.lt_of_lt_of_le (Nat.lt_trans g8 (bx_lt e8)) z2) ⟨n3, f20 _ (Nat.lt_trans g8 (bx_lt e8.drew)) trivial⟩) _ _ _ _)
    · skip
      have F6 : Far W.heap.size d6 l6 := fun j hj => f6 j (Nat.lt_of_lt_of_le (Nat.lt_of_lt_of_le hj (Nat.le_trans (Nat.le_trans b1.size b2.size) b3.size)) b5.size) ⟨F2 j hj, f5 j (Nat.lt_of_lt_of_le hj (Nat.le_trans (Nat.le_trans b1.size b2.size) b3.size)) trivial⟩
      have n8 : NA b8 d6 l6 := f6 b8 (Nat.lt_of_lt_of_le (bx_lt x8) b5.size) ⟨n82, f5 b8 (bx_lt x8') trivial⟩
      have e8 : Bx ((w6.setCell ⟨b8, 0, none⟩ (.int .i64 s6)).setCell ⟨b8, 1, none⟩ (.slice d6 l6 c6)) b8 (.int .i64 s6) (.slice d6 l6 c6) := ((x8'.on b5).on b6).set
      have eA := ((((XA.on d0).on b5).on b6).put (i := 0) (v := .int .i64 s6) (show b8 ≠ _ by omega)).put (i := 1) (v := .slice d6 l6 c6) (show b8 ≠ _ by omega)
      have eB := ((((XB.on d0).on b5).on b6).put (i := 0) (v := .int .i64 s6) (show b8 ≠ _ by omega)).put (i := 1) (v := .slice d6 l6 c6) (show b8 ≠ _ by omega)
      have e4 := ((((X4.on d0).on b5).on b6).put (i := 0) (v := .int .i64 s6) (show b8 ≠ _ by omega)).put (i := 1) (v := .slice d6 l6 c6) (show b8 ≠ _ by omega)
      have e5 := ((((X5.on d0).on b5).on b6).put (i := 0) (v := .int .i64 s6) (show b8 ≠ _ by omega)).put (i := 1) (v := .slice d6 l6 c6) (show b8 ≠ _ by omega)
      have ex := (((hxB.below d0).below b5).below b6).put2 nx8 (.int .i64 s6) (.slice d6 l6 c6)
      have ey := (((hyB.below d0).below b5).below b6).put2 ny8 (.int .i64 s6) (.slice d6 l6 c6)
      have eq := h6.put2 n8 (.int .i64 s6) (.slice d6 l6 c6)
      have eb := below_put2 (also (also (also BW d0) b5) b6) (show w.heap.size ≤ b8 by omega) (.int .i64 s6) (.slice d6 l6 c6)
      rw [← HQ1.out] at eq
      clear x8 x8' i0 i1 i2 i3 k0 k1 k2 k3 j0 j1 j2 j3 XA XB X4 X5 hxB hyB H2 BW F2 f6 f5 h5 h6 d0
      dsimp only [Exit.then]
      go_wp2
      generalize (w6.setCell ⟨b8, 0, none⟩ (.int .i64 s6)).setCell ⟨b8, 1, none⟩ (.slice d6 l6 c6) = WF at e8 eA eB e4 e5 ex ey eq eb ⊢
      have g2 : w.heap.size + 1 + 1 < b8 := by omega
      refine wp_region_held_drew (S := (fun w' => w'.cell? ⟨b8, 0, none⟩ = some (.int .i64 s6) ∧ w'.cell? ⟨b8, 1, none⟩ = some (.slice d6 l6 c6) ∧ w'.cell? ⟨w.heap.size, 0, none⟩ = some (.int .i64 s) ∧ w'.cell? ⟨w.heap.size, 1, none⟩ = some (.slice d l c) ∧ w'.cell? ⟨w.heap.size + 1, 0, none⟩ = some (.int .i64 t) ∧ w'.cell? ⟨w.heap.size + 1, 1, none⟩ = some (.slice g h k) ∧ Below w.heap.size w w')) (by kernel_rfl) ?_ (fun hHeld => ?_)
      · first | exact keepC3 hHeld b21 | exact keepC3 hHeld b20 | exact ⟨e8.c0, e8.c1, eA.c0, eA.c1, eB.c0, eB.c1, eb.drew⟩ | exact keepP3 hHeld (by omega) (by omega) (by omega) (by omega) _ _
      refine take_yes (i := 0) (v := ?vmm0) rfl (by kernel_rfl) (by kernel_rfl) (by kernel_rfl) (fun _ _ _ h => h) (by rfl) (by assumption) ?hymm0 ?restmm0
      case hymm0 => (intro w hSw; (try dsimp only at hSw); first | (go_simp; done) | (go_simp; with_reducible rfl))
      simp only [Act.put, List.setIfInBounds_toArray, List.set_cons_zero, List.set_cons_succ]
      refine take_yes (i := 1) (v := ?vmm1) rfl (by kernel_rfl) (by kernel_rfl) (by kernel_rfl) (fun _ _ _ h => h) (by rfl) (by assumption) ?hymm1 ?restmm1
      case hymm1 => (intro w hSw; (try dsimp only at hSw); first | (go_simp; done) | (go_simp; with_reducible rfl))
      simp only [Act.put, List.setIfInBounds_toArray, List.set_cons_zero, List.set_cons_succ]
      refine take_yes (i := 2) (v := ?vmm2) rfl (by kernel_rfl) (by kernel_rfl) (by kernel_rfl) (fun _ _ _ h => h) (by rfl) (by assumption) ?hymm2 ?restmm2
      case hymm2 => (intro w hSw; (try dsimp only at hSw); first | (go_simp; done) | (go_simp; with_reducible rfl))
      simp only [Act.put, List.setIfInBounds_toArray, List.set_cons_zero, List.set_cons_succ]
      refine take_yes (i := 3) (v := ?vmm3) rfl (by kernel_rfl) (by kernel_rfl) (by kernel_rfl) (fun _ _ _ h => h) (by rfl) (by assumption) ?hymm3 ?restmm3
      case hymm3 => (intro w hSw; (try dsimp only at hSw); first | (go_simp; done) | (go_simp; with_reducible rfl))
      simp only [Act.put, List.setIfInBounds_toArray, List.set_cons_zero, List.set_cons_succ]
      refine take_call (i := 4) rfl (by kernel_rfl) (fun K hK => ?_)
      go_simp
      (go_at_call 17; refine (rwMul s6 t d6 g l6 c6 h k Q y (Q * y) _ (eq.below ((Below.refl _ _).drew)) (ey.below ((Below.refl _ _).drew)) fq fy rfl).mono ?_; rintro e w20 ⟨s20, d20, l20, c20, rfl, h20, f20, b20⟩)
      refine hK.out _ _ ?_ (fun hHeld => ?_)
      · first | exact keepC3 hHeld b21 | exact keepC3 hHeld b20 | exact ⟨e8.c0, e8.c1, eA.c0, eA.c1, eB.c0, eB.c1, eb.drew⟩ | exact keepP3 hHeld (by omega) (by omega) (by omega) (by omega) _ _
      clear hK K
      refine take_call (i := 5) rfl (by kernel_rfl) (fun K hK => ?_)
      go_simp
      (go_at_call 15; refine (rwSub s s20 d d20 l c l20 c20 x (Q * y) R _ ((ex.below ((Below.refl _ _).drew)).below b20) h20 fx fp HR.out).mono ?_; rintro e w21 ⟨s21, d21, l21, c21, rfl, h21, f21, b21⟩)
      refine hK.out _ _ ?_ (fun hHeld => ?_)
      · first | exact keepC3 hHeld b21 | exact keepC3 hHeld b20 | exact ⟨e8.c0, e8.c1, eA.c0, eA.c1, eB.c0, eB.c1, eb.drew⟩ | exact keepP3 hHeld (by omega) (by omega) (by omega) (by omega) _ _
      clear hK K
      obtain ⟨k0, k1, k2, k3⟩ := (e4.drew.on b20).on b21
      refine take_call (i := 6) rfl (by kernel_rfl) (fun K hK => ?_)
      go_simp
      refine hK.out _ _ ?_ (fun hHeld => ?_)
      · first | exact keepC3 hHeld b21 | exact keepC3 hHeld b20 | exact ⟨e8.c0, e8.c1, eA.c0, eA.c1, eB.c0, eB.c1, eb.drew⟩ | exact keepP3 hHeld (by omega) (by omega) (by omega) (by omega) _ _
      clear hK K
      obtain ⟨j0, j1, j2, j3⟩ : Bx ((w21.setCell ⟨w.heap.size + 1 + 1, 0, none⟩ (.int .i64 s6)).setCell ⟨w.heap.size + 1 + 1, 1, none⟩ (.slice d6 l6 c6)) (w.heap.size + 1 + 1 + 1) (.int .i64 0) (.slice none 0 0) := (((e5.drew.on b20).on b21).put (by omega)).put (by omega)
      refine take_call (i := 7) rfl (by kernel_rfl) (fun K hK => ?_)
      go_simp
      refine hK.out _ _ ?_ (fun hHeld => ?_)
      · first | exact keepC3 hHeld b21 | exact keepC3 hHeld b20 | exact ⟨e8.c0, e8.c1, eA.c0, eA.c1, eB.c0, eB.c1, eb.drew⟩ | exact keepP3 hHeld (by omega) (by omega) (by omega) (by omega) _ _
      clear hK K
      refine wpAnyH_done (by kernel_rfl) ?_ _
      go_wp2
      have z2 : WF.heap.size ≤ w20.heap.size := b20.size
      exact bodyPost_ret (v := .tuple #[.agg #[.int .i64 s6, .slice d6 l6 c6], .agg #[.int .i64 s21, .slice d21 l21 c21]]) (by simp [results, Tryd.results23, go_sem, *]) rfl (endRF (((eq.below ((Below.refl _ _).drew)).below b20).below b21) h21 (also (also eb.drew b20) b21) (F6 _ (by omega)) (F6 _ (by omega)) (f21 _ (Nat.lt_of_lt_of_le (Nat.lt_trans g2 (bx_lt e8)) z2) ⟨n2, f20 _ (Nat.lt_trans g2 (bx_lt e8.drew)) trivial⟩) (f21 _ (Nat.lt_of_lt_of_le (Nat.lt_trans g8 (bx_lt e8)) z2) ⟨n3, f20 _ (Nat.lt_trans g8 (bx_lt e8.drew)) trivial⟩) _ _ _ _)
  · have HQ1 : Hid (Q = z0) := by have := HQ.out; rw [if_neg hadj, Int.sub_zero] at this; exact this
    clear HQ
    have hnot : ¬ (sd < 0 ∧ 0 < lr) := fun hh => hadj ⟨hh.1, fun e => by have := hlr.2 e; omega⟩
    clear hlr hadj
    by_cases hsn : sd < 0
    · have hl0 : lr = 0 := by
        rcases Nat.eq_zero_or_pos lr with e | e
        · exact e
        · exact absurd ⟨hsn, e⟩ hnot
      subst hl0
      clear hnot
      go_wp2
      have e8 := x8
      have eA := XA
      have eB := XB
      have e4 := X4
      have e5 := X5
      have ex := hxB
      have ey := hyB
      have eq := H2
      have eb := BW
      rw [← HQ1.out] at eq
      clear x8 k0 k1 k2 k3 j0 j1 j2 j3 XA XB X4 X5 hxB hyB H2 BW
      generalize w2.alloc (.cells #[.int .i64 s2, .slice a2 l2 c2] 30) = WF at e8 eA eB e4 e5 ex ey eq eb b3 ⊢
      generalize w2.heap.size = b8 at e8 g8 nx8 ny8 n82 ⊢
      have g2 : w.heap.size + 1 + 1 < b8 := by omega
      refine wp_region_held_drew (S := (fun w' => w'.cell? ⟨b8, 0, none⟩ = some (.int .i64 s2) ∧ w'.cell? ⟨b8, 1, none⟩ = some (.slice a2 l2 c2) ∧ w'.cell? ⟨w.heap.size, 0, none⟩ = some (.int .i64 s) ∧ w'.cell? ⟨w.heap.size, 1, none⟩ = some (.slice d l c) ∧ w'.cell? ⟨w.heap.size + 1, 0, none⟩ = some (.int .i64 t) ∧ w'.cell? ⟨w.heap.size + 1, 1, none⟩ = some (.slice g h k) ∧ Below w.heap.size w w')) (by kernel_rfl) ?_ (fun hHeld => ?_)
      · first | exact keepC3 hHeld b21 | exact keepC3 hHeld b20 | exact ⟨e8.c0, e8.c1, eA.c0, eA.c1, eB.c0, eB.c1, eb.drew⟩ | exact keepP3 hHeld (by omega) (by omega) (by omega) (by omega) _ _
      refine take_yes (i := 0) (v := ?vk0) rfl (by kernel_rfl) (by kernel_rfl) (by kernel_rfl) (fun _ _ _ h => h) (by rfl) (by assumption) ?hyk0 ?restk0
      case hyk0 => (intro w hSw; (try dsimp only at hSw); first | (go_simp; done) | (go_simp; with_reducible rfl))
      simp only [Act.put, List.setIfInBounds_toArray, List.set_cons_zero, List.set_cons_succ]
      refine take_yes (i := 1) (v := ?vk1) rfl (by kernel_rfl) (by kernel_rfl) (by kernel_rfl) (fun _ _ _ h => h) (by rfl) (by assumption) ?hyk1 ?restk1
      case hyk1 => (intro w hSw; (try dsimp only at hSw); first | (go_simp; done) | (go_simp; with_reducible rfl))
      simp only [Act.put, List.setIfInBounds_toArray, List.set_cons_zero, List.set_cons_succ]
      refine take_yes (i := 2) (v := ?vk2) rfl (by kernel_rfl) (by kernel_rfl) (by kernel_rfl) (fun _ _ _ h => h) (by rfl) (by assumption) ?hyk2 ?restk2
      case hyk2 => (intro w hSw; (try dsimp only at hSw); first | (go_simp; done) | (go_simp; with_reducible rfl))
      simp only [Act.put, List.setIfInBounds_toArray, List.set_cons_zero, List.set_cons_succ]
      refine take_yes (i := 3) (v := ?vk3) rfl (by kernel_rfl) (by kernel_rfl) (by kernel_rfl) (fun _ _ _ h => h) (by rfl) (by assumption) ?hyk3 ?restk3
      case hyk3 => (intro w hSw; (try dsimp only at hSw); first | (go_simp; done) | (go_simp; with_reducible rfl))
      simp only [Act.put, List.setIfInBounds_toArray, List.set_cons_zero, List.set_cons_succ]
      refine take_call (i := 4) rfl (by kernel_rfl) (fun K hK => ?_)
      go_simp
      (go_at_call 17; refine (rwMul s2 t a2 g l2 c2 h k Q y (Q * y) _ (eq.below ((Below.refl _ _).drew)) (ey.below ((Below.refl _ _).drew)) fq fy rfl).mono ?_; rintro e w20 ⟨s20, d20, l20, c20, rfl, h20, f20, b20⟩)
      refine hK.out _ _ ?_ (fun hHeld => ?_)
      · first | exact keepC3 hHeld b21 | exact keepC3 hHeld b20 | exact ⟨e8.c0, e8.c1, eA.c0, eA.c1, eB.c0, eB.c1, eb.drew⟩ | exact keepP3 hHeld (by omega) (by omega) (by omega) (by omega) _ _
      clear hK K
      refine take_call (i := 5) rfl (by kernel_rfl) (fun K hK => ?_)
      go_simp
      (go_at_call 15; refine (rwSub s s20 d d20 l c l20 c20 x (Q * y) R _ ((ex.below ((Below.refl _ _).drew)).below b20) h20 fx fp HR.out).mono ?_; rintro e w21 ⟨s21, d21, l21, c21, rfl, h21, f21, b21⟩)
      refine hK.out _ _ ?_ (fun hHeld => ?_)
      · first | exact keepC3 hHeld b21 | exact keepC3 hHeld b20 | exact ⟨e8.c0, e8.c1, eA.c0, eA.c1, eB.c0, eB.c1, eb.drew⟩ | exact keepP3 hHeld (by omega) (by omega) (by omega) (by omega) _ _
      clear hK K
      obtain ⟨k0, k1, k2, k3⟩ := (e4.drew.on b20).on b21
      refine take_call (i := 6) rfl (by kernel_rfl) (fun K hK => ?_)
      go_simp
      refine hK.out _ _ ?_ (fun hHeld => ?_)
      · first | exact keepC3 hHeld b21 | exact keepC3 hHeld b20 | exact ⟨e8.c0, e8.c1, eA.c0, eA.c1, eB.c0, eB.c1, eb.drew⟩ | exact keepP3 hHeld (by omega) (by omega) (by omega) (by omega) _ _
      clear hK K
      obtain ⟨j0, j1, j2, j3⟩ : Bx ((w21.setCell ⟨w.heap.size + 1 + 1, 0, none⟩ (.int .i64 s2)).setCell ⟨w.heap.size + 1 + 1, 1, none⟩ (.slice a2 l2 c2)) (w.heap.size + 1 + 1 + 1) (.int .i64 0) (.slice none 0 0) := (((e5.drew.on b20).on b21).put (by omega)).put (by omega)
      refine take_call (i := 7) rfl (by kernel_rfl) (fun K hK => ?_)
      go_simp
      refine hK.out _ _ ?_ (fun hHeld => ?_)
      · first | exact keepC3 hHeld b21 | exact keepC3 hHeld b20 | exact ⟨e8.c0, e8.c1, eA.c0, eA.c1, eB.c0, eB.c1, eb.drew⟩ | exact keepP3 hHeld (by omega) (by omega) (by omega) (by omega) _ _
      clear hK K
      refine wpAnyH_done (by kernel_rfl) ?_ _
      go_wp2
      have z2 : WF.heap.size ≤ w20.heap.size := b20.size
      exact bodyPost_ret (v := .tuple #[.agg #[.int .i64 s2, .slice a2 l2 c2], .agg #[.int .i64 s21, .slice d21 l21 c21]]) (by simp [results, Tryd.results23, go_sem, *]) rfl (endRF (((eq.below ((Below.refl _ _).drew)).below b20).below b21) h21 (also (also eb.drew b20) b21) (F2 _ (by omega)) (F2 _ (by omega)) (f21 _ (Nat.lt_of_lt_of_le (Nat.lt_trans g2 (bx_lt e8)) z2) ⟨n2, f20 _ (Nat.lt_trans g2 (bx_lt e8.drew)) trivial⟩) (f21 _ (Nat.lt_of_lt_of_le (Nat.lt_trans g8 (bx_lt e8)) z2) ⟨n3, f20 _ (Nat.lt_trans g8 (bx_lt e8.drew)) trivial⟩) _ _ _ _)
    · clear hnot
      have hsn' : decide (sd < 0) = false := by simpa using hsn
      go_wp2
      have e8 := x8
      have eA := XA
      have eB := XB
      have e4 := X4
      have e5 := X5
      have ex := hxB
      have ey := hyB
      have eq := H2
      have eb := BW
      rw [← HQ1.out] at eq
      clear x8 k0 k1 k2 k3 j0 j1 j2 j3 XA XB X4 X5 hxB hyB H2 BW
      generalize w2.alloc (.cells #[.int .i64 s2, .slice a2 l2 c2] 30) = WF at e8 eA eB e4 e5 ex ey eq eb b3 ⊢
      generalize w2.heap.size = b8 at e8 g8 nx8 ny8 n82 ⊢
      have g2 : w.heap.size + 1 + 1 < b8 := by omega
      refine wp_region_held_drew (S := (fun w' => w'.cell? ⟨b8, 0, none⟩ = some (.int .i64 s2) ∧ w'.cell? ⟨b8, 1, none⟩ = some (.slice a2 l2 c2) ∧ w'.cell? ⟨w.heap.size, 0, none⟩ = some (.int .i64 s) ∧ w'.cell? ⟨w.heap.size, 1, none⟩ = some (.slice d l c) ∧ w'.cell? ⟨w.heap.size + 1, 0, none⟩ = some (.int .i64 t) ∧ w'.cell? ⟨w.heap.size + 1, 1, none⟩ = some (.slice g h k) ∧ Below w.heap.size w w')) (by kernel_rfl) ?_ (fun hHeld => ?_)
      · first | exact keepC3 hHeld b21 | exact keepC3 hHeld b20 | exact ⟨e8.c0, e8.c1, eA.c0, eA.c1, eB.c0, eB.c1, eb.drew⟩ | exact keepP3 hHeld (by omega) (by omega) (by omega) (by omega) _ _
      refine take_yes (i := 0) (v := ?vl0) rfl (by kernel_rfl) (by kernel_rfl) (by kernel_rfl) (fun _ _ _ h => h) (by rfl) (by assumption) ?hyl0 ?restl0
      case hyl0 => (intro w hSw; (try dsimp only at hSw); first | (go_simp; done) | (go_simp; with_reducible rfl))
      simp only [Act.put, List.setIfInBounds_toArray, List.set_cons_zero, List.set_cons_succ]
      refine take_yes (i := 1) (v := ?vl1) rfl (by kernel_rfl) (by kernel_rfl) (by kernel_rfl) (fun _ _ _ h => h) (by rfl) (by assumption) ?hyl1 ?restl1
      case hyl1 => (intro w hSw; (try dsimp only at hSw); first | (go_simp; done) | (go_simp; with_reducible rfl))
      simp only [Act.put, List.setIfInBounds_toArray, List.set_cons_zero, List.set_cons_succ]
      refine take_yes (i := 2) (v := ?vl2) rfl (by kernel_rfl) (by kernel_rfl) (by kernel_rfl) (fun _ _ _ h => h) (by rfl) (by assumption) ?hyl2 ?restl2
      case hyl2 => (intro w hSw; (try dsimp only at hSw); first | (go_simp; done) | (go_simp; with_reducible rfl))
      simp only [Act.put, List.setIfInBounds_toArray, List.set_cons_zero, List.set_cons_succ]
      refine take_yes (i := 3) (v := ?vl3) rfl (by kernel_rfl) (by kernel_rfl) (by kernel_rfl) (fun _ _ _ h => h) (by rfl) (by assumption) ?hyl3 ?restl3
      case hyl3 => (intro w hSw; (try dsimp only at hSw); first | (go_simp; done) | (go_simp; with_reducible rfl))
      simp only [Act.put, List.setIfInBounds_toArray, List.set_cons_zero, List.set_cons_succ]
      refine take_call (i := 4) rfl (by kernel_rfl) (fun K hK => ?_)
      go_simp
      (go_at_call 17; refine (rwMul s2 t a2 g l2 c2 h k Q y (Q * y) _ (eq.below ((Below.refl _ _).drew)) (ey.below ((Below.refl _ _).drew)) fq fy rfl).mono ?_; rintro e w20 ⟨s20, d20, l20, c20, rfl, h20, f20, b20⟩)
      refine hK.out _ _ ?_ (fun hHeld => ?_)
      · first | exact keepC3 hHeld b21 | exact keepC3 hHeld b20 | exact ⟨e8.c0, e8.c1, eA.c0, eA.c1, eB.c0, eB.c1, eb.drew⟩ | exact keepP3 hHeld (by omega) (by omega) (by omega) (by omega) _ _
      clear hK K
      refine take_call (i := 5) rfl (by kernel_rfl) (fun K hK => ?_)
      go_simp
      (go_at_call 15; refine (rwSub s s20 d d20 l c l20 c20 x (Q * y) R _ ((ex.below ((Below.refl _ _).drew)).below b20) h20 fx fp HR.out).mono ?_; rintro e w21 ⟨s21, d21, l21, c21, rfl, h21, f21, b21⟩)
      refine hK.out _ _ ?_ (fun hHeld => ?_)
      · first | exact keepC3 hHeld b21 | exact keepC3 hHeld b20 | exact ⟨e8.c0, e8.c1, eA.c0, eA.c1, eB.c0, eB.c1, eb.drew⟩ | exact keepP3 hHeld (by omega) (by omega) (by omega) (by omega) _ _
      clear hK K
      obtain ⟨k0, k1, k2, k3⟩ := (e4.drew.on b20).on b21
      refine take_call (i := 6) rfl (by kernel_rfl) (fun K hK => ?_)
      go_simp
      refine hK.out _ _ ?_ (fun hHeld => ?_)
      · first | exact keepC3 hHeld b21 | exact keepC3 hHeld b20 | exact ⟨e8.c0, e8.c1, eA.c0, eA.c1, eB.c0, eB.c1, eb.drew⟩ | exact keepP3 hHeld (by omega) (by omega) (by omega) (by omega) _ _
      clear hK K
      obtain ⟨j0, j1, j2, j3⟩ : Bx ((w21.setCell ⟨w.heap.size + 1 + 1, 0, none⟩ (.int .i64 s2)).setCell ⟨w.heap.size + 1 + 1, 1, none⟩ (.slice a2 l2 c2)) (w.heap.size + 1 + 1 + 1) (.int .i64 0) (.slice none 0 0) := (((e5.drew.on b20).on b21).put (by omega)).put (by omega)
      refine take_call (i := 7) rfl (by kernel_rfl) (fun K hK => ?_)
      go_simp
      refine hK.out _ _ ?_ (fun hHeld => ?_)
      · first | exact keepC3 hHeld b21 | exact keepC3 hHeld b20 | exact ⟨e8.c0, e8.c1, eA.c0, eA.c1, eB.c0, eB.c1, eb.drew⟩ | exact keepP3 hHeld (by omega) (by omega) (by omega) (by omega) _ _
      clear hK K
      refine wpAnyH_done (by kernel_rfl) ?_ _
      go_wp2
      have z2 : WF.heap.size ≤ w20.heap.size := b20.size
      exact bodyPost_ret (v := .tuple #[.agg #[.int .i64 s2, .slice a2 l2 c2], .agg #[.int .i64 s21, .slice d21 l21 c21]]) (by simp [results, Tryd.results23, go_sem, *]) rfl (endRF (((eq.below ((Below.refl _ _).drew)).below b20).below b21) h21 (also (also eb.drew b20) b21) (F2 _ (by omega)) (F2 _ (by omega)) (f21 _ (Nat.lt_of_lt_of_le (Nat.lt_trans g2 (bx_lt e8)) z2) ⟨n2, f20 _ (Nat.lt_trans g2 (bx_lt e8.drew)) trivial⟩) (f21 _ (Nat.lt_of_lt_of_le (Nat.lt_trans g8 (bx_lt e8)) z2) ⟨n3, f20 _ (Nat.lt_trans g8 (bx_lt e8.drew)) trivial⟩) _ _ _ _)
end Go.Proofs.YtpkcjgkgabemoaaDoor

namespace Go.Proofs.YtpkcjgkgabemoaaDoor
open Go.RowKit
set_option linter.unusedVariables false

theorem wsign_cases (x : Int) : (x < 0 ∧ x.sign = -1) ∨ (x = 0 ∧ x.sign = 0) ∨ (0 < x ∧ x.sign = 1) := by
  rcases Int.lt_trichotomy x 0 with h | h | h
  · exact Or.inl ⟨h, Int.sign_eq_neg_one_of_neg h⟩
  · exact Or.inr (Or.inl ⟨h, Int.sign_eq_zero_iff_zero.2 h⟩)
  · exact Or.inr (Or.inr ⟨h, Int.sign_eq_one_of_pos h⟩)
theorem cmpI_sign (a b : Int) : cmpI a b = (a - b).sign := by
  unfold cmpI
  rcases wsign_cases (a - b) with ⟨h, e⟩ | ⟨h, e⟩ | ⟨h, e⟩
  · rw [if_pos (by omega), e]
  · rw [if_neg (by omega), if_neg (by omega), e]
  · rw [if_neg (by omega), if_pos (by omega), e]
set_option maxRecDepth 100000 in
set_option maxHeartbeats 1000000 in
theorem wCmp (n m : Bool) (a b : Option Addr) (la lb ca cb : Nat) (x y : Int) (w : World) (ha : WI w n a la ca x) (hb : WI w m b lb cb y) {g : Int} (hg : g = (x - y).sign) :
    Calls Tryd.prog 28 #[.agg #[.bool n, .slice a la ca], .agg #[.bool m, .slice b lb cb]] w fun e w' => e = .returned (.int .i64 g) ∧ Below w.heap.size w w' := by
  obtain ⟨B0, xa, xb, hs⟩ := box1 w (.bool n) (.slice a la ca) (.bool m) (.slice b lb cb) 25 25
  obtain ⟨sx, hsx⟩ : ∃ sx, sx = x.sign := ⟨_, rfl⟩
  obtain ⟨sy, hsy⟩ : ∃ sy, sy = y.sign := ⟨_, rfl⟩
  have HX : Hid _ := hsx
  have HY : Hid _ := hsy
  replace B0 := B0.drew
  replace xa := xa.drew
  replace xb := xb.drew
  by_cases hne : sx = sy
  · cases n
    · have HG : Hid (g = cmpI (x.natAbs : Int) y.natAbs) := by
        unfold Hid
        have := ha.pos rfl
        rw [hg, cmpI_sign]
        rcases wsign_cases x with ⟨h1, e1⟩ | ⟨h1, e1⟩ | ⟨h1, e1⟩ <;> rcases wsign_cases y with ⟨h2, e2⟩ | ⟨h2, e2⟩ | ⟨h2, e2⟩ <;> first | (exfalso; omega) | (congr 1; omega)
      clear hg hsx hsy
      subst hne
      go_enter Tryd.func28, Tryd.ntmps28
      go_wp2
      refine wp_region_held_drew (S := (fun w' => w'.cell? ⟨w.heap.size, 0, none⟩ = some (.bool false) ∧ w'.cell? ⟨w.heap.size, 1, none⟩ = some (.slice a la ca) ∧ w'.cell? ⟨w.heap.size + 1, 0, none⟩ = some (.bool m) ∧ w'.cell? ⟨w.heap.size + 1, 1, none⟩ = some (.slice b lb cb) ∧ Below w.heap.size w w')) (by kernel_rfl) ?_ (fun hHeld => ?_)
      · first | exact keepB2 hHeld b2 | exact keepB2 hHeld b1 | exact ⟨xa.c0, xa.c1, xb.c0, xb.c1, B0⟩
      refine take_yes (i := 0) (v := ?va0) rfl (by kernel_rfl) (by kernel_rfl) (by kernel_rfl) (fun _ _ _ h => h) (by rfl) (by assumption) ?hya0 ?resta0
      case hya0 => (intro w hSw; (try dsimp only at hSw); first | (go_simp; done) | (go_simp; with_reducible rfl))
      simp only [Act.put, List.setIfInBounds_toArray, List.set_cons_zero, List.set_cons_succ]
      refine take_yes (i := 2) (v := ?va2) rfl (by kernel_rfl) (by kernel_rfl) (by kernel_rfl) (fun _ _ _ h => h) (by rfl) (by assumption) ?hya2 ?resta2
      case hya2 => (intro w hSw; (try dsimp only at hSw); first | (go_simp; done) | (go_simp; with_reducible rfl))
      simp only [Act.put, List.setIfInBounds_toArray, List.set_cons_zero, List.set_cons_succ]
      refine take_call (i := 1) rfl (by kernel_rfl) (fun K hK => ?_)
      go_simp
      (go_at_call 24; refine (wSign false a la ca x _ (ha.below hHeld.2.2.2.2) HX.out).mono ?_; rintro e w1 ⟨rfl, b1⟩)
      refine hK.out _ _ ?_ (fun hHeld => ?_)
      · first | exact keepB2 hHeld b2 | exact keepB2 hHeld b1 | exact ⟨xa.c0, xa.c1, xb.c0, xb.c1, B0⟩
      clear hK K
      refine take_call (i := 3) rfl (by kernel_rfl) (fun K hK => ?_)
      go_simp
      (go_at_call 24; refine (wSign m b lb cb y _ (hb.below hHeld.2.2.2.2) HY.out).mono ?_; rintro e w2 ⟨rfl, b2⟩)
      refine hK.out _ _ ?_ (fun hHeld => ?_)
      · first | exact keepB2 hHeld b2 | exact keepB2 hHeld b1 | exact ⟨xa.c0, xa.c1, xb.c0, xb.c1, B0⟩
      clear hK K
      refine take_yes (i := 4) (v := ?va4) rfl (by kernel_rfl) (by kernel_rfl) (by kernel_rfl) (fun _ _ _ h => h) (by rfl) (by assumption) ?hya4 ?resta4
      case hya4 => (intro w hSw; (try dsimp only at hSw); first | (go_simp; done) | (go_simp; with_reducible rfl))
      simp only [Act.put, List.setIfInBounds_toArray, List.set_cons_zero, List.set_cons_succ]
      refine take_yes (i := 5) (v := ?va5) rfl (by kernel_rfl) (by kernel_rfl) (by kernel_rfl) (fun _ _ _ h => h) (by rfl) (by assumption) ?hya5 ?resta5
      case hya5 => (intro w hSw; (try dsimp only at hSw); first | (go_simp; done) | (go_simp; with_reducible rfl))
      simp only [Act.put, List.setIfInBounds_toArray, List.set_cons_zero, List.set_cons_succ]
      refine wpAnyH_done (by kernel_rfl) ?_ _
      obtain ⟨k0, k1, k2, k3⟩ := (xa.on b1).on b2
      obtain ⟨j0, j1, j2, j3⟩ := (xb.on b1).on b2
      go_wp2_with (go_at_call 56; fail)
      refine (nCmp a b la lb ca cb _ _ _ (((ha.ni.below B0).below b1).below b2) (((hb.ni.below B0).below b1).below b2) HG.out).mono ?_
      rintro e w3 ⟨rfl, b3⟩
      go_wp2
      go_ret
      exact ⟨rfl, also (also (also B0 b1) b2) b3⟩
    · have HG : Hid (g = cmpI (y.natAbs : Int) x.natAbs) := by
        unfold Hid
        have := ha.neg rfl
        rw [hg, cmpI_sign]
        rcases wsign_cases x with ⟨h1, e1⟩ | ⟨h1, e1⟩ | ⟨h1, e1⟩ <;> rcases wsign_cases y with ⟨h2, e2⟩ | ⟨h2, e2⟩ | ⟨h2, e2⟩ <;> first | (exfalso; omega) | (congr 1; omega)
      clear hg hsx hsy
      subst hne
      go_enter Tryd.func28, Tryd.ntmps28
      go_wp2
      refine wp_region_held_drew (S := (fun w' => w'.cell? ⟨w.heap.size, 0, none⟩ = some (.bool true) ∧ w'.cell? ⟨w.heap.size, 1, none⟩ = some (.slice a la ca) ∧ w'.cell? ⟨w.heap.size + 1, 0, none⟩ = some (.bool m) ∧ w'.cell? ⟨w.heap.size + 1, 1, none⟩ = some (.slice b lb cb) ∧ Below w.heap.size w w')) (by kernel_rfl) ?_ (fun hHeld => ?_)
      · first | exact keepB2 hHeld b2 | exact keepB2 hHeld b1 | exact ⟨xa.c0, xa.c1, xb.c0, xb.c1, B0⟩
      refine take_yes (i := 0) (v := ?vb0) rfl (by kernel_rfl) (by kernel_rfl) (by kernel_rfl) (fun _ _ _ h => h) (by rfl) (by assumption) ?hyb0 ?restb0
      case hyb0 => (intro w hSw; (try dsimp only at hSw); first | (go_simp; done) | (go_simp; with_reducible rfl))
      simp only [Act.put, List.setIfInBounds_toArray, List.set_cons_zero, List.set_cons_succ]
      refine take_yes (i := 2) (v := ?vb2) rfl (by kernel_rfl) (by kernel_rfl) (by kernel_rfl) (fun _ _ _ h => h) (by rfl) (by assumption) ?hyb2 ?restb2
      case hyb2 => (intro w hSw; (try dsimp only at hSw); first | (go_simp; done) | (go_simp; with_reducible rfl))
      simp only [Act.put, List.setIfInBounds_toArray, List.set_cons_zero, List.set_cons_succ]
      refine take_call (i := 1) rfl (by kernel_rfl) (fun K hK => ?_)
      go_simp
      (go_at_call 24; refine (wSign true a la ca x _ (ha.below hHeld.2.2.2.2) HX.out).mono ?_; rintro e w1 ⟨rfl, b1⟩)
      refine hK.out _ _ ?_ (fun hHeld => ?_)
      · first | exact keepB2 hHeld b2 | exact keepB2 hHeld b1 | exact ⟨xa.c0, xa.c1, xb.c0, xb.c1, B0⟩
      clear hK K
      refine take_call (i := 3) rfl (by kernel_rfl) (fun K hK => ?_)
      go_simp
      (go_at_call 24; refine (wSign m b lb cb y _ (hb.below hHeld.2.2.2.2) HY.out).mono ?_; rintro e w2 ⟨rfl, b2⟩)
      refine hK.out _ _ ?_ (fun hHeld => ?_)
      · first | exact keepB2 hHeld b2 | exact keepB2 hHeld b1 | exact ⟨xa.c0, xa.c1, xb.c0, xb.c1, B0⟩
      clear hK K
      refine take_yes (i := 4) (v := ?vb4) rfl (by kernel_rfl) (by kernel_rfl) (by kernel_rfl) (fun _ _ _ h => h) (by rfl) (by assumption) ?hyb4 ?restb4
      case hyb4 => (intro w hSw; (try dsimp only at hSw); first | (go_simp; done) | (go_simp; with_reducible rfl))
      simp only [Act.put, List.setIfInBounds_toArray, List.set_cons_zero, List.set_cons_succ]
      refine take_yes (i := 5) (v := ?vb5) rfl (by kernel_rfl) (by kernel_rfl) (by kernel_rfl) (fun _ _ _ h => h) (by rfl) (by assumption) ?hyb5 ?restb5
      case hyb5 => (intro w hSw; (try dsimp only at hSw); first | (go_simp; done) | (go_simp; with_reducible rfl))
      simp only [Act.put, List.setIfInBounds_toArray, List.set_cons_zero, List.set_cons_succ]
      refine wpAnyH_done (by kernel_rfl) ?_ _
      obtain ⟨k0, k1, k2, k3⟩ := (xa.on b1).on b2
      obtain ⟨j0, j1, j2, j3⟩ := (xb.on b1).on b2
      go_wp2_with (go_at_call 56; fail)
      refine (nCmp b a lb la cb ca _ _ _ (((hb.ni.below B0).below b1).below b2) (((ha.ni.below B0).below b1).below b2) HG.out).mono ?_
      rintro e w3 ⟨rfl, b3⟩
      go_wp2
      go_ret
      exact ⟨rfl, also (also (also B0 b1) b2) b3⟩
  · have HG : Hid (cmpI sx sy = g) := by
      unfold Hid
      rw [hg, cmpI_sign]
      rcases wsign_cases x with ⟨h1, e1⟩ | ⟨h1, e1⟩ | ⟨h1, e1⟩ <;> rcases wsign_cases y with ⟨h2, e2⟩ | ⟨h2, e2⟩ | ⟨h2, e2⟩ <;> rcases wsign_cases (x - y) with ⟨h3, e3⟩ | ⟨h3, e3⟩ | ⟨h3, e3⟩ <;> rcases wsign_cases (sx - sy) with ⟨h4, e4⟩ | ⟨h4, e4⟩ | ⟨h4, e4⟩ <;> omega
    have hne' : (sx == sy) = false := by simpa using hne
    clear hg hsx hsy
    go_enter Tryd.func28, Tryd.ntmps28
    go_wp2
    refine wp_region_held_drew (S := (fun w' => w'.cell? ⟨w.heap.size, 0, none⟩ = some (.bool n) ∧ w'.cell? ⟨w.heap.size, 1, none⟩ = some (.slice a la ca) ∧ w'.cell? ⟨w.heap.size + 1, 0, none⟩ = some (.bool m) ∧ w'.cell? ⟨w.heap.size + 1, 1, none⟩ = some (.slice b lb cb) ∧ Below w.heap.size w w')) (by kernel_rfl) ?_ (fun hHeld => ?_)
    · first | exact keepB2 hHeld b2 | exact keepB2 hHeld b1 | exact ⟨xa.c0, xa.c1, xb.c0, xb.c1, B0⟩
    refine take_yes (i := 0) (v := ?vc0) rfl (by kernel_rfl) (by kernel_rfl) (by kernel_rfl) (fun _ _ _ h => h) (by rfl) (by assumption) ?hyc0 ?restc0
    case hyc0 => (intro w hSw; (try dsimp only at hSw); first | (go_simp; done) | (go_simp; with_reducible rfl))
    simp only [Act.put, List.setIfInBounds_toArray, List.set_cons_zero, List.set_cons_succ]
    refine take_yes (i := 2) (v := ?vc2) rfl (by kernel_rfl) (by kernel_rfl) (by kernel_rfl) (fun _ _ _ h => h) (by rfl) (by assumption) ?hyc2 ?restc2
    case hyc2 => (intro w hSw; (try dsimp only at hSw); first | (go_simp; done) | (go_simp; with_reducible rfl))
    simp only [Act.put, List.setIfInBounds_toArray, List.set_cons_zero, List.set_cons_succ]
    refine take_call (i := 1) rfl (by kernel_rfl) (fun K hK => ?_)
    go_simp
    (go_at_call 24; refine (wSign n a la ca x _ (ha.below hHeld.2.2.2.2) HX.out).mono ?_; rintro e w1 ⟨rfl, b1⟩)
    refine hK.out _ _ ?_ (fun hHeld => ?_)
    · first | exact keepB2 hHeld b2 | exact keepB2 hHeld b1 | exact ⟨xa.c0, xa.c1, xb.c0, xb.c1, B0⟩
    clear hK K
    refine take_call (i := 3) rfl (by kernel_rfl) (fun K hK => ?_)
    go_simp
    (go_at_call 24; refine (wSign m b lb cb y _ (hb.below hHeld.2.2.2.2) HY.out).mono ?_; rintro e w2 ⟨rfl, b2⟩)
    refine hK.out _ _ ?_ (fun hHeld => ?_)
    · first | exact keepB2 hHeld b2 | exact keepB2 hHeld b1 | exact ⟨xa.c0, xa.c1, xb.c0, xb.c1, B0⟩
    clear hK K
    refine take_yes (i := 4) (v := ?vc4) rfl (by kernel_rfl) (by kernel_rfl) (by kernel_rfl) (fun _ _ _ h => h) (by rfl) (by assumption) ?hyc4 ?restc4
    case hyc4 => (intro w hSw; (try dsimp only at hSw); first | (go_simp; done) | (go_simp; with_reducible rfl))
    simp only [Act.put, List.setIfInBounds_toArray, List.set_cons_zero, List.set_cons_succ]
    refine take_yes (i := 5) (v := ?vc5) rfl (by kernel_rfl) (by kernel_rfl) (by kernel_rfl) (fun _ _ _ h => h) (by rfl) (by assumption) ?hyc5 ?restc5
    case hyc5 => (intro w hSw; (try dsimp only at hSw); first | (go_simp; done) | (go_simp; with_reducible rfl))
    simp only [Act.put, List.setIfInBounds_toArray, List.set_cons_zero, List.set_cons_succ]
    refine wpAnyH_done (by kernel_rfl) ?_ _
    go_wp2_with (go_at_call 55; fail)
    refine (cmpInt_any sx sy _).mono ?_
    rw [HG.out]
    rintro e w3 ⟨rfl, hw⟩
    subst hw
    go_wp2
    go_ret
    exact ⟨rfl, also (also B0 b1) b2⟩
end Go.Proofs.YtpkcjgkgabemoaaDoor

namespace Go.Proofs.YtpkcjgkgabemoaaDoor
open Go.RowKit
set_option linter.unusedVariables false

/-- A number of 64 bits, or none. -/
def smOk (z : Int) : Bool := decide (-9223372036854775808 ≤ z ∧ z ≤ 9223372036854775807)
def smV (z : Int) : Int := if smOk z then z else 0
theorem bt_more {u : Nat} (h : 64 < bt.nlen u) : 18446744073709551616 ≤ u := by
  refine Nat.le_of_not_lt fun hlt => ?_
  have := bt.nlen_le (n := 64) (v := u) hlt
  omega
theorem bt_less {u : Nat} (h : bt.nlen u ≤ 64) : u < 18446744073709551616 := Nat.lt_of_lt_of_le (bt.nlen_lt u) (Nat.le_trans (Nat.pow_le_pow_right (by decide) h) (by decide))
theorem cmpLong_any (x y : Int) (w : World) :
    Calls Tryd.prog 54 #[.int .i64 x, .int .i64 y] w fun e w' => e = .returned (.int .i64 (cmpI x y)) ∧ w = w' := by
  unfold cmpI
  go_enter Tryd.func54, Tryd.ntmps54
  go_wp2
  all_goals (go_ret; exact ⟨rfl, rfl⟩)
theorem sm_step (U j : Nat) (hj : j ≤ 1) : bits BinOp.or IntKind.u64 ((U : Int) % 4294967296 ^ j) (IntKind.u64.wrap (wd.dg (U : Int) j * 2 ^ (32 * j))) = ((U % 4294967296 ^ (j + 1) : Nat) : Int) := by
  obtain ⟨d0, d1⟩ := wd.dg_range (U : Int) j
  obtain ⟨D, hD⟩ := Int.eq_ofNat_of_zero_le d0
  have hdn := wd.dg_nat U j
  rw [hD] at hdn d1 ⊢
  rcases j with _ | _ | j
  · simp only [Int.pow_zero, Nat.mul_zero, Int.mul_one, Int.emod_one, Nat.zero_add, Nat.pow_one]
    rw [show IntKind.u64.wrap (D : Int) = (D : Int) by rw [IntKind.wrap_u64]; omega, show (0 : Int) = ((0 : Nat) : Int) from rfl, u64_or_nat _ _ (by omega) (by omega), Nat.zero_or]
    simp at hdn
    omega
  · rw [show IntKind.u64.wrap ((D : Int) * 2 ^ (32 * (0 + 1))) = ((D * 4294967296 : Nat) : Int) by rw [IntKind.wrap_u64]; simp; omega]
    have h1 : ((U : Int) % 4294967296 ^ (0 + 1)) = ((U % 4294967296 : Nat) : Int) := by simp
    rw [h1, u64_or_nat _ _ (by omega) (by omega), Nat.or_comm, nat_join 32 (D * 4294967296) (U % 4294967296) (by omega) (by omega)]
    simp at hdn
    rw [show (4294967296 : Nat) ^ (0 + 1 + 1) = 18446744073709551616 from rfl]
    omega
  · omega
/-- What holds at the head of each round. -/
def SmRel (w : World) (U K : Nat) (mag i : Value) (wr : World) : Prop := ∃ j : Nat, j ≤ K ∧ i = .int .i64 (j : Int) ∧ mag = .int .u64 ((U % 4294967296 ^ j : Nat) : Int) ∧ wr = w
/-- The word as a number of 64 bits, with its sign: it has that sign just if there is room for it. -/
theorem sm_math (n : Bool) (z : Int) (U : Nat) (hU : U < 18446744073709551616) (hz : z = sgz n U) :
    ∃ V0 V : Int, IntKind.i64.wrap (U : Int) = V0 ∧ (n = true → wrap64 (-V0) = V) ∧ (n = false → V0 = V) ∧ (smOk z = true → cmpI V 0 = z.sign ∧ V = z) ∧ (smOk z = false → cmpI V 0 ≠ z.sign) := by
  refine ⟨IntKind.i64.wrap (U : Int), if n then wrap64 (-(IntKind.i64.wrap (U : Int))) else IntKind.i64.wrap (U : Int), rfl, fun h => by rw [h]; rfl, fun h => by rw [h]; rfl, ?_, ?_⟩
  all_goals
    rw [IntKind.wrap_i64]
    unfold smOk wrap64
    rw [cmpI_sign, hz]
    unfold sgz
    cases n
    · simp only [Bool.false_eq_true, if_false, decide_eq_true_eq, decide_eq_false_iff_not, Int.sub_zero]
      intro h
      first
        | (have e : ((U : Int) + 9223372036854775808) % 18446744073709551616 - 9223372036854775808 = U := by omega
           rw [e]; exact ⟨rfl, rfl⟩)
        | (rw [Int.sign_eq_neg_one_of_neg (show ((U : Int) + 9223372036854775808) % 18446744073709551616 - 9223372036854775808 < 0 by omega), Int.sign_eq_one_of_pos (show (0 : Int) < U by omega)]; decide)
    · simp only [if_true, decide_eq_true_eq, decide_eq_false_iff_not, Int.sub_zero]
      intro h
      first
        | (have e : (-(((U : Int) + 9223372036854775808) % 18446744073709551616 - 9223372036854775808) + 9223372036854775808) % 18446744073709551616 - 9223372036854775808 = -(U : Int) := by omega
           rw [e]; exact ⟨rfl, rfl⟩)
        | (rw [Int.sign_eq_one_of_pos (show 0 < (-(((U : Int) + 9223372036854775808) % 18446744073709551616 - 9223372036854775808) + 9223372036854775808) % 18446744073709551616 - 9223372036854775808 by omega), Int.sign_eq_neg_one_of_neg (show -(U : Int) < 0 by omega)]; decide)
set_option maxRecDepth 100000 in
set_option maxHeartbeats 8000000 in
theorem wSmall (n : Bool) (a : Option Addr) (la ca : Nat) (z : Int) (w : World) (ha : WI w n a la ca z) {v : Int} {ok : Bool} (hv : v = smV z) (hok : ok = smOk z) :
    Calls Tryd.prog 26 #[.agg #[.bool n, .slice a la ca]] w fun e w' => e = .returned (.tuple #[.int .i64 v, .bool ok]) ∧ Below w.heap.size w w' := by
  have B0 : Below w.heap.size w (w.alloc (.cells #[.bool n, .slice a la ca] 25)) := (Below.refl _ _).alloc (Nat.le_refl _) _
  have x0 := bx_new w (.bool n) (.slice a la ca) 25
  have na := ha.ni.below B0
  obtain ⟨k, hk⟩ : ∃ k, k = bt.nlen z.natAbs := ⟨_, rfl⟩
  have HK : Hid _ := hk
  by_cases h64 : 64 < k
  · have hbig : 18446744073709551616 ≤ z.natAbs := bt_more (by rw [← hk]; exact h64)
    have hno : smOk z = false := by unfold smOk; simp; omega
    obtain rfl : ok = false := by rw [hok, hno]
    obtain rfl : v = 0 := by rw [hv]; unfold smV; rw [hno]; rfl
    have h64' : (64 : Int) < k := by omega
    clear hk hv hok
    go_enter Tryd.func26, Tryd.ntmps26
    go_wp2_with (go_at_call 53; refine (nBits a la ca _ _ na HK.out).mono ?_; rintro e w' ⟨rfl, hw⟩; subst hw)
    go_ret2
    exact ⟨rfl, B0⟩
  · have hU : z.natAbs < 18446744073709551616 := bt_less (by rw [← hk]; omega)
    have h64' : ¬ (64 : Int) < k := by omega
    obtain ⟨U, hUe⟩ : ∃ U, U = z.natAbs := ⟨_, rfl⟩
    have hl := ha.ni.lt
    have hs := na.sl
    have hz := ha.is
    rw [← hUe] at hU hl hs hz
    obtain ⟨V0, V, hV0, hVn, hVp, hyes, hno⟩ := sm_math n z U hU hz
    obtain ⟨sz, hsz⟩ : ∃ sz, sz = z.sign := ⟨_, rfl⟩
    have HS : Hid _ := hsz
    have hcap := hs.big
    have hroom := hs.room
    unfold maxLen at hcap
    obtain ⟨K, hK⟩ : ∃ K, K = min la 2 := ⟨_, rfl⟩
    have hmin : min (la : Int) 2 = (K : Int) := by omega
    have hmax : max (K : Int) 0 = (K : Int) := by omega
    have hK2 : K ≤ 2 := by omega
    have hKl : K ≤ la := by omega
    have HUK : Hid (U % 4294967296 ^ K = U) := by
      refine Nat.mod_eq_of_lt ?_
      rcases Nat.lt_or_ge la 2 with h | h
      · rw [hK, Nat.min_eq_left (by omega)]; exact hl
      · rw [hK, Nat.min_eq_right h]; exact hU
    obtain ⟨g, hg⟩ : ∃ g, g = cmpI V 0 := ⟨_, rfl⟩
    have HG : Hid _ := hg.symm
    have hdo : (ok = true ∧ g = sz ∧ v = V) ∨ (ok = false ∧ ¬ g = sz ∧ v = 0) := by
      rw [hg, hsz]
      cases hb : smOk z with
      | false => exact Or.inr ⟨by rw [hok, hb], hno hb, by rw [hv]; unfold smV; rw [hb]; rfl⟩
      | true => exact Or.inl ⟨by rw [hok, hb], (hyes hb).1, by rw [hv, (hyes hb).2]; unfold smV; rw [hb]; rfl⟩
    have hz0' := hz
    have hv0 := hv
    have hok0 := hok
    clear hk hUe hz hsz hg hv hok hyes hno
    rcases Nat.eq_zero_or_pos la with h0 | h0
    · obtain rfl : K = 0 := by omega
      subst h0
      obtain rfl : U = 0 := by simpa using hl
      have hz0 : z = 0 := by rw [hz0']; unfold sgz; split <;> rfl
      have HS0 : Hid ((0 : Int) = z.sign) := by unfold Hid; rw [hz0]; rfl
      have HG0 : Hid (cmpI 0 0 = 0) := by unfold Hid cmpI; simp
      obtain rfl : v = 0 := by rw [hv0, hz0]; rfl
      obtain rfl : ok = true := by rw [hok0, hz0]; rfl
      clear hK HUK hs hdo HG HS hV0 hVn hVp hz0 hz0' hv0 hok0
      cases a with
      | none =>
        cases n
        · skip
          go_enter Tryd.func26, Tryd.ntmps26
          go_wp2_with (go_at_call 53; refine (nBits _ _ ca _ _ na HK.out).mono ?_; rintro e w' ⟨rfl, hw⟩; subst hw)
          go_loopw [4, 20] (fun mag i wr => SmRel (w.alloc (.cells #[.bool false, .slice none 0 ca] 25)) 0 0 mag i wr) (fun _ i _ => 0 - (intOf i).toNat)
          case atStart => exact ⟨0, by omega, rfl, by simp, rfl⟩
          case round =>
            obtain ⟨j, hj, rfl, rfl, rfl⟩ := hrel
            obtain rfl : j = 0 := by omega
            rw [Nat.zero_mod]
            have x0 := x0
            obtain ⟨k0, k1, k2, k3⟩ := x0
            have x0 : Bx _ _ _ _ := ⟨k0, k1, k2, k3⟩
            go_wp2
            refine wp_region_held_drew (S := (fun w' => w'.cell? ⟨w.heap.size, 0, none⟩ = some (.bool false) ∧ w'.cell? ⟨w.heap.size, 1, none⟩ = some (.slice none 0 ca) ∧ Below w.heap.size w w')) (by kernel_rfl) ?_ (fun hHeld => ?_)
            · first | exact keepB1 hHeld b6 | exact hHeld | exact ⟨x0.c0, x0.c1, B0.drew⟩
            refine take_yes (i := 0) (v := ?va0) rfl (by kernel_rfl) (by kernel_rfl) (by kernel_rfl) (fun _ _ _ h => h) (by rfl) (by assumption) ?hya0 ?resta0
            case hya0 => (intro w hSw; (try dsimp only at hSw); first | (go_simp; done) | (go_simp; with_reducible rfl))
            simp only [Act.put, List.setIfInBounds_toArray, List.set_cons_zero, List.set_cons_succ]
            refine take_yes (i := 2) (v := ?va2) rfl (by kernel_rfl) (by kernel_rfl) (by kernel_rfl) (fun _ _ _ h => h) (by rfl) (by assumption) ?hya2 ?resta2
            case hya2 => (intro w hSw; (try dsimp only at hSw); first | (go_simp; done) | (go_simp; with_reducible rfl))
            simp only [Act.put, List.setIfInBounds_toArray, List.set_cons_zero, List.set_cons_succ]
            refine take_call (i := 1) rfl (by kernel_rfl) (fun K hK => ?_)
            go_simp
            (go_at_call 54; refine (cmpLong_any 0 0 _).mono ?_; rw [HG0.out]; rintro e w5 ⟨rfl, hw⟩; subst hw; have b5 := Below.refl (World.heap (World.drew (w.alloc (.cells #[.bool false, .slice none 0 ca] 25)))).size (World.drew (w.alloc (.cells #[.bool false, .slice none 0 ca] 25))))
            refine hK.out _ _ ?_ (fun hHeld => ?_)
            · first | exact keepB1 hHeld b6 | exact hHeld | exact ⟨x0.c0, x0.c1, B0.drew⟩
            clear hK K
            refine take_call (i := 3) rfl (by kernel_rfl) (fun K hK => ?_)
            go_simp
            (go_at_call 24; refine (wSign false none 0 ca z _ (ha.below hHeld.2.2) HS0.out).mono ?_; rintro e w6 ⟨rfl, b6⟩)
            refine hK.out _ _ ?_ (fun hHeld => ?_)
            · first | exact keepB1 hHeld b6 | exact hHeld | exact ⟨x0.c0, x0.c1, B0.drew⟩
            clear hK K
            refine take_yes (i := 4) (v := ?va4) rfl (by kernel_rfl) (by kernel_rfl) (by kernel_rfl) (fun _ _ _ h => h) (by rfl) (by assumption) ?hya4 ?resta4
            case hya4 => (intro w hSw; (try dsimp only at hSw); first | (go_simp; done) | (go_simp; with_reducible rfl))
            simp only [Act.put, List.setIfInBounds_toArray, List.set_cons_zero, List.set_cons_succ]
            refine wpAnyH_done (by kernel_rfl) ?_ _
            go_wp2
            go_ret2
            exact ⟨rfl, also B0.drew b6⟩
        · skip
          go_enter Tryd.func26, Tryd.ntmps26
          go_wp2_with (go_at_call 53; refine (nBits _ _ ca _ _ na HK.out).mono ?_; rintro e w' ⟨rfl, hw⟩; subst hw)
          go_loopw [4, 20] (fun mag i wr => SmRel (w.alloc (.cells #[.bool true, .slice none 0 ca] 25)) 0 0 mag i wr) (fun _ i _ => 0 - (intOf i).toNat)
          case atStart => exact ⟨0, by omega, rfl, by simp, rfl⟩
          case round =>
            obtain ⟨j, hj, rfl, rfl, rfl⟩ := hrel
            obtain rfl : j = 0 := by omega
            rw [Nat.zero_mod]
            have x0 := x0
            obtain ⟨k0, k1, k2, k3⟩ := x0
            have x0 : Bx _ _ _ _ := ⟨k0, k1, k2, k3⟩
            go_wp2
            refine wp_region_held_drew (S := (fun w' => w'.cell? ⟨w.heap.size, 0, none⟩ = some (.bool true) ∧ w'.cell? ⟨w.heap.size, 1, none⟩ = some (.slice none 0 ca) ∧ Below w.heap.size w w')) (by kernel_rfl) ?_ (fun hHeld => ?_)
            · first | exact keepB1 hHeld b6 | exact hHeld | exact ⟨x0.c0, x0.c1, B0.drew⟩
            refine take_yes (i := 0) (v := ?vb0) rfl (by kernel_rfl) (by kernel_rfl) (by kernel_rfl) (fun _ _ _ h => h) (by rfl) (by assumption) ?hyb0 ?restb0
            case hyb0 => (intro w hSw; (try dsimp only at hSw); first | (go_simp; done) | (go_simp; with_reducible rfl))
            simp only [Act.put, List.setIfInBounds_toArray, List.set_cons_zero, List.set_cons_succ]
            refine take_yes (i := 2) (v := ?vb2) rfl (by kernel_rfl) (by kernel_rfl) (by kernel_rfl) (fun _ _ _ h => h) (by rfl) (by assumption) ?hyb2 ?restb2
            case hyb2 => (intro w hSw; (try dsimp only at hSw); first | (go_simp; done) | (go_simp; with_reducible rfl))
            simp only [Act.put, List.setIfInBounds_toArray, List.set_cons_zero, List.set_cons_succ]
            refine take_call (i := 1) rfl (by kernel_rfl) (fun K hK => ?_)
            go_simp
            (go_at_call 54; refine (cmpLong_any 0 0 _).mono ?_; rw [HG0.out]; rintro e w5 ⟨rfl, hw⟩; subst hw; have b5 := Below.refl (World.heap (World.drew (w.alloc (.cells #[.bool true, .slice none 0 ca] 25)))).size (World.drew (w.alloc (.cells #[.bool true, .slice none 0 ca] 25))))
            refine hK.out _ _ ?_ (fun hHeld => ?_)
            · first | exact keepB1 hHeld b6 | exact hHeld | exact ⟨x0.c0, x0.c1, B0.drew⟩
            clear hK K
            refine take_call (i := 3) rfl (by kernel_rfl) (fun K hK => ?_)
            go_simp
            (go_at_call 24; refine (wSign true none 0 ca z _ (ha.below hHeld.2.2) HS0.out).mono ?_; rintro e w6 ⟨rfl, b6⟩)
            refine hK.out _ _ ?_ (fun hHeld => ?_)
            · first | exact keepB1 hHeld b6 | exact hHeld | exact ⟨x0.c0, x0.c1, B0.drew⟩
            clear hK K
            refine take_yes (i := 4) (v := ?vb4) rfl (by kernel_rfl) (by kernel_rfl) (by kernel_rfl) (fun _ _ _ h => h) (by rfl) (by assumption) ?hyb4 ?restb4
            case hyb4 => (intro w hSw; (try dsimp only at hSw); first | (go_simp; done) | (go_simp; with_reducible rfl))
            simp only [Act.put, List.setIfInBounds_toArray, List.set_cons_zero, List.set_cons_succ]
            refine wpAnyH_done (by kernel_rfl) ?_ _
            go_wp2
            go_ret2
            exact ⟨rfl, also B0.drew b6⟩
      | some ad =>
        cases n
        · skip
          go_enter Tryd.func26, Tryd.ntmps26
          go_wp2_with (go_at_call 53; refine (nBits _ _ ca _ _ na HK.out).mono ?_; rintro e w' ⟨rfl, hw⟩; subst hw)
          go_loopw [4, 20] (fun mag i wr => SmRel (w.alloc (.cells #[.bool false, .slice (some ad) 0 ca] 25)) 0 0 mag i wr) (fun _ i _ => 0 - (intOf i).toNat)
          case atStart => exact ⟨0, by omega, rfl, by simp, rfl⟩
          case round =>
            obtain ⟨j, hj, rfl, rfl, rfl⟩ := hrel
            obtain rfl : j = 0 := by omega
            rw [Nat.zero_mod]
            have x0 := x0
            obtain ⟨k0, k1, k2, k3⟩ := x0
            have x0 : Bx _ _ _ _ := ⟨k0, k1, k2, k3⟩
            go_wp2
            refine wp_region_held_drew (S := (fun w' => w'.cell? ⟨w.heap.size, 0, none⟩ = some (.bool false) ∧ w'.cell? ⟨w.heap.size, 1, none⟩ = some (.slice (some ad) 0 ca) ∧ Below w.heap.size w w')) (by kernel_rfl) ?_ (fun hHeld => ?_)
            · first | exact keepB1 hHeld b6 | exact hHeld | exact ⟨x0.c0, x0.c1, B0.drew⟩
            refine take_yes (i := 0) (v := ?vc0) rfl (by kernel_rfl) (by kernel_rfl) (by kernel_rfl) (fun _ _ _ h => h) (by rfl) (by assumption) ?hyc0 ?restc0
            case hyc0 => (intro w hSw; (try dsimp only at hSw); first | (go_simp; done) | (go_simp; with_reducible rfl))
            simp only [Act.put, List.setIfInBounds_toArray, List.set_cons_zero, List.set_cons_succ]
            refine take_yes (i := 2) (v := ?vc2) rfl (by kernel_rfl) (by kernel_rfl) (by kernel_rfl) (fun _ _ _ h => h) (by rfl) (by assumption) ?hyc2 ?restc2
            case hyc2 => (intro w hSw; (try dsimp only at hSw); first | (go_simp; done) | (go_simp; with_reducible rfl))
            simp only [Act.put, List.setIfInBounds_toArray, List.set_cons_zero, List.set_cons_succ]
            refine take_call (i := 1) rfl (by kernel_rfl) (fun K hK => ?_)
            go_simp
            (go_at_call 54; refine (cmpLong_any 0 0 _).mono ?_; rw [HG0.out]; rintro e w5 ⟨rfl, hw⟩; subst hw; have b5 := Below.refl (World.heap (World.drew (w.alloc (.cells #[.bool false, .slice (some ad) 0 ca] 25)))).size (World.drew (w.alloc (.cells #[.bool false, .slice (some ad) 0 ca] 25))))
            refine hK.out _ _ ?_ (fun hHeld => ?_)
            · first | exact keepB1 hHeld b6 | exact hHeld | exact ⟨x0.c0, x0.c1, B0.drew⟩
            clear hK K
            refine take_call (i := 3) rfl (by kernel_rfl) (fun K hK => ?_)
            go_simp
            (go_at_call 24; refine (wSign false (some ad) 0 ca z _ (ha.below hHeld.2.2) HS0.out).mono ?_; rintro e w6 ⟨rfl, b6⟩)
            refine hK.out _ _ ?_ (fun hHeld => ?_)
            · first | exact keepB1 hHeld b6 | exact hHeld | exact ⟨x0.c0, x0.c1, B0.drew⟩
            clear hK K
            refine take_yes (i := 4) (v := ?vc4) rfl (by kernel_rfl) (by kernel_rfl) (by kernel_rfl) (fun _ _ _ h => h) (by rfl) (by assumption) ?hyc4 ?restc4
            case hyc4 => (intro w hSw; (try dsimp only at hSw); first | (go_simp; done) | (go_simp; with_reducible rfl))
            simp only [Act.put, List.setIfInBounds_toArray, List.set_cons_zero, List.set_cons_succ]
            refine wpAnyH_done (by kernel_rfl) ?_ _
            go_wp2
            go_ret2
            exact ⟨rfl, also B0.drew b6⟩
        · skip
          go_enter Tryd.func26, Tryd.ntmps26
          go_wp2_with (go_at_call 53; refine (nBits _ _ ca _ _ na HK.out).mono ?_; rintro e w' ⟨rfl, hw⟩; subst hw)
          go_loopw [4, 20] (fun mag i wr => SmRel (w.alloc (.cells #[.bool true, .slice (some ad) 0 ca] 25)) 0 0 mag i wr) (fun _ i _ => 0 - (intOf i).toNat)
          case atStart => exact ⟨0, by omega, rfl, by simp, rfl⟩
          case round =>
            obtain ⟨j, hj, rfl, rfl, rfl⟩ := hrel
            obtain rfl : j = 0 := by omega
            rw [Nat.zero_mod]
            have x0 := x0
            obtain ⟨k0, k1, k2, k3⟩ := x0
            have x0 : Bx _ _ _ _ := ⟨k0, k1, k2, k3⟩
            go_wp2
            refine wp_region_held_drew (S := (fun w' => w'.cell? ⟨w.heap.size, 0, none⟩ = some (.bool true) ∧ w'.cell? ⟨w.heap.size, 1, none⟩ = some (.slice (some ad) 0 ca) ∧ Below w.heap.size w w')) (by kernel_rfl) ?_ (fun hHeld => ?_)
            · first | exact keepB1 hHeld b6 | exact hHeld | exact ⟨x0.c0, x0.c1, B0.drew⟩
            refine take_yes (i := 0) (v := ?vd0) rfl (by kernel_rfl) (by kernel_rfl) (by kernel_rfl) (fun _ _ _ h => h) (by rfl) (by assumption) ?hyd0 ?restd0
            case hyd0 => (intro w hSw; (try dsimp only at hSw); first | (go_simp; done) | (go_simp; with_reducible rfl))
            simp only [Act.put, List.setIfInBounds_toArray, List.set_cons_zero, List.set_cons_succ]
            refine take_yes (i := 2) (v := ?vd2) rfl (by kernel_rfl) (by kernel_rfl) (by kernel_rfl) (fun _ _ _ h => h) (by rfl) (by assumption) ?hyd2 ?restd2
            case hyd2 => (intro w hSw; (try dsimp only at hSw); first | (go_simp; done) | (go_simp; with_reducible rfl))
            simp only [Act.put, List.setIfInBounds_toArray, List.set_cons_zero, List.set_cons_succ]
            refine take_call (i := 1) rfl (by kernel_rfl) (fun K hK => ?_)
            go_simp
            (go_at_call 54; refine (cmpLong_any 0 0 _).mono ?_; rw [HG0.out]; rintro e w5 ⟨rfl, hw⟩; subst hw; have b5 := Below.refl (World.heap (World.drew (w.alloc (.cells #[.bool true, .slice (some ad) 0 ca] 25)))).size (World.drew (w.alloc (.cells #[.bool true, .slice (some ad) 0 ca] 25))))
            refine hK.out _ _ ?_ (fun hHeld => ?_)
            · first | exact keepB1 hHeld b6 | exact hHeld | exact ⟨x0.c0, x0.c1, B0.drew⟩
            clear hK K
            refine take_call (i := 3) rfl (by kernel_rfl) (fun K hK => ?_)
            go_simp
            (go_at_call 24; refine (wSign true (some ad) 0 ca z _ (ha.below hHeld.2.2) HS0.out).mono ?_; rintro e w6 ⟨rfl, b6⟩)
            refine hK.out _ _ ?_ (fun hHeld => ?_)
            · first | exact keepB1 hHeld b6 | exact hHeld | exact ⟨x0.c0, x0.c1, B0.drew⟩
            clear hK K
            refine take_yes (i := 4) (v := ?vd4) rfl (by kernel_rfl) (by kernel_rfl) (by kernel_rfl) (fun _ _ _ h => h) (by rfl) (by assumption) ?hyd4 ?restd4
            case hyd4 => (intro w hSw; (try dsimp only at hSw); first | (go_simp; done) | (go_simp; with_reducible rfl))
            simp only [Act.put, List.setIfInBounds_toArray, List.set_cons_zero, List.set_cons_succ]
            refine wpAnyH_done (by kernel_rfl) ?_ _
            go_wp2
            go_ret2
            exact ⟨rfl, also B0.drew b6⟩
    · obtain ⟨b, o, rfl, hb, hseg⟩ := hs.at h0
      clear hK hz0' hv0 hok0
      cases n
      · obtain rfl : V = V0 := (hVp rfl).symm
        rcases hdo with ⟨rfl, rfl, hvv⟩ | ⟨rfl, hne, rfl⟩
        · obtain rfl := hvv.symm
          go_enter Tryd.func26, Tryd.ntmps26
          go_wp2_with (go_at_call 53; refine (nBits _ _ ca _ _ na HK.out).mono ?_; rintro e w' ⟨rfl, hw⟩; subst hw)
          go_loopw [4, 20] (fun mag i wr => SmRel (w.alloc (.cells #[.bool false, .slice (some ⟨b, o, none⟩) la ca] 25)) U K mag i wr) (fun _ i _ => K - (intOf i).toNat)
          case atStart => exact ⟨0, by omega, rfl, by simp, rfl⟩
          case round =>
            obtain ⟨j, hj, rfl, rfl, rfl⟩ := hrel
            by_cases hlt : j < K
            · have c1 : (w.alloc (.cells #[.bool false, .slice (some ⟨b, o, none⟩) la ca] 25)).cell? ⟨b, o + j, none⟩ = some (.int .u32 (wd.dg U j)) := hseg.cell j _ (wd.dcells_at _ _ _ (by omega))
              obtain ⟨d0, d1⟩ := wd.dg_range U j
              have hlt' : (j : Int) < K := by omega
              have hlt2 : (j : Int) < la := by omega
              have HST : Hid _ := sm_step U j (by omega)
              go_wp2
              go_roundw
              case rel => exact ⟨j + 1, by omega, by simp, by rw [← HST.out], rfl⟩
              case measure => simp [intOf]; omega
            · obtain rfl : j = K := by omega
              have hlt' : ¬ (j : Int) < j := by omega
              rw [HUK.out]
              clear hseg hb HUK hmin hmax
              have x0 := x0
              obtain ⟨k0, k1, k2, k3⟩ := x0
              have x0 : Bx _ _ _ _ := ⟨k0, k1, k2, k3⟩
              go_wp2
              refine wp_region_held_drew (S := (fun w' => w'.cell? ⟨w.heap.size, 0, none⟩ = some (.bool false) ∧ w'.cell? ⟨w.heap.size, 1, none⟩ = some (.slice (some ⟨b, o, none⟩) la ca) ∧ Below w.heap.size w w')) (by kernel_rfl) ?_ (fun hHeld => ?_)
              · first | exact keepB1 hHeld b6 | exact hHeld | exact ⟨x0.c0, x0.c1, B0.drew⟩
              refine take_yes (i := 0) (v := ?vey0) rfl (by kernel_rfl) (by kernel_rfl) (by kernel_rfl) (fun _ _ _ h => h) (by rfl) (by assumption) ?hyey0 ?restey0
              case hyey0 => (intro w hSw; (try dsimp only at hSw); first | (go_simp; done) | (go_simp; with_reducible rfl))
              simp only [Act.put, List.setIfInBounds_toArray, List.set_cons_zero, List.set_cons_succ]
              refine take_yes (i := 2) (v := ?vey2) rfl (by kernel_rfl) (by kernel_rfl) (by kernel_rfl) (fun _ _ _ h => h) (by rfl) (by assumption) ?hyey2 ?restey2
              case hyey2 => (intro w hSw; (try dsimp only at hSw); first | (go_simp; done) | (go_simp; with_reducible rfl))
              simp only [Act.put, List.setIfInBounds_toArray, List.set_cons_zero, List.set_cons_succ]
              refine take_call (i := 1) rfl (by kernel_rfl) (fun K hK => ?_)
              go_simp
              (go_at_call 54; refine (cmpLong_any V 0 _).mono ?_; rw [HG.out]; rintro e w5 ⟨rfl, hw⟩; subst hw; have b5 := Below.refl (World.heap (World.drew (w.alloc (.cells #[.bool false, .slice (some ⟨b, o, none⟩) la ca] 25)))).size (World.drew (w.alloc (.cells #[.bool false, .slice (some ⟨b, o, none⟩) la ca] 25))))
              refine hK.out _ _ ?_ (fun hHeld => ?_)
              · first | exact keepB1 hHeld b6 | exact hHeld | exact ⟨x0.c0, x0.c1, B0.drew⟩
              clear hK K
              refine take_call (i := 3) rfl (by kernel_rfl) (fun K hK => ?_)
              go_simp
              (go_at_call 24; refine (wSign false (some ⟨b, o, none⟩) la ca z _ (ha.below hHeld.2.2) HS.out).mono ?_; rintro e w6 ⟨rfl, b6⟩)
              refine hK.out _ _ ?_ (fun hHeld => ?_)
              · first | exact keepB1 hHeld b6 | exact hHeld | exact ⟨x0.c0, x0.c1, B0.drew⟩
              clear hK K
              refine take_yes (i := 4) (v := ?vey4) rfl (by kernel_rfl) (by kernel_rfl) (by kernel_rfl) (fun _ _ _ h => h) (by rfl) (by assumption) ?hyey4 ?restey4
              case hyey4 => (intro w hSw; (try dsimp only at hSw); first | (go_simp; done) | (go_simp; with_reducible rfl))
              simp only [Act.put, List.setIfInBounds_toArray, List.set_cons_zero, List.set_cons_succ]
              refine wpAnyH_done (by kernel_rfl) ?_ _
              go_wp2
              go_ret2
              exact ⟨rfl, also B0.drew b6⟩
        · have hne' : (g == sz) = false := by simpa using hne
          have hne'' : decide (g = sz) = false := by simpa using hne
          go_enter Tryd.func26, Tryd.ntmps26
          go_wp2_with (go_at_call 53; refine (nBits _ _ ca _ _ na HK.out).mono ?_; rintro e w' ⟨rfl, hw⟩; subst hw)
          go_loopw [4, 20] (fun mag i wr => SmRel (w.alloc (.cells #[.bool false, .slice (some ⟨b, o, none⟩) la ca] 25)) U K mag i wr) (fun _ i _ => K - (intOf i).toNat)
          case atStart => exact ⟨0, by omega, rfl, by simp, rfl⟩
          case round =>
            obtain ⟨j, hj, rfl, rfl, rfl⟩ := hrel
            by_cases hlt : j < K
            · have c1 : (w.alloc (.cells #[.bool false, .slice (some ⟨b, o, none⟩) la ca] 25)).cell? ⟨b, o + j, none⟩ = some (.int .u32 (wd.dg U j)) := hseg.cell j _ (wd.dcells_at _ _ _ (by omega))
              obtain ⟨d0, d1⟩ := wd.dg_range U j
              have hlt' : (j : Int) < K := by omega
              have hlt2 : (j : Int) < la := by omega
              have HST : Hid _ := sm_step U j (by omega)
              go_wp2
              go_roundw
              case rel => exact ⟨j + 1, by omega, by simp, by rw [← HST.out], rfl⟩
              case measure => simp [intOf]; omega
            · obtain rfl : j = K := by omega
              have hlt' : ¬ (j : Int) < j := by omega
              rw [HUK.out]
              clear hseg hb HUK hmin hmax
              have x0 := x0
              obtain ⟨k0, k1, k2, k3⟩ := x0
              have x0 : Bx _ _ _ _ := ⟨k0, k1, k2, k3⟩
              go_wp2
              refine wp_region_held_drew (S := (fun w' => w'.cell? ⟨w.heap.size, 0, none⟩ = some (.bool false) ∧ w'.cell? ⟨w.heap.size, 1, none⟩ = some (.slice (some ⟨b, o, none⟩) la ca) ∧ Below w.heap.size w w')) (by kernel_rfl) ?_ (fun hHeld => ?_)
              · first | exact keepB1 hHeld b6 | exact hHeld | exact ⟨x0.c0, x0.c1, B0.drew⟩
              refine take_yes (i := 0) (v := ?ven0) rfl (by kernel_rfl) (by kernel_rfl) (by kernel_rfl) (fun _ _ _ h => h) (by rfl) (by assumption) ?hyen0 ?resten0
              case hyen0 => (intro w hSw; (try dsimp only at hSw); first | (go_simp; done) | (go_simp; with_reducible rfl))
              simp only [Act.put, List.setIfInBounds_toArray, List.set_cons_zero, List.set_cons_succ]
              refine take_yes (i := 2) (v := ?ven2) rfl (by kernel_rfl) (by kernel_rfl) (by kernel_rfl) (fun _ _ _ h => h) (by rfl) (by assumption) ?hyen2 ?resten2
              case hyen2 => (intro w hSw; (try dsimp only at hSw); first | (go_simp; done) | (go_simp; with_reducible rfl))
              simp only [Act.put, List.setIfInBounds_toArray, List.set_cons_zero, List.set_cons_succ]
              refine take_call (i := 1) rfl (by kernel_rfl) (fun K hK => ?_)
              go_simp
              (go_at_call 54; refine (cmpLong_any V 0 _).mono ?_; rw [HG.out]; rintro e w5 ⟨rfl, hw⟩; subst hw; have b5 := Below.refl (World.heap (World.drew (w.alloc (.cells #[.bool false, .slice (some ⟨b, o, none⟩) la ca] 25)))).size (World.drew (w.alloc (.cells #[.bool false, .slice (some ⟨b, o, none⟩) la ca] 25))))
              refine hK.out _ _ ?_ (fun hHeld => ?_)
              · first | exact keepB1 hHeld b6 | exact hHeld | exact ⟨x0.c0, x0.c1, B0.drew⟩
              clear hK K
              refine take_call (i := 3) rfl (by kernel_rfl) (fun K hK => ?_)
              go_simp
              (go_at_call 24; refine (wSign false (some ⟨b, o, none⟩) la ca z _ (ha.below hHeld.2.2) HS.out).mono ?_; rintro e w6 ⟨rfl, b6⟩)
              refine hK.out _ _ ?_ (fun hHeld => ?_)
              · first | exact keepB1 hHeld b6 | exact hHeld | exact ⟨x0.c0, x0.c1, B0.drew⟩
              clear hK K
              refine take_yes (i := 4) (v := ?ven4) rfl (by kernel_rfl) (by kernel_rfl) (by kernel_rfl) (fun _ _ _ h => h) (by rfl) (by assumption) ?hyen4 ?resten4
              case hyen4 => (intro w hSw; (try dsimp only at hSw); first | (go_simp; done) | (go_simp; with_reducible rfl))
              simp only [Act.put, List.setIfInBounds_toArray, List.set_cons_zero, List.set_cons_succ]
              refine wpAnyH_done (by kernel_rfl) ?_ _
              go_wp2
              go_ret2
              exact ⟨rfl, also B0.drew b6⟩
      · have hVn := hVn rfl
        rcases hdo with ⟨rfl, rfl, hvv⟩ | ⟨rfl, hne, rfl⟩
        · obtain rfl := hvv.symm
          go_enter Tryd.func26, Tryd.ntmps26
          go_wp2_with (go_at_call 53; refine (nBits _ _ ca _ _ na HK.out).mono ?_; rintro e w' ⟨rfl, hw⟩; subst hw)
          go_loopw [4, 20] (fun mag i wr => SmRel (w.alloc (.cells #[.bool true, .slice (some ⟨b, o, none⟩) la ca] 25)) U K mag i wr) (fun _ i _ => K - (intOf i).toNat)
          case atStart => exact ⟨0, by omega, rfl, by simp, rfl⟩
          case round =>
            obtain ⟨j, hj, rfl, rfl, rfl⟩ := hrel
            by_cases hlt : j < K
            · have c1 : (w.alloc (.cells #[.bool true, .slice (some ⟨b, o, none⟩) la ca] 25)).cell? ⟨b, o + j, none⟩ = some (.int .u32 (wd.dg U j)) := hseg.cell j _ (wd.dcells_at _ _ _ (by omega))
              obtain ⟨d0, d1⟩ := wd.dg_range U j
              have hlt' : (j : Int) < K := by omega
              have hlt2 : (j : Int) < la := by omega
              have HST : Hid _ := sm_step U j (by omega)
              go_wp2
              go_roundw
              case rel => exact ⟨j + 1, by omega, by simp, by rw [← HST.out], rfl⟩
              case measure => simp [intOf]; omega
            · obtain rfl : j = K := by omega
              have hlt' : ¬ (j : Int) < j := by omega
              rw [HUK.out]
              clear hseg hb HUK hmin hmax
              have x0 := x0
              obtain ⟨k0, k1, k2, k3⟩ := x0
              have x0 : Bx _ _ _ _ := ⟨k0, k1, k2, k3⟩
              go_wp2
              refine wp_region_held_drew (S := (fun w' => w'.cell? ⟨w.heap.size, 0, none⟩ = some (.bool true) ∧ w'.cell? ⟨w.heap.size, 1, none⟩ = some (.slice (some ⟨b, o, none⟩) la ca) ∧ Below w.heap.size w w')) (by kernel_rfl) ?_ (fun hHeld => ?_)
              · first | exact keepB1 hHeld b6 | exact hHeld | exact ⟨x0.c0, x0.c1, B0.drew⟩
              refine take_yes (i := 0) (v := ?vfy0) rfl (by kernel_rfl) (by kernel_rfl) (by kernel_rfl) (fun _ _ _ h => h) (by rfl) (by assumption) ?hyfy0 ?restfy0
              case hyfy0 => (intro w hSw; (try dsimp only at hSw); first | (go_simp; done) | (go_simp; with_reducible rfl))
              simp only [Act.put, List.setIfInBounds_toArray, List.set_cons_zero, List.set_cons_succ]
              refine take_yes (i := 2) (v := ?vfy2) rfl (by kernel_rfl) (by kernel_rfl) (by kernel_rfl) (fun _ _ _ h => h) (by rfl) (by assumption) ?hyfy2 ?restfy2
              case hyfy2 => (intro w hSw; (try dsimp only at hSw); first | (go_simp; done) | (go_simp; with_reducible rfl))
              simp only [Act.put, List.setIfInBounds_toArray, List.set_cons_zero, List.set_cons_succ]
              refine take_call (i := 1) rfl (by kernel_rfl) (fun K hK => ?_)
              go_simp
              (go_at_call 54; refine (cmpLong_any V 0 _).mono ?_; rw [HG.out]; rintro e w5 ⟨rfl, hw⟩; subst hw; have b5 := Below.refl (World.heap (World.drew (w.alloc (.cells #[.bool true, .slice (some ⟨b, o, none⟩) la ca] 25)))).size (World.drew (w.alloc (.cells #[.bool true, .slice (some ⟨b, o, none⟩) la ca] 25))))
              refine hK.out _ _ ?_ (fun hHeld => ?_)
              · first | exact keepB1 hHeld b6 | exact hHeld | exact ⟨x0.c0, x0.c1, B0.drew⟩
              clear hK K
              refine take_call (i := 3) rfl (by kernel_rfl) (fun K hK => ?_)
              go_simp
              (go_at_call 24; refine (wSign true (some ⟨b, o, none⟩) la ca z _ (ha.below hHeld.2.2) HS.out).mono ?_; rintro e w6 ⟨rfl, b6⟩)
              refine hK.out _ _ ?_ (fun hHeld => ?_)
              · first | exact keepB1 hHeld b6 | exact hHeld | exact ⟨x0.c0, x0.c1, B0.drew⟩
              clear hK K
              refine take_yes (i := 4) (v := ?vfy4) rfl (by kernel_rfl) (by kernel_rfl) (by kernel_rfl) (fun _ _ _ h => h) (by rfl) (by assumption) ?hyfy4 ?restfy4
              case hyfy4 => (intro w hSw; (try dsimp only at hSw); first | (go_simp; done) | (go_simp; with_reducible rfl))
              simp only [Act.put, List.setIfInBounds_toArray, List.set_cons_zero, List.set_cons_succ]
              refine wpAnyH_done (by kernel_rfl) ?_ _
              go_wp2
              go_ret2
              exact ⟨rfl, also B0.drew b6⟩
        · have hne' : (g == sz) = false := by simpa using hne
          have hne'' : decide (g = sz) = false := by simpa using hne
          go_enter Tryd.func26, Tryd.ntmps26
          go_wp2_with (go_at_call 53; refine (nBits _ _ ca _ _ na HK.out).mono ?_; rintro e w' ⟨rfl, hw⟩; subst hw)
          go_loopw [4, 20] (fun mag i wr => SmRel (w.alloc (.cells #[.bool true, .slice (some ⟨b, o, none⟩) la ca] 25)) U K mag i wr) (fun _ i _ => K - (intOf i).toNat)
          case atStart => exact ⟨0, by omega, rfl, by simp, rfl⟩
          case round =>
            obtain ⟨j, hj, rfl, rfl, rfl⟩ := hrel
            by_cases hlt : j < K
            · have c1 : (w.alloc (.cells #[.bool true, .slice (some ⟨b, o, none⟩) la ca] 25)).cell? ⟨b, o + j, none⟩ = some (.int .u32 (wd.dg U j)) := hseg.cell j _ (wd.dcells_at _ _ _ (by omega))
              obtain ⟨d0, d1⟩ := wd.dg_range U j
              have hlt' : (j : Int) < K := by omega
              have hlt2 : (j : Int) < la := by omega
              have HST : Hid _ := sm_step U j (by omega)
              go_wp2
              go_roundw
              case rel => exact ⟨j + 1, by omega, by simp, by rw [← HST.out], rfl⟩
              case measure => simp [intOf]; omega
            · obtain rfl : j = K := by omega
              have hlt' : ¬ (j : Int) < j := by omega
              rw [HUK.out]
              clear hseg hb HUK hmin hmax
              have x0 := x0
              obtain ⟨k0, k1, k2, k3⟩ := x0
              have x0 : Bx _ _ _ _ := ⟨k0, k1, k2, k3⟩
              go_wp2
              refine wp_region_held_drew (S := (fun w' => w'.cell? ⟨w.heap.size, 0, none⟩ = some (.bool true) ∧ w'.cell? ⟨w.heap.size, 1, none⟩ = some (.slice (some ⟨b, o, none⟩) la ca) ∧ Below w.heap.size w w')) (by kernel_rfl) ?_ (fun hHeld => ?_)
              · first | exact keepB1 hHeld b6 | exact hHeld | exact ⟨x0.c0, x0.c1, B0.drew⟩
              refine take_yes (i := 0) (v := ?vfn0) rfl (by kernel_rfl) (by kernel_rfl) (by kernel_rfl) (fun _ _ _ h => h) (by rfl) (by assumption) ?hyfn0 ?restfn0
              case hyfn0 => (intro w hSw; (try dsimp only at hSw); first | (go_simp; done) | (go_simp; with_reducible rfl))
              simp only [Act.put, List.setIfInBounds_toArray, List.set_cons_zero, List.set_cons_succ]
              refine take_yes (i := 2) (v := ?vfn2) rfl (by kernel_rfl) (by kernel_rfl) (by kernel_rfl) (fun _ _ _ h => h) (by rfl) (by assumption) ?hyfn2 ?restfn2
              case hyfn2 => (intro w hSw; (try dsimp only at hSw); first | (go_simp; done) | (go_simp; with_reducible rfl))
              simp only [Act.put, List.setIfInBounds_toArray, List.set_cons_zero, List.set_cons_succ]
              refine take_call (i := 1) rfl (by kernel_rfl) (fun K hK => ?_)
              go_simp
              (go_at_call 54; refine (cmpLong_any V 0 _).mono ?_; rw [HG.out]; rintro e w5 ⟨rfl, hw⟩; subst hw; have b5 := Below.refl (World.heap (World.drew (w.alloc (.cells #[.bool true, .slice (some ⟨b, o, none⟩) la ca] 25)))).size (World.drew (w.alloc (.cells #[.bool true, .slice (some ⟨b, o, none⟩) la ca] 25))))
              refine hK.out _ _ ?_ (fun hHeld => ?_)
              · first | exact keepB1 hHeld b6 | exact hHeld | exact ⟨x0.c0, x0.c1, B0.drew⟩
              clear hK K
              refine take_call (i := 3) rfl (by kernel_rfl) (fun K hK => ?_)
              go_simp
              (go_at_call 24; refine (wSign true (some ⟨b, o, none⟩) la ca z _ (ha.below hHeld.2.2) HS.out).mono ?_; rintro e w6 ⟨rfl, b6⟩)
              refine hK.out _ _ ?_ (fun hHeld => ?_)
              · first | exact keepB1 hHeld b6 | exact hHeld | exact ⟨x0.c0, x0.c1, B0.drew⟩
              clear hK K
              refine take_yes (i := 4) (v := ?vfn4) rfl (by kernel_rfl) (by kernel_rfl) (by kernel_rfl) (fun _ _ _ h => h) (by rfl) (by assumption) ?hyfn4 ?restfn4
              case hyfn4 => (intro w hSw; (try dsimp only at hSw); first | (go_simp; done) | (go_simp; with_reducible rfl))
              simp only [Act.put, List.setIfInBounds_toArray, List.set_cons_zero, List.set_cons_succ]
              refine wpAnyH_done (by kernel_rfl) ?_ _
              go_wp2
              go_ret2
              exact ⟨rfl, also B0.drew b6⟩
end Go.Proofs.YtpkcjgkgabemoaaDoor

namespace Go.Proofs.YtpkcjgkgabemoaaDoor
open Go.RowKit
set_option linter.unusedVariables false

theorem few63 : hf.nlen (9223372036854775807 : Int).natAbs ≤ 1000000 := Nat.le_trans (hf.nlen_le (n := 4) (by decide)) (by decide)
theorem few64 : hf.nlen (-9223372036854775808 : Int).natAbs ≤ 1000000 := Nat.le_trans (hf.nlen_le (n := 4) (by decide)) (by decide)
/-- What holds at the head of each round. -/
def RsRel (W : World) (U l : Nat) (nv i : Value) (wr : World) : Prop := ∃ r : Nat, r ≤ l ∧ i = .int .i64 ((r : Int) - 1) ∧ nv = .int .i64 (-((U / 65536 ^ r : Nat) : Int)) ∧ wr = W
theorem rs_step (U q : Nat) : -((U / 65536 ^ (q + 1) : Nat) : Int) * 65536 - hf.dg (U : Int) q = -((U / 65536 ^ q : Nat) : Int) := by
  rw [hf.dg_nat, Nat.pow_succ, ← Nat.div_div_eq_div_mul]
  omega
set_option maxRecDepth 100000 in
set_option maxHeartbeats 8000000 in
theorem rwSmall (s : Int) (d : Option Addr) (l c : Nat) (z : Int) (w : World) (hd : RN w s d l c z) (fz : hf.nlen z.natAbs ≤ 1000000) {v : Int} {ok : Bool} (hv : v = smV z) (hok : ok = smOk z) :
    Calls Tryd.prog 27 #[.agg #[.int .i64 s, .slice d l c]] w fun e w' => e = .returned (.tuple #[.int .i64 v, .bool ok]) ∧ Below w.heap.size w w' := by
  have B0 : Below w.heap.size w (w.alloc (.cells #[.int .i64 s, .slice d l c] 30)) := (Below.refl _ _).alloc (Nat.le_refl _) _
  have x0 := (bx_new w (.int .i64 s) (.slice d l c) 30).drew
  obtain ⟨g1, hg1⟩ : ∃ g1, g1 = (z - 9223372036854775807).sign := ⟨_, rfl⟩
  obtain ⟨g2, hg2⟩ : ∃ g2, g2 = (z - -9223372036854775808).sign := ⟨_, rfl⟩
  have G1 : Hid _ := hg1
  have G2 : Hid _ := hg2
  by_cases hbig : 9223372036854775807 < z
  · have hno : smOk z = false := by unfold smOk; simp; omega
    obtain rfl : ok = false := by rw [hok, hno]
    obtain rfl : v = 0 := by rw [hv]; unfold smV; rw [hno]; rfl
    have e1 : 0 < g1 := by rw [hg1, sign_pos (by omega)]; decide
    clear hg1 hg2 hv hok
    go_enter Tryd.func27, Tryd.ntmps27
    go_wp2
    refine wp_region_held_drew (S := (fun w' => w'.cell? ⟨w.heap.size, 0, none⟩ = some (.int .i64 s) ∧ w'.cell? ⟨w.heap.size, 1, none⟩ = some (.slice d l c) ∧ Below w.heap.size w w')) (by kernel_rfl) ?_ (fun hHeld => ?_)
    · first | exact keepB1 hHeld bb | exact ⟨x0.c0, x0.c1, B0.drew⟩ | exact hHeld
    refine take_yes (i := 0) (v := ?va0) rfl (by kernel_rfl) (by kernel_rfl) (by kernel_rfl) (fun _ _ _ h => h) (by rfl) (by assumption) ?hya0 ?resta0
    case hya0 => (intro w hSw; (try dsimp only at hSw); first | (go_simp; done) | (go_simp; with_reducible rfl))
    simp only [Act.put, List.setIfInBounds_toArray, List.set_cons_zero, List.set_cons_succ]
    refine take_call (i := 1) rfl (by kernel_rfl) (fun K hK => ?_)
    go_simp
    (go_at_call 31; refine (rwLong 9223372036854775807 _ (by decide) (by decide)).mono ?_; rintro e w1 ⟨s1, d1, l1, c1, rfl, h1, f1, bb⟩; have b1 := bb)
    refine hK.out _ _ ?_ (fun hHeld => ?_)
    · first | exact keepB1 hHeld bb | exact ⟨x0.c0, x0.c1, B0.drew⟩ | exact hHeld
    clear hK K
    refine take_call (i := 2) rfl (by kernel_rfl) (fun K hK => ?_)
    go_simp
    (go_at_call 29; refine (rwCmp s s1 d d1 l c l1 c1 z 9223372036854775807 _ (hd.below hHeld.2.2) h1 fz few63 G1.out).mono ?_; rintro e w2 ⟨rfl, bb⟩; have b2 := bb)
    refine hK.out _ _ ?_ (fun hHeld => ?_)
    · first | exact keepB1 hHeld bb | exact ⟨x0.c0, x0.c1, B0.drew⟩ | exact hHeld
    clear hK K
    refine take_yes (i := 3) (v := ?va3) rfl (by kernel_rfl) (by kernel_rfl) (by kernel_rfl) (fun _ _ _ h => h) (by rfl) (by assumption) ?hya3 ?resta3
    case hya3 => (intro w hSw; (try dsimp only at hSw); first | (go_simp; done) | (go_simp; with_reducible rfl))
    simp only [Act.put, List.setIfInBounds_toArray, List.set_cons_zero, List.set_cons_succ]
    refine take_yes (i := 4) (v := ?va4) rfl (by kernel_rfl) (by kernel_rfl) (by kernel_rfl) (fun _ _ _ h => h) (by rfl) (by assumption) ?hya4 ?resta4
    case hya4 => (intro w hSw; (try dsimp only at hSw); first | (go_simp; done) | (go_simp; with_reducible rfl))
    simp only [Act.put, List.setIfInBounds_toArray, List.set_cons_zero, List.set_cons_succ]
    refine take_no (i := 5) rfl (by kernel_rfl) (by kernel_rfl) (by kernel_rfl) (fun _ _ _ h => h) (by rfl) (by assumption) ?_
    simp only [Act.put, List.setIfInBounds_toArray, List.set_cons_zero, List.set_cons_succ]
    refine take_call (i := 6) rfl (by kernel_rfl) (fun K hK => ?_)
    go_simp
    refine hK.out _ _ ?_ (fun hHeld => ?_)
    · first | exact keepB1 hHeld bb | exact ⟨x0.c0, x0.c1, B0.drew⟩ | exact hHeld
    clear hK K
    refine take_call (i := 7) rfl (by kernel_rfl) (fun K hK => ?_)
    go_simp
    refine hK.out _ _ ?_ (fun hHeld => ?_)
    · first | exact keepB1 hHeld bb | exact ⟨x0.c0, x0.c1, B0.drew⟩ | exact hHeld
    clear hK K
    refine take_no (i := 8) rfl (by kernel_rfl) (by kernel_rfl) (by kernel_rfl) (fun _ _ _ h => h) (by rfl) (by assumption) ?_
    simp only [Act.put, List.setIfInBounds_toArray, List.set_cons_zero, List.set_cons_succ]
    refine take_yes (i := 9) (v := ?va9) rfl (by kernel_rfl) (by kernel_rfl) (by kernel_rfl) (fun _ _ _ h => h) (by rfl) (by assumption) ?hya9 ?resta9
    case hya9 => (intro w hSw; (try dsimp only at hSw); first | (go_simp; done) | (go_simp; with_reducible rfl))
    simp only [Act.put, List.setIfInBounds_toArray, List.set_cons_zero, List.set_cons_succ]
    refine wpAnyH_done (by kernel_rfl) ?_ _
    go_wp2
    go_ret2
    exact ⟨rfl, hHeld.2.2⟩
  · have e1 : ¬ 0 < g1 := by rw [hg1]; rcases sign_cases (z - 9223372036854775807) with ⟨_, e⟩ | ⟨_, e⟩ | ⟨_, e⟩ <;> omega
    have e1' : decide (0 < g1) = false := by simpa using e1
    by_cases hsm : z < -9223372036854775808
    · have hno : smOk z = false := by unfold smOk; simp; omega
      obtain rfl : ok = false := by rw [hok, hno]
      obtain rfl : v = 0 := by rw [hv]; unfold smV; rw [hno]; rfl
      have e2 : g2 < 0 := by rw [hg2, sign_neg (by omega)]; decide
      clear hg1 hg2 hv hok
      go_enter Tryd.func27, Tryd.ntmps27
      go_wp2
      refine wp_region_held_drew (S := (fun w' => w'.cell? ⟨w.heap.size, 0, none⟩ = some (.int .i64 s) ∧ w'.cell? ⟨w.heap.size, 1, none⟩ = some (.slice d l c) ∧ Below w.heap.size w w')) (by kernel_rfl) ?_ (fun hHeld => ?_)
      · first | exact keepB1 hHeld bb | exact ⟨x0.c0, x0.c1, B0.drew⟩ | exact hHeld
      refine take_yes (i := 0) (v := ?vb0) rfl (by kernel_rfl) (by kernel_rfl) (by kernel_rfl) (fun _ _ _ h => h) (by rfl) (by assumption) ?hyb0 ?restb0
      case hyb0 => (intro w hSw; (try dsimp only at hSw); first | (go_simp; done) | (go_simp; with_reducible rfl))
      simp only [Act.put, List.setIfInBounds_toArray, List.set_cons_zero, List.set_cons_succ]
      refine take_call (i := 1) rfl (by kernel_rfl) (fun K hK => ?_)
      go_simp
      (go_at_call 31; refine (rwLong 9223372036854775807 _ (by decide) (by decide)).mono ?_; rintro e w1 ⟨s1, d1, l1, c1, rfl, h1, f1, bb⟩; have b1 := bb)
      refine hK.out _ _ ?_ (fun hHeld => ?_)
      · first | exact keepB1 hHeld bb | exact ⟨x0.c0, x0.c1, B0.drew⟩ | exact hHeld
      clear hK K
      refine take_call (i := 2) rfl (by kernel_rfl) (fun K hK => ?_)
      go_simp
      (go_at_call 29; refine (rwCmp s s1 d d1 l c l1 c1 z 9223372036854775807 _ (hd.below hHeld.2.2) h1 fz few63 G1.out).mono ?_; rintro e w2 ⟨rfl, bb⟩; have b2 := bb)
      refine hK.out _ _ ?_ (fun hHeld => ?_)
      · first | exact keepB1 hHeld bb | exact ⟨x0.c0, x0.c1, B0.drew⟩ | exact hHeld
      clear hK K
      refine take_yes (i := 3) (v := ?vb3) rfl (by kernel_rfl) (by kernel_rfl) (by kernel_rfl) (fun _ _ _ h => h) (by rfl) (by assumption) ?hyb3 ?restb3
      case hyb3 => (intro w hSw; (try dsimp only at hSw); first | (go_simp; done) | (go_simp; with_reducible rfl))
      simp only [Act.put, List.setIfInBounds_toArray, List.set_cons_zero, List.set_cons_succ]
      refine take_yes (i := 4) (v := ?vb4) rfl (by kernel_rfl) (by kernel_rfl) (by kernel_rfl) (fun _ _ _ h => h) (by rfl) (by assumption) ?hyb4 ?restb4
      case hyb4 => (intro w hSw; (try dsimp only at hSw); first | (go_simp; done) | (go_simp; with_reducible rfl))
      simp only [Act.put, List.setIfInBounds_toArray, List.set_cons_zero, List.set_cons_succ]
      refine take_yes (i := 5) (v := ?vb5) rfl (by kernel_rfl) (by kernel_rfl) (by kernel_rfl) (fun _ _ _ h => h) (by rfl) (by assumption) ?hyb5 ?restb5
      case hyb5 => (intro w hSw; (try dsimp only at hSw); first | (go_simp; done) | (go_simp; with_reducible rfl))
      simp only [Act.put, List.setIfInBounds_toArray, List.set_cons_zero, List.set_cons_succ]
      refine take_call (i := 6) rfl (by kernel_rfl) (fun K hK => ?_)
      go_simp
      (go_at_call 31; refine (rwLong (-9223372036854775808) _ (by decide) (by decide)).mono ?_; rintro e w3 ⟨s3, d3, l3, c3, rfl, h3, f3, bb⟩; have b3 := bb)
      refine hK.out _ _ ?_ (fun hHeld => ?_)
      · first | exact keepB1 hHeld bb | exact ⟨x0.c0, x0.c1, B0.drew⟩ | exact hHeld
      clear hK K
      refine take_call (i := 7) rfl (by kernel_rfl) (fun K hK => ?_)
      go_simp
      (go_at_call 29; refine (rwCmp s s3 d d3 l c l3 c3 z (-9223372036854775808) _ (hd.below hHeld.2.2) h3 fz few64 G2.out).mono ?_; rintro e w4 ⟨rfl, bb⟩; have b4 := bb)
      refine hK.out _ _ ?_ (fun hHeld => ?_)
      · first | exact keepB1 hHeld bb | exact ⟨x0.c0, x0.c1, B0.drew⟩ | exact hHeld
      clear hK K
      refine take_yes (i := 8) (v := ?vb8) rfl (by kernel_rfl) (by kernel_rfl) (by kernel_rfl) (fun _ _ _ h => h) (by rfl) (by assumption) ?hyb8 ?restb8
      case hyb8 => (intro w hSw; (try dsimp only at hSw); first | (go_simp; done) | (go_simp; with_reducible rfl))
      simp only [Act.put, List.setIfInBounds_toArray, List.set_cons_zero, List.set_cons_succ]
      refine take_yes (i := 9) (v := ?vb9) rfl (by kernel_rfl) (by kernel_rfl) (by kernel_rfl) (fun _ _ _ h => h) (by rfl) (by assumption) ?hyb9 ?restb9
      case hyb9 => (intro w hSw; (try dsimp only at hSw); first | (go_simp; done) | (go_simp; with_reducible rfl))
      simp only [Act.put, List.setIfInBounds_toArray, List.set_cons_zero, List.set_cons_succ]
      refine wpAnyH_done (by kernel_rfl) ?_ _
      go_wp2
      go_ret2
      exact ⟨rfl, hHeld.2.2⟩
    · have hyes : smOk z = true := by unfold smOk; simp; omega
      obtain rfl : ok = true := by rw [hok, hyes]
      have hvz : v = z := by rw [hv]; unfold smV; rw [hyes]; rfl
      have e2 : ¬ g2 < 0 := by rw [hg2]; rcases sign_cases (z - -9223372036854775808) with ⟨_, e⟩ | ⟨_, e⟩ | ⟨_, e⟩ <;> omega
      have e2' : decide (g2 < 0) = false := by simpa using e2
      obtain ⟨U, hU⟩ : ∃ U, U = z.natAbs := ⟨_, rfl⟩
      have hUl : U ≤ 9223372036854775808 := by omega
      have hsz : (z = U ∧ s = 1 ∧ 0 < U) ∨ (z = -(U : Int) ∧ (s = -1 ∨ s = 0)) := by
        rw [hd.sg]
        rcases sign_cases z with ⟨a, e⟩ | ⟨a, e⟩ | ⟨a, e⟩
        · exact Or.inr ⟨by omega, Or.inl e⟩
        · exact Or.inr ⟨by omega, Or.inr e⟩
        · exact Or.inl ⟨by omega, e, by omega⟩
      have HVZ : Hid _ := hvz
      have HUU : Hid _ := hU
      clear hg1 hg2 hv hok hvz hU
      go_enter Tryd.func27, Tryd.ntmps27
      go_wp2
      refine wp_region_held_drew (S := (fun w' => w'.cell? ⟨w.heap.size, 0, none⟩ = some (.int .i64 s) ∧ w'.cell? ⟨w.heap.size, 1, none⟩ = some (.slice d l c) ∧ Below w.heap.size w w')) (by kernel_rfl) ?_ (fun hHeld => ?_)
      · first | exact keepB1 hHeld bb | exact ⟨x0.c0, x0.c1, B0.drew⟩ | exact hHeld
      refine take_yes (i := 0) (v := ?vd0) rfl (by kernel_rfl) (by kernel_rfl) (by kernel_rfl) (fun _ _ _ h => h) (by rfl) (by assumption) ?hyd0 ?restd0
      case hyd0 => (intro w hSw; (try dsimp only at hSw); first | (go_simp; done) | (go_simp; with_reducible rfl))
      simp only [Act.put, List.setIfInBounds_toArray, List.set_cons_zero, List.set_cons_succ]
      refine take_call (i := 1) rfl (by kernel_rfl) (fun K hK => ?_)
      go_simp
      (go_at_call 31; refine (rwLong 9223372036854775807 _ (by decide) (by decide)).mono ?_; rintro e w1 ⟨s1, d1, l1, c1, rfl, h1, f1, bb⟩; have b1 := bb)
      refine hK.out _ _ ?_ (fun hHeld => ?_)
      · first | exact keepB1 hHeld bb | exact ⟨x0.c0, x0.c1, B0.drew⟩ | exact hHeld
      clear hK K
      refine take_call (i := 2) rfl (by kernel_rfl) (fun K hK => ?_)
      go_simp
      (go_at_call 29; refine (rwCmp s s1 d d1 l c l1 c1 z 9223372036854775807 _ (hd.below hHeld.2.2) h1 fz few63 G1.out).mono ?_; rintro e w2 ⟨rfl, bb⟩; have b2 := bb)
      refine hK.out _ _ ?_ (fun hHeld => ?_)
      · first | exact keepB1 hHeld bb | exact ⟨x0.c0, x0.c1, B0.drew⟩ | exact hHeld
      clear hK K
      refine take_yes (i := 3) (v := ?vd3) rfl (by kernel_rfl) (by kernel_rfl) (by kernel_rfl) (fun _ _ _ h => h) (by rfl) (by assumption) ?hyd3 ?restd3
      case hyd3 => (intro w hSw; (try dsimp only at hSw); first | (go_simp; done) | (go_simp; with_reducible rfl))
      simp only [Act.put, List.setIfInBounds_toArray, List.set_cons_zero, List.set_cons_succ]
      refine take_yes (i := 4) (v := ?vd4) rfl (by kernel_rfl) (by kernel_rfl) (by kernel_rfl) (fun _ _ _ h => h) (by rfl) (by assumption) ?hyd4 ?restd4
      case hyd4 => (intro w hSw; (try dsimp only at hSw); first | (go_simp; done) | (go_simp; with_reducible rfl))
      simp only [Act.put, List.setIfInBounds_toArray, List.set_cons_zero, List.set_cons_succ]
      refine take_yes (i := 5) (v := ?vd5) rfl (by kernel_rfl) (by kernel_rfl) (by kernel_rfl) (fun _ _ _ h => h) (by rfl) (by assumption) ?hyd5 ?restd5
      case hyd5 => (intro w hSw; (try dsimp only at hSw); first | (go_simp; done) | (go_simp; with_reducible rfl))
      simp only [Act.put, List.setIfInBounds_toArray, List.set_cons_zero, List.set_cons_succ]
      refine take_call (i := 6) rfl (by kernel_rfl) (fun K hK => ?_)
      go_simp
      (go_at_call 31; refine (rwLong (-9223372036854775808) _ (by decide) (by decide)).mono ?_; rintro e w3 ⟨s3, d3, l3, c3, rfl, h3, f3, bb⟩; have b3 := bb)
      refine hK.out _ _ ?_ (fun hHeld => ?_)
      · first | exact keepB1 hHeld bb | exact ⟨x0.c0, x0.c1, B0.drew⟩ | exact hHeld
      clear hK K
      refine take_call (i := 7) rfl (by kernel_rfl) (fun K hK => ?_)
      go_simp
      (go_at_call 29; refine (rwCmp s s3 d d3 l c l3 c3 z (-9223372036854775808) _ (hd.below hHeld.2.2) h3 fz few64 G2.out).mono ?_; rintro e w4 ⟨rfl, bb⟩; have b4 := bb)
      refine hK.out _ _ ?_ (fun hHeld => ?_)
      · first | exact keepB1 hHeld bb | exact ⟨x0.c0, x0.c1, B0.drew⟩ | exact hHeld
      clear hK K
      refine take_yes (i := 8) (v := ?vd8) rfl (by kernel_rfl) (by kernel_rfl) (by kernel_rfl) (fun _ _ _ h => h) (by rfl) (by assumption) ?hyd8 ?restd8
      case hyd8 => (intro w hSw; (try dsimp only at hSw); first | (go_simp; done) | (go_simp; with_reducible rfl))
      simp only [Act.put, List.setIfInBounds_toArray, List.set_cons_zero, List.set_cons_succ]
      refine take_yes (i := 9) (v := ?vd9) rfl (by kernel_rfl) (by kernel_rfl) (by kernel_rfl) (fun _ _ _ h => h) (by rfl) (by assumption) ?hyd9 ?restd9
      case hyd9 => (intro w hSw; (try dsimp only at hSw); first | (go_simp; done) | (go_simp; with_reducible rfl))
      simp only [Act.put, List.setIfInBounds_toArray, List.set_cons_zero, List.set_cons_succ]
      refine wpAnyH_done (by kernel_rfl) ?_ _
      have B5 := hHeld.2.2
      have hd5 := (hd.below B5).hd
      rw [← HUU.out] at hd5
      have hlU : U < 65536 ^ l := by rw [hd5.len]; exact hf.nlen_lt U
      have HZ : Hid (U / 65536 ^ l = 0) := Nat.div_eq_of_lt hlU
      have k0 := hHeld.1
      have k1 := hHeld.2.1
      have hbg := hd5.sl.big
      have hrm := hd5.sl.room
      unfold maxLen at hbg
      clear hHeld b1 b2 b3 b4 h1 h3 f1 f3 hlU
      go_wp2
      go_loopw [4, 5] (fun nv i wr => RsRel w4 U l nv i wr) (fun _ i _ => (intOf i + 1).toNat)
      case atStart => exact ⟨l, Nat.le_refl _, rfl, by rw [HZ.out]; rfl, rfl⟩
      case round =>
        obtain ⟨r, hr, rfl, rfl, rfl⟩ := hrel
        rcases r with _ | q
        · rw [Nat.pow_zero, Nat.div_one]
          rcases hsz with ⟨e, rfl, hpos⟩ | ⟨e, hs⟩
          · obtain rfl : v = (U : Int) := HVZ.out.trans e
            go_wp2
            go_ret2
            exact ⟨by first | rfl | simp, B5⟩
          · obtain rfl : v = -(U : Int) := HVZ.out.trans e
            rcases hs with rfl | rfl
            · go_wp2
              go_ret2
              exact ⟨by first | rfl | simp, B5⟩
            · go_wp2
              go_ret2
              exact ⟨by first | rfl | simp, B5⟩
        · obtain ⟨b, o, rfl, hb, hseg⟩ := hd5.sl.at (by omega)
          have c1 : wr.cell? ⟨b, o + q, none⟩ = some (.int .i64 (hf.dg (U : Int) q)) := hseg.cell q _ (hf.dcells_at _ _ _ (by omega))
          obtain ⟨d0, d1⟩ := hf.dg_range (U : Int) q
          have e3 : ((q + 1 : Nat) : Int) - 1 = (q : Int) := by omega
          have HST : Hid _ := rs_step U q
          have hq1 : (U / 65536 ^ (q + 1) : Nat) * 65536 ≤ U := by
            have h1 := Nat.div_mul_le_self U (65536 ^ (q + 1))
            have h2 : U / 65536 ^ (q + 1) * 65536 ≤ U / 65536 ^ (q + 1) * 65536 ^ (q + 1) := Nat.mul_le_mul_left _ (by rw [Nat.pow_succ]; exact Nat.le_mul_of_pos_left _ (Nat.pow_pos (by decide)))
            omega
          have hq2 : U / 65536 ^ q ≤ U := Nat.div_le_self _ _
          obtain ⟨A, hA⟩ : ∃ A, A = U / 65536 ^ (q + 1) := ⟨_, rfl⟩
          obtain ⟨A', hA'⟩ : ∃ A', A' = U / 65536 ^ q := ⟨_, rfl⟩
          rw [← hA] at HST hq1 ⊢
          rw [← hA'] at HST hq2
          have HA' : Hid _ := hA'
          obtain ⟨D, hD⟩ : ∃ D, D = hf.dg (U : Int) q := ⟨_, rfl⟩
          rw [← hD] at c1 d0 d1 HST
          have hq3 : -((A : Nat) : Int) * 65536 - D = -(A' : Int) := HST.out
          have hlo : -9223372036854775808 ≤ -(A : Int) * 65536 := by omega
          clear hA hA' hD
          rw [e3]
          go_wp2
          go_roundw
          case rel => exact ⟨q, by omega, rfl, by rw [← HA'.out], rfl⟩
          case measure => simp [intOf]
end Go.Proofs.YtpkcjgkgabemoaaDoor
