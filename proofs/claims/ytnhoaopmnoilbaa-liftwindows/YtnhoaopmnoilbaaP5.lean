/-
  Joined texts, part 5:
  What zelligeref04's Long and Floor answer.
  What zelligeref04's Small answers.
  What zelligeref06's Torus, In, Can and Cmp answer.
-/
import Derived.Test.YtnhoaopmnoilbaaP4
import Derived.Test.YtnhoaopmnoilbaaP3
namespace Go.Proofs.Ytnhoaopmnoilbaa
open Go.RowKit
set_option linter.unusedVariables false

def GotHB (w : World) (q r : Nat) (e : Ending) (w' : World) : Prop := ∃ aq lq cq ar lr cr, e = .returned (.tuple #[.slice aq lq cq, .slice ar lr cr]) ∧ HD w' aq lq cq q ∧ HD w' ar lr cr r ∧ Far w.heap.size aq lq ∧ Far w.heap.size ar lr ∧ Below w.heap.size w w'
theorem hfDiv (a b : Option Addr) (la lb ca cb u v : Nat) (w : World) (ha : HD w a la ca u) (hb : HD w b lb cb v) (fu : hf.nlen u ≤ 1000000) (fv : hf.nlen v ≤ 1000000) (hv : 0 < v) : Calls Try.prog 41 #[.slice a la ca, .slice b lb cb] w (GotHB w (u / v) (u % v)) := by
  obtain ⟨ha, rfl⟩ := ha
  obtain ⟨hb, rfl⟩ := hb
  refine (rdivMod_own a b ca cb u v w ha hb (by omega) (by omega) hv).mono ?_
  rintro e w' ⟨aq, cq, ar, cr, he, hq, hr, hbel⟩
  exact ⟨aq, _, cq, ar, _, cr, he, ⟨Own.sl hq, rfl⟩, ⟨Own.sl hr, rfl⟩, Own.far hq, Own.far hr, hbel⟩

set_option maxRecDepth 100000 in
set_option maxHeartbeats 1000000 in
theorem rwLong (x : Int) (w : World) (h1 : -9223372036854775808 ≤ x) (h2 : x ≤ 9223372036854775807) : Calls Try.prog 25 #[.int .i64 x] w (GotR w (fun _ => True) x) := by
  by_cases hx : x = 0
  · subst hx
    go_enter Try.func25, Try.ntmps25
    go_wp2
    exact bodyPost_ret (v := .agg #[.int .i64 0, .slice none 0 0]) (by simp [results, Try.results25, go_sem, *]) rfl ⟨0, none, 0, 0, rfl, rn_zero _ 0, fun _ _ _ => Or.inl rfl, (Below.refl _ _).alloc (Nat.le_refl _) _⟩
  have B0 : Below w.heap.size w (w.alloc (.cells #[.int .i64 0, .slice none 0 0] 47)) := (Below.refl _ _).alloc (Nat.le_refl _) _
  have x0 := bx_new w (.int .i64 0) (.slice none 0 0) 47
  obtain ⟨u, hu⟩ : ∃ u, u = x.natAbs := ⟨_, rfl⟩
  have hul : u < 18446744073709551616 := by omega
  have ho := own_two (w.alloc (.cells #[.int .i64 0, .slice none 0 0] 47)) u hul
  have hb1 : Below (w.alloc (.cells #[.int .i64 0, .slice none 0 0] 47)).heap.size (w.alloc (.cells #[.int .i64 0, .slice none 0 0] 47)) ((w.alloc (.cells #[.int .i64 0, .slice none 0 0] 47)).alloc (.cells #[.int .u32 ((u : Int) % 4294967296), .int .u32 ((u : Int) / 4294967296)] 63)) := (Below.refl _ _).alloc (Nat.le_refl _) _
  have hni : NI _ _ 2 2 u := ⟨Own.sl ho, by omega, by decide⟩
  rw [World.size_alloc] at hni
  have x1 := x0.on hb1
  have E2 : (u : Int) / 4294967296 % 4294967296 = (u : Int) / 4294967296 := by omega
  by_cases hn : x < 0
  · have E : IntKind.u64.wrap (-IntKind.u64.wrap x) = (u : Int) := by rw [IntKind.wrap_u64, IntKind.wrap_u64]; omega
    have HR : Hid ((-1 : Int) = x.sign) := (sign_neg hn).symm
    have HU : Hid _ := hu
    clear hu ho
    go_enter Try.func25, Try.ntmps25
    go_wp2_with (go_at_call 38; fail)
    refine (hfOf _ 2 2 u _ hni).mono ?_
    rintro e w2 ⟨d, l, c, rfl, hd, fd, b2⟩
    obtain ⟨k0, k1, k2, k3⟩ := x1.on b2
    go_wp2
    exact bodyPost_ret (v := .agg #[.int .i64 (-1), .slice d l c]) (by simp [results, Try.results25, go_sem, *]) rfl (endR _ (by omega) (also (also B0 hb1) b2) ⟨HU.out ▸ hd, HR.out⟩ (fd _ (by simp; omega)) (fun j hj _ => fd j (by simp; omega)) _ _)
  · obtain ⟨y, rfl⟩ := Int.eq_ofNat_of_zero_le (show 0 ≤ x by omega)
    obtain rfl : u = y := by omega
    have HR : Hid ((1 : Int) = ((u : Nat) : Int).sign) := (sign_pos (by omega)).symm
    have HU : Hid (u = ((u : Nat) : Int).natAbs) := hu
    clear hu ho
    go_enter Try.func25, Try.ntmps25
    go_wp2_with (go_at_call 38; fail)
    refine (hfOf _ 2 2 u _ hni).mono ?_
    rintro e w2 ⟨d, l, c, rfl, hd, fd, b2⟩
    obtain ⟨k0, k1, k2, k3⟩ := x1.on b2
    go_wp2
    exact bodyPost_ret (v := .agg #[.int .i64 (1), .slice d l c]) (by simp [results, Try.results25, go_sem, *]) rfl (endR _ (by omega) (also (also B0 hb1) b2) ⟨HU.out ▸ hd, HR.out⟩ (fd _ (by simp; omega)) (fun j hj _ => fd j (by simp; omega)) _ _)

theorem one_few : hf.nlen (1 : Int).natAbs ≤ 1000000 := Nat.le_trans (hf.nlen_le (n := 1) (by decide)) (by decide)
theorem sg_mul (x y : Int) : x.sign * y.sign = (x * y).sign := (Int.sign_mul x y).symm
theorem keepC3 {p q r : Nat} {v1 v2 v3 v4 v5 v6 : Value} {w0 w w' : World} (h : w.cell? ⟨p, 0, none⟩ = some v1 ∧ w.cell? ⟨p, 1, none⟩ = some v2 ∧ w.cell? ⟨q, 0, none⟩ = some v3 ∧ w.cell? ⟨q, 1, none⟩ = some v4 ∧ w.cell? ⟨r, 0, none⟩ = some v5 ∧ w.cell? ⟨r, 1, none⟩ = some v6 ∧ Below w0.heap.size w0 w) (hb : Below w.heap.size w w') :
    w'.cell? ⟨p, 0, none⟩ = some v1 ∧ w'.cell? ⟨p, 1, none⟩ = some v2 ∧ w'.cell? ⟨q, 0, none⟩ = some v3 ∧ w'.cell? ⟨q, 1, none⟩ = some v4 ∧ w'.cell? ⟨r, 0, none⟩ = some v5 ∧ w'.cell? ⟨r, 1, none⟩ = some v6 ∧ Below w0.heap.size w0 w' :=
  ⟨cell_on hb h.1, cell_on hb h.2.1, cell_on hb h.2.2.1, cell_on hb h.2.2.2.1, cell_on hb h.2.2.2.2.1, cell_on hb h.2.2.2.2.2.1, also h.2.2.2.2.2.2 hb⟩
theorem keepP3 {p q r k : Nat} {v1 v2 v3 v4 v5 v6 : Value} {w0 w : World} (h : w.cell? ⟨p, 0, none⟩ = some v1 ∧ w.cell? ⟨p, 1, none⟩ = some v2 ∧ w.cell? ⟨q, 0, none⟩ = some v3 ∧ w.cell? ⟨q, 1, none⟩ = some v4 ∧ w.cell? ⟨r, 0, none⟩ = some v5 ∧ w.cell? ⟨r, 1, none⟩ = some v6 ∧ Below w0.heap.size w0 w) (hp : k ≠ p) (hq : k ≠ q) (hr : k ≠ r) (hB : w0.heap.size ≤ k) (u v : Value) :
    ((w.setCell ⟨k, 0, none⟩ u).setCell ⟨k, 1, none⟩ v).cell? ⟨p, 0, none⟩ = some v1 ∧ ((w.setCell ⟨k, 0, none⟩ u).setCell ⟨k, 1, none⟩ v).cell? ⟨p, 1, none⟩ = some v2 ∧ ((w.setCell ⟨k, 0, none⟩ u).setCell ⟨k, 1, none⟩ v).cell? ⟨q, 0, none⟩ = some v3 ∧ ((w.setCell ⟨k, 0, none⟩ u).setCell ⟨k, 1, none⟩ v).cell? ⟨q, 1, none⟩ = some v4 ∧ ((w.setCell ⟨k, 0, none⟩ u).setCell ⟨k, 1, none⟩ v).cell? ⟨r, 0, none⟩ = some v5 ∧ ((w.setCell ⟨k, 0, none⟩ u).setCell ⟨k, 1, none⟩ v).cell? ⟨r, 1, none⟩ = some v6 ∧ Below w0.heap.size w0 ((w.setCell ⟨k, 0, none⟩ u).setCell ⟨k, 1, none⟩ v) := by
  have hne : ∀ i j b : Nat, k ≠ b → (⟨k, i, none⟩ : Addr) ≠ ⟨b, j, none⟩ := fun i j b hb e => by simp only [Addr.mk.injEq] at e; omega
  have g : ∀ (b j : Nat) (x : Value), k ≠ b → w.cell? ⟨b, j, none⟩ = some x → ((w.setCell ⟨k, 0, none⟩ u).setCell ⟨k, 1, none⟩ v).cell? ⟨b, j, none⟩ = some x := fun b j x hb hc => by
    rw [World.cell?_setCell_other _ _ _ _ (hne _ _ _ hb), World.cell?_setCell_other _ _ _ _ (hne _ _ _ hb)]; exact hc
  exact ⟨g _ _ _ hp h.1, g _ _ _ hp h.2.1, g _ _ _ hq h.2.2.1, g _ _ _ hq h.2.2.2.1, g _ _ _ hr h.2.2.2.2.1, g _ _ _ hr h.2.2.2.2.2.1, below_put2 h.2.2.2.2.2.2 hB u v⟩
def GotRF (w : World) (q r : Int) (e : Ending) (w' : World) : Prop := ∃ (s1 : Int) (d1 : Option Addr) (l1 c1 : Nat) (s2 : Int) (d2 : Option Addr) (l2 c2 : Nat), e = .returned (.tuple #[.agg #[.int .i64 s1, .slice d1 l1 c1], .agg #[.int .i64 s2, .slice d2 l2 c2]]) ∧ RN w' s1 d1 l1 c1 q ∧ RN w' s2 d2 l2 c2 r ∧ Below w.heap.size w w'
def GotRFF (w : World) (q r : Int) (e : Ending) (w' : World) : Prop := ∃ (s1 : Int) (d1 : Option Addr) (l1 c1 : Nat) (s2 : Int) (d2 : Option Addr) (l2 c2 : Nat), e = .returned (.tuple #[.agg #[.int .i64 s1, .slice d1 l1 c1], .agg #[.int .i64 s2, .slice d2 l2 c2]]) ∧ RN w' s1 d1 l1 c1 q ∧ RN w' s2 d2 l2 c2 r ∧ Far w.heap.size d1 l1 ∧ Below w.heap.size w w'
theorem endRF {w w6 : World} {s1 s2 : Int} {d1 d2 : Option Addr} {l1 c1 l2 c2 : Nat} {Q R : Int} (hq : RN w6 s1 d1 l1 c1 Q) (hr : RN w6 s2 d2 l2 c2 R) (B : Below w.heap.size w w6) (a1 : NA (w.heap.size + 1 + 1) d1 l1) (a2 : NA (w.heap.size + 1 + 1 + 1) d1 l1) (a3 : NA (w.heap.size + 1 + 1) d2 l2) (a4 : NA (w.heap.size + 1 + 1 + 1) d2 l2) (fa : Far w.heap.size d1 l1) (u v u' v' : Value) :
    GotRFF w Q R (.returned (.tuple #[.agg #[.int .i64 s1, .slice d1 l1 c1], .agg #[.int .i64 s2, .slice d2 l2 c2]])) ((((w6.setCell ⟨w.heap.size + 1 + 1, 0, none⟩ u).setCell ⟨w.heap.size + 1 + 1, 1, none⟩ v).setCell ⟨w.heap.size + 1 + 1 + 1, 0, none⟩ u').setCell ⟨w.heap.size + 1 + 1 + 1, 1, none⟩ v') :=
  ⟨s1, d1, l1, c1, s2, d2, l2, c2, rfl, (hq.put2 a1 u v).put2 a2 u' v', (hr.put2 a3 u v).put2 a4 u' v', fa, below_put2 (below_put2 B (by omega) u v) (by omega) u' v'⟩
set_option maxRecDepth 100000 in
set_option maxHeartbeats 10000000 in
theorem rwFloorF (s t : Int) (d g : Option Addr) (l c h k : Nat) (x y : Int) (w : World) (hx : RN w s d l c x) (hy : RN w t g h k y) (fx : hf.nlen x.natAbs ≤ 1000000) (fy : hf.nlen y.natAbs ≤ 1000000) (h0 : y ≠ 0) (fq0 : hf.nlen (x.sign * y.sign * ((x.natAbs / y.natAbs : Nat) : Int)).natAbs ≤ 1000000) (fq : hf.nlen (flQ x y).natAbs ≤ 1000000) (fp : hf.nlen (flQ x y * y).natAbs ≤ 1000000)
    (Q R : Int) (hQ0 : Q = flQ x y) (hR0 : R = flR x y) : Calls Try.prog 32 #[.agg #[.int .i64 s, .slice d l c], .agg #[.int .i64 t, .slice g h k]] w (GotRFF w Q R) := by
  obtain ⟨W, hW, B0, xa, xb, x4, x5, hs⟩ := box3 w (.int .i64 s) (.slice d l c) (.int .i64 t) (.slice g h k) (.int .i64 0) (.slice none 0 0) (.int .i64 0) (.slice none 0 0) 47 47 47 47
  have es : -1 ≤ s ∧ s ≤ 1 := by rw [hx.sg]; rcases sign_cases x with ⟨_, e⟩ | ⟨_, e⟩ | ⟨_, e⟩ <;> omega
  have et : t = -1 ∨ t = 0 ∨ t = 1 := by rw [hy.sg]; rcases sign_cases y with ⟨_, e⟩ | ⟨_, e⟩ | ⟨_, e⟩ <;> omega
  have ew' : wrap64 (s * t) = s * t := by
    unfold wrap64
    rcases et with e | e | e <;> rw [e] <;> omega
  have hst : s * t = x.sign * y.sign := by rw [hx.sg, hy.sg]
  obtain ⟨sd, hsd⟩ : ∃ sd, sd = s * t := ⟨_, rfl⟩
  rw [← hsd] at hst ew'
  have EW : wrap64 (s * t) = sd := by rw [hsd] at ew' ⊢; exact ew'
  have hv0 : 0 < y.natAbs := by omega
  obtain ⟨q0, hq0⟩ : ∃ q0 : Nat, q0 = x.natAbs / y.natAbs := ⟨_, rfl⟩
  obtain ⟨r0, hr0⟩ : ∃ r0 : Nat, r0 = x.natAbs % y.natAbs := ⟨_, rfl⟩
  obtain ⟨z0, hz0⟩ : ∃ z0, z0 = x.sign * y.sign * ((x.natAbs / y.natAbs : Nat) : Int) := ⟨_, rfl⟩
  have HD0 := hfDiv d g l h c k _ _ W (hx.hd.below B0) (hy.hd.below B0) fx fy hv0
  rw [← hq0, ← hr0] at HD0
  have HDD : Hid _ := HD0
  have hzq : q0 = z0.natAbs := by
    rw [hz0, ← hq0, Int.natAbs_mul, sg_mul]
    rcases sign_cases (x * y) with ⟨_, e⟩ | ⟨e', e⟩ | ⟨_, e⟩
    · rw [e]; simp
    · have : x = 0 := by rcases Int.mul_eq_zero.1 e' with z | z; exact z; exact absurd z h0
      rw [hq0, this]; simp
    · rw [e]; simp
  have hzs : z0 ≠ 0 → sd = z0.sign := fun hz => by
    rw [hst]
    have hq1 : q0 ≠ 0 := by rw [hzq]; omega
    rw [hz0, ← hq0, Int.sign_mul, sg_mul, Int.sign_sign, Int.sign_natCast_of_ne_zero hq1, Int.mul_one]
  have HZQ : Hid _ := hzq
  have HZS : Hid _ := hzs
  have HQ : Hid (Q = z0 - (if sd < 0 ∧ r0 ≠ 0 then 1 else 0)) := by
    unfold Hid
    rw [hQ0]
    unfold flQ
    rw [hz0, hst, hr0]
  have HR : Hid (R = x - Q * y) := by unfold Hid; rw [hR0, hQ0]; rfl
  have fq0' : hf.nlen z0.natAbs ≤ 1000000 := by rw [hz0]; exact fq0
  rw [← hQ0] at fq fp
  have n2 : NA (w.heap.size + 2) d l := hx.hd.sl.na (by omega)
  have n3 : NA (w.heap.size + 3) d l := hx.hd.sl.na (by omega)
  have n4 : NA (w.heap.size + 2) g h := hy.hd.sl.na (by omega)
  have n5 : NA (w.heap.size + 3) g h := hy.hd.sl.na (by omega)
  have hxW := hx.below B0
  have hyW := hy.below B0
  clear HD0 hzq hzs hq0 hr0 hz0 hst hsd es et ew' fq0 hQ0 hR0
  go_enter Try.func32, Try.ntmps32
  go_wp2_with (go_at_call 41; fail)
  rw [← hW]
  clear hW
  refine (show Calls _ _ _ _ (GotHB W q0 r0) from HDD.out).mono ?_
  rintro e w1 ⟨aq, lq, cq, ar, lr, cr, rfl, hq, hr, fq1, fr1, b1⟩
  obtain ⟨k0, k1, k2, k3⟩ := xa.on b1
  obtain ⟨j0, j1, j2, j3⟩ := xb.on b1
  go_wp2_with (go_at_call 36; fail)
  refine (rwMake sd aq lq cq q0 z0 w1 hq HZQ.out HZS.out).mono ?_
  rintro e w2 ⟨s2, a2, l2, c2, rfl, h2, f2, b2⟩
  have x8 := bx_new w2 (.int .i64 s2) (.slice a2 l2 c2) 47
  have b3 : Below w2.heap.size w2 (w2.alloc (.cells #[.int .i64 s2, .slice a2 l2 c2] 47)) := (Below.refl _ _).alloc (Nat.le_refl _) _
  have g8 : w.heap.size + 1 + 1 + 1 < w2.heap.size := Nat.lt_of_lt_of_le hs (Nat.le_trans b1.size b2.size)
  have H2 := h2.below b3
  have BW := also (also (also B0 b1) b2) b3
  have XA := ((xa.on b1).on b2).on b3
  have XB := ((xb.on b1).on b2).on b3
  have X4 := ((x4.on b1).on b2).on b3
  have X5 := ((x5.on b1).on b2).on b3
  have hxB := ((hxW.below b1).below b2).below b3
  have hyB := ((hyW.below b1).below b2).below b3
  have F2 : Far W.heap.size a2 l2 := fun j hj => f2 j (Nat.lt_of_lt_of_le hj b1.size) (fq1 j hj)
  have n82 : NA w2.heap.size a2 l2 := h2.hd.sl.na (Nat.le_refl _)
  have nx8 : NA w2.heap.size d l := ((hxW.below b1).below b2).hd.sl.na (Nat.le_refl _)
  have ny8 : NA w2.heap.size g h := ((hyW.below b1).below b2).hd.sl.na (Nat.le_refl _)
  obtain ⟨k0, k1, k2, k3⟩ := XA
  obtain ⟨j0, j1, j2, j3⟩ := XB
  have XA : Bx _ _ _ _ := ⟨k0, k1, k2, k3⟩
  have XB : Bx _ _ _ _ := ⟨j0, j1, j2, j3⟩
  have hlr := hr.pos
  clear x4 x5 xa xb hq hr h2 HDD HZQ HZS hxW hyW
  by_cases hadj : sd < 0 ∧ r0 ≠ 0
  · obtain ⟨hsn, hrn⟩ := hadj
    have HQ1 : Hid (Q = z0 - 1) := by have := HQ.out; rwa [if_pos ⟨hsn, hrn⟩] at this
    have hlr0 : (0 : Int) < lr := by omega
    clear HQ hlr
    go_wp2
    generalize w2.alloc (.cells #[.int .i64 s2, .slice a2 l2 c2] 47) = W2 at x8 H2 BW XA XB X4 X5 hxB hyB b3 k0 k1 k2 k3 j0 j1 j2 j3 ⊢
    generalize w2.heap.size = b8 at x8 g8 nx8 ny8 n82 ⊢
    have x8' := x8.drew
    obtain ⟨i0, i1, i2, i3⟩ := x8'
    have x8' : Bx _ _ _ _ := ⟨i0, i1, i2, i3⟩
    have d0 : Below W2.heap.size W2 W2.drew := (Below.refl _ _).drew
    go_region_with (first
      | (go_at_call 25; refine (rwLong 1 _ (by decide) (by decide)).mono ?_; rintro e w5 ⟨s5, d5, l5, c5, rfl, h5, f5, b5⟩; obtain ⟨i0, i1, i2, i3⟩ := x8'.on b5)
      | (go_at_call 42; refine (rwSub s2 s5 a2 d5 l2 c2 l5 c5 z0 1 (z0 - 1) _ ((H2.below d0).below b5) h5 fq0' one_few rfl).mono ?_; rintro e w6 ⟨s6, d6, l6, c6, rfl, h6, f6, b6⟩; obtain ⟨i0, i1, i2, i3⟩ := (x8'.on b5).on b6))
    · skip
      have F6 : Far W.heap.size d6 l6 := fun j hj => f6 j (Nat.lt_of_lt_of_le (Nat.lt_of_lt_of_le hj (Nat.le_trans (Nat.le_trans b1.size b2.size) b3.size)) b5.size) ⟨F2 j hj, f5 j (Nat.lt_of_lt_of_le hj (Nat.le_trans (Nat.le_trans b1.size b2.size) b3.size)) trivial⟩
      have n8 : NA b8 d6 l6 := f6 b8 (Nat.lt_of_lt_of_le (bx_lt x8) b5.size) ⟨n82, f5 b8 (bx_lt x8') trivial⟩
      have e8 : Bx ((w6.setCell ⟨b8, 0, none⟩ (.int .i64 s6)).setCell ⟨b8, 1, none⟩ (.slice d6 l6 c6)) b8 (.int .i64 s6) (.slice d6 l6 c6) := ((x8'.on b5).on b6).set
      have eA := ((((XA.on d0).on b5).on b6).put (i := 0) (v := .int .i64 s6) (show b8 ≠ _ by omega)).put (i := 1) (v := .slice d6 l6 c6) (show b8 ≠ _ by omega)
      have eB := ((((XB.on d0).on b5).on b6).put (i := 0) (v := .int .i64 s6) (show b8 ≠ _ by omega)).put (i := 1) (v := .slice d6 l6 c6) (show b8 ≠ _ by omega)
      have e4 := ((((X4.on d0).on b5).on b6).put (i := 0) (v := .int .i64 s6) (show b8 ≠ _ by omega)).put (i := 1) (v := .slice d6 l6 c6) (show b8 ≠ _ by omega)
      have e5 := ((((X5.on d0).on b5).on b6).put (i := 0) (v := .int .i64 s6) (show b8 ≠ _ by omega)).put (i := 1) (v := .slice d6 l6 c6) (show b8 ≠ _ by omega)
      have ex := (((hxB.below d0).below b5).below b6).put2 nx8 (.int .i64 s6) (.slice d6 l6 c6)
      have ey := (((hyB.below d0).below b5).below b6).put2 ny8 (.int .i64 s6) (.slice d6 l6 c6)
      have eq := h6.put2 n8 (.int .i64 s6) (.slice d6 l6 c6)
      have eb := below_put2 (also (also (also BW d0) b5) b6) (show w.heap.size ≤ b8 by omega) (.int .i64 s6) (.slice d6 l6 c6)
      rw [← HQ1.out] at eq
      clear x8 x8' i0 i1 i2 i3 k0 k1 k2 k3 j0 j1 j2 j3 XA XB X4 X5 hxB hyB H2 BW F2 f6 f5 h5 h6 d0
      dsimp only [Exit.then]
      go_wp2
      generalize (w6.setCell ⟨b8, 0, none⟩ (.int .i64 s6)).setCell ⟨b8, 1, none⟩ (.slice d6 l6 c6) = WF at e8 eA eB e4 e5 ex ey eq eb ⊢
      have g2 : w.heap.size + 1 + 1 < b8 := by omega
      refine wp_region_held_drew (S := (fun w' => w'.cell? ⟨b8, 0, none⟩ = some (.int .i64 s6) ∧ w'.cell? ⟨b8, 1, none⟩ = some (.slice d6 l6 c6) ∧ w'.cell? ⟨w.heap.size, 0, none⟩ = some (.int .i64 s) ∧ w'.cell? ⟨w.heap.size, 1, none⟩ = some (.slice d l c) ∧ w'.cell? ⟨w.heap.size + 1, 0, none⟩ = some (.int .i64 t) ∧ w'.cell? ⟨w.heap.size + 1, 1, none⟩ = some (.slice g h k) ∧ Below w.heap.size w w')) (by kernel_rfl) ?_ (fun hHeld => ?_)
      · first | exact keepC3 hHeld b21 | exact keepC3 hHeld b20 | exact ⟨e8.c0, e8.c1, eA.c0, eA.c1, eB.c0, eB.c1, eb.drew⟩ | exact keepP3 hHeld (by omega) (by omega) (by omega) (by omega) _ _
      refine take_yes (i := 0) (v := ?vm0) rfl (by kernel_rfl) (by kernel_rfl) (by kernel_rfl) (fun _ _ _ h => h) (by rfl) (by assumption) ?hym0 ?restm0
      case hym0 => (intro w hSw; (try dsimp only at hSw); first | (go_simp; done) | (go_simp; with_reducible rfl))
      simp only [Act.put, List.setIfInBounds_toArray, List.set_cons_zero, List.set_cons_succ]
      refine take_yes (i := 1) (v := ?vm1) rfl (by kernel_rfl) (by kernel_rfl) (by kernel_rfl) (fun _ _ _ h => h) (by rfl) (by assumption) ?hym1 ?restm1
      case hym1 => (intro w hSw; (try dsimp only at hSw); first | (go_simp; done) | (go_simp; with_reducible rfl))
      simp only [Act.put, List.setIfInBounds_toArray, List.set_cons_zero, List.set_cons_succ]
      refine take_yes (i := 2) (v := ?vm2) rfl (by kernel_rfl) (by kernel_rfl) (by kernel_rfl) (fun _ _ _ h => h) (by rfl) (by assumption) ?hym2 ?restm2
      case hym2 => (intro w hSw; (try dsimp only at hSw); first | (go_simp; done) | (go_simp; with_reducible rfl))
      simp only [Act.put, List.setIfInBounds_toArray, List.set_cons_zero, List.set_cons_succ]
      refine take_yes (i := 3) (v := ?vm3) rfl (by kernel_rfl) (by kernel_rfl) (by kernel_rfl) (fun _ _ _ h => h) (by rfl) (by assumption) ?hym3 ?restm3
      case hym3 => (intro w hSw; (try dsimp only at hSw); first | (go_simp; done) | (go_simp; with_reducible rfl))
      simp only [Act.put, List.setIfInBounds_toArray, List.set_cons_zero, List.set_cons_succ]
      refine take_call (i := 4) rfl (by kernel_rfl) (fun Kc hK => ?_)
      go_simp
      (go_at_call 26; refine (rwMul s6 t d6 g l6 c6 h k Q y (Q * y) _ (eq.below ((Below.refl _ _).drew)) (ey.below ((Below.refl _ _).drew)) fq fy rfl).mono ?_; rintro e w20 ⟨s20, d20, l20, c20, rfl, h20, f20, b20⟩)
      refine hK.out _ _ ?_ (fun hHeld => ?_)
      · first | exact keepC3 hHeld b21 | exact keepC3 hHeld b20 | exact ⟨e8.c0, e8.c1, eA.c0, eA.c1, eB.c0, eB.c1, eb.drew⟩ | exact keepP3 hHeld (by omega) (by omega) (by omega) (by omega) _ _
      clear hK Kc
      refine take_call (i := 5) rfl (by kernel_rfl) (fun Kc hK => ?_)
      go_simp
      (go_at_call 42; refine (rwSub s s20 d d20 l c l20 c20 x (Q * y) R _ ((ex.below ((Below.refl _ _).drew)).below b20) h20 fx fp HR.out).mono ?_; rintro e w21 ⟨s21, d21, l21, c21, rfl, h21, f21, b21⟩)
      refine hK.out _ _ ?_ (fun hHeld => ?_)
      · first | exact keepC3 hHeld b21 | exact keepC3 hHeld b20 | exact ⟨e8.c0, e8.c1, eA.c0, eA.c1, eB.c0, eB.c1, eb.drew⟩ | exact keepP3 hHeld (by omega) (by omega) (by omega) (by omega) _ _
      clear hK Kc
      obtain ⟨k0, k1, k2, k3⟩ := (e4.drew.on b20).on b21
      refine take_call (i := 6) rfl (by kernel_rfl) (fun Kc hK => ?_)
      go_simp
      refine hK.out _ _ ?_ (fun hHeld => ?_)
      · first | exact keepC3 hHeld b21 | exact keepC3 hHeld b20 | exact ⟨e8.c0, e8.c1, eA.c0, eA.c1, eB.c0, eB.c1, eb.drew⟩ | exact keepP3 hHeld (by omega) (by omega) (by omega) (by omega) _ _
      clear hK Kc
      obtain ⟨j0, j1, j2, j3⟩ : Bx ((w21.setCell ⟨w.heap.size + 1 + 1, 0, none⟩ (.int .i64 s6)).setCell ⟨w.heap.size + 1 + 1, 1, none⟩ (.slice d6 l6 c6)) (w.heap.size + 1 + 1 + 1) (.int .i64 0) (.slice none 0 0) := (((e5.drew.on b20).on b21).put (by omega)).put (by omega)
      refine take_call (i := 7) rfl (by kernel_rfl) (fun Kc hK => ?_)
      go_simp
      refine hK.out _ _ ?_ (fun hHeld => ?_)
      · first | exact keepC3 hHeld b21 | exact keepC3 hHeld b20 | exact ⟨e8.c0, e8.c1, eA.c0, eA.c1, eB.c0, eB.c1, eb.drew⟩ | exact keepP3 hHeld (by omega) (by omega) (by omega) (by omega) _ _
      clear hK Kc
      refine wpAnyH_done (by kernel_rfl) ?_ _
      go_wp2
      have z2 : WF.heap.size ≤ w20.heap.size := b20.size
      exact bodyPost_ret (v := .tuple #[.agg #[.int .i64 s6, .slice d6 l6 c6], .agg #[.int .i64 s21, .slice d21 l21 c21]]) (by simp [results, Try.results32, go_sem, *]) rfl (endRF (((eq.below ((Below.refl _ _).drew)).below b20).below b21) h21 (also (also eb.drew b20) b21) (F6 _ (by omega)) (F6 _ (by omega)) (f21 _ (Nat.lt_of_lt_of_le (Nat.lt_trans g2 (bx_lt e8)) z2) ⟨n2, f20 _ (Nat.lt_trans g2 (bx_lt e8.drew)) trivial⟩) (f21 _ (Nat.lt_of_lt_of_le (Nat.lt_trans g8 (bx_lt e8)) z2) ⟨n3, f20 _ (Nat.lt_trans g8 (bx_lt e8.drew)) trivial⟩) (F6.mono (by omega)) _ _ _ _)
    · skip
      have F6 : Far W.heap.size d6 l6 := fun j hj => f6 j (Nat.lt_of_lt_of_le (Nat.lt_of_lt_of_le hj (Nat.le_trans (Nat.le_trans b1.size b2.size) b3.size)) b5.size) ⟨F2 j hj, f5 j (Nat.lt_of_lt_of_le hj (Nat.le_trans (Nat.le_trans b1.size b2.size) b3.size)) trivial⟩
      have n8 : NA b8 d6 l6 := f6 b8 (Nat.lt_of_lt_of_le (bx_lt x8) b5.size) ⟨n82, f5 b8 (bx_lt x8') trivial⟩
      have e8 : Bx ((w6.setCell ⟨b8, 0, none⟩ (.int .i64 s6)).setCell ⟨b8, 1, none⟩ (.slice d6 l6 c6)) b8 (.int .i64 s6) (.slice d6 l6 c6) := ((x8'.on b5).on b6).set
      have eA := ((((XA.on d0).on b5).on b6).put (i := 0) (v := .int .i64 s6) (show b8 ≠ _ by omega)).put (i := 1) (v := .slice d6 l6 c6) (show b8 ≠ _ by omega)
      have eB := ((((XB.on d0).on b5).on b6).put (i := 0) (v := .int .i64 s6) (show b8 ≠ _ by omega)).put (i := 1) (v := .slice d6 l6 c6) (show b8 ≠ _ by omega)
      have e4 := ((((X4.on d0).on b5).on b6).put (i := 0) (v := .int .i64 s6) (show b8 ≠ _ by omega)).put (i := 1) (v := .slice d6 l6 c6) (show b8 ≠ _ by omega)
      have e5 := ((((X5.on d0).on b5).on b6).put (i := 0) (v := .int .i64 s6) (show b8 ≠ _ by omega)).put (i := 1) (v := .slice d6 l6 c6) (show b8 ≠ _ by omega)
      have ex := (((hxB.below d0).below b5).below b6).put2 nx8 (.int .i64 s6) (.slice d6 l6 c6)
      have ey := (((hyB.below d0).below b5).below b6).put2 ny8 (.int .i64 s6) (.slice d6 l6 c6)
      have eq := h6.put2 n8 (.int .i64 s6) (.slice d6 l6 c6)
      have eb := below_put2 (also (also (also BW d0) b5) b6) (show w.heap.size ≤ b8 by omega) (.int .i64 s6) (.slice d6 l6 c6)
      rw [← HQ1.out] at eq
      clear x8 x8' i0 i1 i2 i3 k0 k1 k2 k3 j0 j1 j2 j3 XA XB X4 X5 hxB hyB H2 BW F2 f6 f5 h5 h6 d0
      dsimp only [Exit.then]
      go_wp2
      generalize (w6.setCell ⟨b8, 0, none⟩ (.int .i64 s6)).setCell ⟨b8, 1, none⟩ (.slice d6 l6 c6) = WF at e8 eA eB e4 e5 ex ey eq eb ⊢
      have g2 : w.heap.size + 1 + 1 < b8 := by omega
      refine wp_region_held_drew (S := (fun w' => w'.cell? ⟨b8, 0, none⟩ = some (.int .i64 s6) ∧ w'.cell? ⟨b8, 1, none⟩ = some (.slice d6 l6 c6) ∧ w'.cell? ⟨w.heap.size, 0, none⟩ = some (.int .i64 s) ∧ w'.cell? ⟨w.heap.size, 1, none⟩ = some (.slice d l c) ∧ w'.cell? ⟨w.heap.size + 1, 0, none⟩ = some (.int .i64 t) ∧ w'.cell? ⟨w.heap.size + 1, 1, none⟩ = some (.slice g h k) ∧ Below w.heap.size w w')) (by kernel_rfl) ?_ (fun hHeld => ?_)
      · first | exact keepC3 hHeld b21 | exact keepC3 hHeld b20 | exact ⟨e8.c0, e8.c1, eA.c0, eA.c1, eB.c0, eB.c1, eb.drew⟩ | exact keepP3 hHeld (by omega) (by omega) (by omega) (by omega) _ _
      refine take_yes (i := 0) (v := ?vmm0) rfl (by kernel_rfl) (by kernel_rfl) (by kernel_rfl) (fun _ _ _ h => h) (by rfl) (by assumption) ?hymm0 ?restmm0
      case hymm0 => (intro w hSw; (try dsimp only at hSw); first | (go_simp; done) | (go_simp; with_reducible rfl))
      simp only [Act.put, List.setIfInBounds_toArray, List.set_cons_zero, List.set_cons_succ]
      refine take_yes (i := 1) (v := ?vmm1) rfl (by kernel_rfl) (by kernel_rfl) (by kernel_rfl) (fun _ _ _ h => h) (by rfl) (by assumption) ?hymm1 ?restmm1
      case hymm1 => (intro w hSw; (try dsimp only at hSw); first | (go_simp; done) | (go_simp; with_reducible rfl))
      simp only [Act.put, List.setIfInBounds_toArray, List.set_cons_zero, List.set_cons_succ]
      refine take_yes (i := 2) (v := ?vmm2) rfl (by kernel_rfl) (by kernel_rfl) (by kernel_rfl) (fun _ _ _ h => h) (by rfl) (by assumption) ?hymm2 ?restmm2
      case hymm2 => (intro w hSw; (try dsimp only at hSw); first | (go_simp; done) | (go_simp; with_reducible rfl))
      simp only [Act.put, List.setIfInBounds_toArray, List.set_cons_zero, List.set_cons_succ]
      refine take_yes (i := 3) (v := ?vmm3) rfl (by kernel_rfl) (by kernel_rfl) (by kernel_rfl) (fun _ _ _ h => h) (by rfl) (by assumption) ?hymm3 ?restmm3
      case hymm3 => (intro w hSw; (try dsimp only at hSw); first | (go_simp; done) | (go_simp; with_reducible rfl))
      simp only [Act.put, List.setIfInBounds_toArray, List.set_cons_zero, List.set_cons_succ]
      refine take_call (i := 4) rfl (by kernel_rfl) (fun Kc hK => ?_)
      go_simp
      (go_at_call 26; refine (rwMul s6 t d6 g l6 c6 h k Q y (Q * y) _ (eq.below ((Below.refl _ _).drew)) (ey.below ((Below.refl _ _).drew)) fq fy rfl).mono ?_; rintro e w20 ⟨s20, d20, l20, c20, rfl, h20, f20, b20⟩)
      refine hK.out _ _ ?_ (fun hHeld => ?_)
      · first | exact keepC3 hHeld b21 | exact keepC3 hHeld b20 | exact ⟨e8.c0, e8.c1, eA.c0, eA.c1, eB.c0, eB.c1, eb.drew⟩ | exact keepP3 hHeld (by omega) (by omega) (by omega) (by omega) _ _
      clear hK Kc
      refine take_call (i := 5) rfl (by kernel_rfl) (fun Kc hK => ?_)
      go_simp
      (go_at_call 42; refine (rwSub s s20 d d20 l c l20 c20 x (Q * y) R _ ((ex.below ((Below.refl _ _).drew)).below b20) h20 fx fp HR.out).mono ?_; rintro e w21 ⟨s21, d21, l21, c21, rfl, h21, f21, b21⟩)
      refine hK.out _ _ ?_ (fun hHeld => ?_)
      · first | exact keepC3 hHeld b21 | exact keepC3 hHeld b20 | exact ⟨e8.c0, e8.c1, eA.c0, eA.c1, eB.c0, eB.c1, eb.drew⟩ | exact keepP3 hHeld (by omega) (by omega) (by omega) (by omega) _ _
      clear hK Kc
      obtain ⟨k0, k1, k2, k3⟩ := (e4.drew.on b20).on b21
      refine take_call (i := 6) rfl (by kernel_rfl) (fun Kc hK => ?_)
      go_simp
      refine hK.out _ _ ?_ (fun hHeld => ?_)
      · first | exact keepC3 hHeld b21 | exact keepC3 hHeld b20 | exact ⟨e8.c0, e8.c1, eA.c0, eA.c1, eB.c0, eB.c1, eb.drew⟩ | exact keepP3 hHeld (by omega) (by omega) (by omega) (by omega) _ _
      clear hK Kc
      obtain ⟨j0, j1, j2, j3⟩ : Bx ((w21.setCell ⟨w.heap.size + 1 + 1, 0, none⟩ (.int .i64 s6)).setCell ⟨w.heap.size + 1 + 1, 1, none⟩ (.slice d6 l6 c6)) (w.heap.size + 1 + 1 + 1) (.int .i64 0) (.slice none 0 0) := (((e5.drew.on b20).on b21).put (by omega)).put (by omega)
      refine take_call (i := 7) rfl (by kernel_rfl) (fun Kc hK => ?_)
      go_simp
      refine hK.out _ _ ?_ (fun hHeld => ?_)
      · first | exact keepC3 hHeld b21 | exact keepC3 hHeld b20 | exact ⟨e8.c0, e8.c1, eA.c0, eA.c1, eB.c0, eB.c1, eb.drew⟩ | exact keepP3 hHeld (by omega) (by omega) (by omega) (by omega) _ _
      clear hK Kc
      refine wpAnyH_done (by kernel_rfl) ?_ _
      go_wp2
      have z2 : WF.heap.size ≤ w20.heap.size := b20.size
      exact bodyPost_ret (v := .tuple #[.agg #[.int .i64 s6, .slice d6 l6 c6], .agg #[.int .i64 s21, .slice d21 l21 c21]]) (by simp [results, Try.results32, go_sem, *]) rfl (endRF (((eq.below ((Below.refl _ _).drew)).below b20).below b21) h21 (also (also eb.drew b20) b21) (F6 _ (by omega)) (F6 _ (by omega)) (f21 _ (Nat.lt_of_lt_of_le (Nat.lt_trans g2 (bx_lt e8)) z2) ⟨n2, f20 _ (Nat.lt_trans g2 (bx_lt e8.drew)) trivial⟩) (f21 _ (Nat.lt_of_lt_of_le (Nat.lt_trans g8 (bx_lt e8)) z2) ⟨n3, f20 _ (Nat.lt_trans g8 (bx_lt e8.drew)) trivial⟩) (F6.mono (by omega)) _ _ _ _)
  · have HQ1 : Hid (Q = z0) := by have := HQ.out; rw [if_neg hadj, Int.sub_zero] at this; exact this
    clear HQ
    have hnot : ¬ (sd < 0 ∧ 0 < lr) := fun hh => hadj ⟨hh.1, fun e => by have := hlr.2 e; omega⟩
    clear hlr hadj
    by_cases hsn : sd < 0
    · have hl0 : lr = 0 := by
        rcases Nat.eq_zero_or_pos lr with e | e
        · exact e
        · exact absurd ⟨hsn, e⟩ hnot
      subst hl0
      clear hnot
      go_wp2
      have e8 := x8
      have eA := XA
      have eB := XB
      have e4 := X4
      have e5 := X5
      have ex := hxB
      have ey := hyB
      have eq := H2
      have eb := BW
      rw [← HQ1.out] at eq
      clear x8 k0 k1 k2 k3 j0 j1 j2 j3 XA XB X4 X5 hxB hyB H2 BW
      generalize w2.alloc (.cells #[.int .i64 s2, .slice a2 l2 c2] 47) = WF at e8 eA eB e4 e5 ex ey eq eb b3 ⊢
      generalize w2.heap.size = b8 at e8 g8 nx8 ny8 n82 ⊢
      have g2 : w.heap.size + 1 + 1 < b8 := by omega
      refine wp_region_held_drew (S := (fun w' => w'.cell? ⟨b8, 0, none⟩ = some (.int .i64 s2) ∧ w'.cell? ⟨b8, 1, none⟩ = some (.slice a2 l2 c2) ∧ w'.cell? ⟨w.heap.size, 0, none⟩ = some (.int .i64 s) ∧ w'.cell? ⟨w.heap.size, 1, none⟩ = some (.slice d l c) ∧ w'.cell? ⟨w.heap.size + 1, 0, none⟩ = some (.int .i64 t) ∧ w'.cell? ⟨w.heap.size + 1, 1, none⟩ = some (.slice g h k) ∧ Below w.heap.size w w')) (by kernel_rfl) ?_ (fun hHeld => ?_)
      · first | exact keepC3 hHeld b21 | exact keepC3 hHeld b20 | exact ⟨e8.c0, e8.c1, eA.c0, eA.c1, eB.c0, eB.c1, eb.drew⟩ | exact keepP3 hHeld (by omega) (by omega) (by omega) (by omega) _ _
      refine take_yes (i := 0) (v := ?vk0) rfl (by kernel_rfl) (by kernel_rfl) (by kernel_rfl) (fun _ _ _ h => h) (by rfl) (by assumption) ?hyk0 ?restk0
      case hyk0 => (intro w hSw; (try dsimp only at hSw); first | (go_simp; done) | (go_simp; with_reducible rfl))
      simp only [Act.put, List.setIfInBounds_toArray, List.set_cons_zero, List.set_cons_succ]
      refine take_yes (i := 1) (v := ?vk1) rfl (by kernel_rfl) (by kernel_rfl) (by kernel_rfl) (fun _ _ _ h => h) (by rfl) (by assumption) ?hyk1 ?restk1
      case hyk1 => (intro w hSw; (try dsimp only at hSw); first | (go_simp; done) | (go_simp; with_reducible rfl))
      simp only [Act.put, List.setIfInBounds_toArray, List.set_cons_zero, List.set_cons_succ]
      refine take_yes (i := 2) (v := ?vk2) rfl (by kernel_rfl) (by kernel_rfl) (by kernel_rfl) (fun _ _ _ h => h) (by rfl) (by assumption) ?hyk2 ?restk2
      case hyk2 => (intro w hSw; (try dsimp only at hSw); first | (go_simp; done) | (go_simp; with_reducible rfl))
      simp only [Act.put, List.setIfInBounds_toArray, List.set_cons_zero, List.set_cons_succ]
      refine take_yes (i := 3) (v := ?vk3) rfl (by kernel_rfl) (by kernel_rfl) (by kernel_rfl) (fun _ _ _ h => h) (by rfl) (by assumption) ?hyk3 ?restk3
      case hyk3 => (intro w hSw; (try dsimp only at hSw); first | (go_simp; done) | (go_simp; with_reducible rfl))
      simp only [Act.put, List.setIfInBounds_toArray, List.set_cons_zero, List.set_cons_succ]
      refine take_call (i := 4) rfl (by kernel_rfl) (fun Kc hK => ?_)
      go_simp
      (go_at_call 26; refine (rwMul s2 t a2 g l2 c2 h k Q y (Q * y) _ (eq.below ((Below.refl _ _).drew)) (ey.below ((Below.refl _ _).drew)) fq fy rfl).mono ?_; rintro e w20 ⟨s20, d20, l20, c20, rfl, h20, f20, b20⟩)
      refine hK.out _ _ ?_ (fun hHeld => ?_)
      · first | exact keepC3 hHeld b21 | exact keepC3 hHeld b20 | exact ⟨e8.c0, e8.c1, eA.c0, eA.c1, eB.c0, eB.c1, eb.drew⟩ | exact keepP3 hHeld (by omega) (by omega) (by omega) (by omega) _ _
      clear hK Kc
      refine take_call (i := 5) rfl (by kernel_rfl) (fun Kc hK => ?_)
      go_simp
      (go_at_call 42; refine (rwSub s s20 d d20 l c l20 c20 x (Q * y) R _ ((ex.below ((Below.refl _ _).drew)).below b20) h20 fx fp HR.out).mono ?_; rintro e w21 ⟨s21, d21, l21, c21, rfl, h21, f21, b21⟩)
      refine hK.out _ _ ?_ (fun hHeld => ?_)
      · first | exact keepC3 hHeld b21 | exact keepC3 hHeld b20 | exact ⟨e8.c0, e8.c1, eA.c0, eA.c1, eB.c0, eB.c1, eb.drew⟩ | exact keepP3 hHeld (by omega) (by omega) (by omega) (by omega) _ _
      clear hK Kc
      obtain ⟨k0, k1, k2, k3⟩ := (e4.drew.on b20).on b21
      refine take_call (i := 6) rfl (by kernel_rfl) (fun Kc hK => ?_)
      go_simp
      refine hK.out _ _ ?_ (fun hHeld => ?_)
      · first | exact keepC3 hHeld b21 | exact keepC3 hHeld b20 | exact ⟨e8.c0, e8.c1, eA.c0, eA.c1, eB.c0, eB.c1, eb.drew⟩ | exact keepP3 hHeld (by omega) (by omega) (by omega) (by omega) _ _
      clear hK Kc
      obtain ⟨j0, j1, j2, j3⟩ : Bx ((w21.setCell ⟨w.heap.size + 1 + 1, 0, none⟩ (.int .i64 s2)).setCell ⟨w.heap.size + 1 + 1, 1, none⟩ (.slice a2 l2 c2)) (w.heap.size + 1 + 1 + 1) (.int .i64 0) (.slice none 0 0) := (((e5.drew.on b20).on b21).put (by omega)).put (by omega)
      refine take_call (i := 7) rfl (by kernel_rfl) (fun Kc hK => ?_)
      go_simp
      refine hK.out _ _ ?_ (fun hHeld => ?_)
      · first | exact keepC3 hHeld b21 | exact keepC3 hHeld b20 | exact ⟨e8.c0, e8.c1, eA.c0, eA.c1, eB.c0, eB.c1, eb.drew⟩ | exact keepP3 hHeld (by omega) (by omega) (by omega) (by omega) _ _
      clear hK Kc
      refine wpAnyH_done (by kernel_rfl) ?_ _
      go_wp2
      have z2 : WF.heap.size ≤ w20.heap.size := b20.size
      exact bodyPost_ret (v := .tuple #[.agg #[.int .i64 s2, .slice a2 l2 c2], .agg #[.int .i64 s21, .slice d21 l21 c21]]) (by simp [results, Try.results32, go_sem, *]) rfl (endRF (((eq.below ((Below.refl _ _).drew)).below b20).below b21) h21 (also (also eb.drew b20) b21) (F2 _ (by omega)) (F2 _ (by omega)) (f21 _ (Nat.lt_of_lt_of_le (Nat.lt_trans g2 (bx_lt e8)) z2) ⟨n2, f20 _ (Nat.lt_trans g2 (bx_lt e8.drew)) trivial⟩) (f21 _ (Nat.lt_of_lt_of_le (Nat.lt_trans g8 (bx_lt e8)) z2) ⟨n3, f20 _ (Nat.lt_trans g8 (bx_lt e8.drew)) trivial⟩) (F2.mono (by omega)) _ _ _ _)
    · clear hnot
      have hsn' : decide (sd < 0) = false := by simpa using hsn
      go_wp2
      have e8 := x8
      have eA := XA
      have eB := XB
      have e4 := X4
      have e5 := X5
      have ex := hxB
      have ey := hyB
      have eq := H2
      have eb := BW
      rw [← HQ1.out] at eq
      clear x8 k0 k1 k2 k3 j0 j1 j2 j3 XA XB X4 X5 hxB hyB H2 BW
      generalize w2.alloc (.cells #[.int .i64 s2, .slice a2 l2 c2] 47) = WF at e8 eA eB e4 e5 ex ey eq eb b3 ⊢
      generalize w2.heap.size = b8 at e8 g8 nx8 ny8 n82 ⊢
      have g2 : w.heap.size + 1 + 1 < b8 := by omega
      refine wp_region_held_drew (S := (fun w' => w'.cell? ⟨b8, 0, none⟩ = some (.int .i64 s2) ∧ w'.cell? ⟨b8, 1, none⟩ = some (.slice a2 l2 c2) ∧ w'.cell? ⟨w.heap.size, 0, none⟩ = some (.int .i64 s) ∧ w'.cell? ⟨w.heap.size, 1, none⟩ = some (.slice d l c) ∧ w'.cell? ⟨w.heap.size + 1, 0, none⟩ = some (.int .i64 t) ∧ w'.cell? ⟨w.heap.size + 1, 1, none⟩ = some (.slice g h k) ∧ Below w.heap.size w w')) (by kernel_rfl) ?_ (fun hHeld => ?_)
      · first | exact keepC3 hHeld b21 | exact keepC3 hHeld b20 | exact ⟨e8.c0, e8.c1, eA.c0, eA.c1, eB.c0, eB.c1, eb.drew⟩ | exact keepP3 hHeld (by omega) (by omega) (by omega) (by omega) _ _
      refine take_yes (i := 0) (v := ?vl0) rfl (by kernel_rfl) (by kernel_rfl) (by kernel_rfl) (fun _ _ _ h => h) (by rfl) (by assumption) ?hyl0 ?restl0
      case hyl0 => (intro w hSw; (try dsimp only at hSw); first | (go_simp; done) | (go_simp; with_reducible rfl))
      simp only [Act.put, List.setIfInBounds_toArray, List.set_cons_zero, List.set_cons_succ]
      refine take_yes (i := 1) (v := ?vl1) rfl (by kernel_rfl) (by kernel_rfl) (by kernel_rfl) (fun _ _ _ h => h) (by rfl) (by assumption) ?hyl1 ?restl1
      case hyl1 => (intro w hSw; (try dsimp only at hSw); first | (go_simp; done) | (go_simp; with_reducible rfl))
      simp only [Act.put, List.setIfInBounds_toArray, List.set_cons_zero, List.set_cons_succ]
      refine take_yes (i := 2) (v := ?vl2) rfl (by kernel_rfl) (by kernel_rfl) (by kernel_rfl) (fun _ _ _ h => h) (by rfl) (by assumption) ?hyl2 ?restl2
      case hyl2 => (intro w hSw; (try dsimp only at hSw); first | (go_simp; done) | (go_simp; with_reducible rfl))
      simp only [Act.put, List.setIfInBounds_toArray, List.set_cons_zero, List.set_cons_succ]
      refine take_yes (i := 3) (v := ?vl3) rfl (by kernel_rfl) (by kernel_rfl) (by kernel_rfl) (fun _ _ _ h => h) (by rfl) (by assumption) ?hyl3 ?restl3
      case hyl3 => (intro w hSw; (try dsimp only at hSw); first | (go_simp; done) | (go_simp; with_reducible rfl))
      simp only [Act.put, List.setIfInBounds_toArray, List.set_cons_zero, List.set_cons_succ]
      refine take_call (i := 4) rfl (by kernel_rfl) (fun Kc hK => ?_)
      go_simp
      (go_at_call 26; refine (rwMul s2 t a2 g l2 c2 h k Q y (Q * y) _ (eq.below ((Below.refl _ _).drew)) (ey.below ((Below.refl _ _).drew)) fq fy rfl).mono ?_; rintro e w20 ⟨s20, d20, l20, c20, rfl, h20, f20, b20⟩)
      refine hK.out _ _ ?_ (fun hHeld => ?_)
      · first | exact keepC3 hHeld b21 | exact keepC3 hHeld b20 | exact ⟨e8.c0, e8.c1, eA.c0, eA.c1, eB.c0, eB.c1, eb.drew⟩ | exact keepP3 hHeld (by omega) (by omega) (by omega) (by omega) _ _
      clear hK Kc
      refine take_call (i := 5) rfl (by kernel_rfl) (fun Kc hK => ?_)
      go_simp
      (go_at_call 42; refine (rwSub s s20 d d20 l c l20 c20 x (Q * y) R _ ((ex.below ((Below.refl _ _).drew)).below b20) h20 fx fp HR.out).mono ?_; rintro e w21 ⟨s21, d21, l21, c21, rfl, h21, f21, b21⟩)
      refine hK.out _ _ ?_ (fun hHeld => ?_)
      · first | exact keepC3 hHeld b21 | exact keepC3 hHeld b20 | exact ⟨e8.c0, e8.c1, eA.c0, eA.c1, eB.c0, eB.c1, eb.drew⟩ | exact keepP3 hHeld (by omega) (by omega) (by omega) (by omega) _ _
      clear hK Kc
      obtain ⟨k0, k1, k2, k3⟩ := (e4.drew.on b20).on b21
      refine take_call (i := 6) rfl (by kernel_rfl) (fun Kc hK => ?_)
      go_simp
      refine hK.out _ _ ?_ (fun hHeld => ?_)
      · first | exact keepC3 hHeld b21 | exact keepC3 hHeld b20 | exact ⟨e8.c0, e8.c1, eA.c0, eA.c1, eB.c0, eB.c1, eb.drew⟩ | exact keepP3 hHeld (by omega) (by omega) (by omega) (by omega) _ _
      clear hK Kc
      obtain ⟨j0, j1, j2, j3⟩ : Bx ((w21.setCell ⟨w.heap.size + 1 + 1, 0, none⟩ (.int .i64 s2)).setCell ⟨w.heap.size + 1 + 1, 1, none⟩ (.slice a2 l2 c2)) (w.heap.size + 1 + 1 + 1) (.int .i64 0) (.slice none 0 0) := (((e5.drew.on b20).on b21).put (by omega)).put (by omega)
      refine take_call (i := 7) rfl (by kernel_rfl) (fun Kc hK => ?_)
      go_simp
      refine hK.out _ _ ?_ (fun hHeld => ?_)
      · first | exact keepC3 hHeld b21 | exact keepC3 hHeld b20 | exact ⟨e8.c0, e8.c1, eA.c0, eA.c1, eB.c0, eB.c1, eb.drew⟩ | exact keepP3 hHeld (by omega) (by omega) (by omega) (by omega) _ _
      clear hK Kc
      refine wpAnyH_done (by kernel_rfl) ?_ _
      go_wp2
      have z2 : WF.heap.size ≤ w20.heap.size := b20.size
      exact bodyPost_ret (v := .tuple #[.agg #[.int .i64 s2, .slice a2 l2 c2], .agg #[.int .i64 s21, .slice d21 l21 c21]]) (by simp [results, Try.results32, go_sem, *]) rfl (endRF (((eq.below ((Below.refl _ _).drew)).below b20).below b21) h21 (also (also eb.drew b20) b21) (F2 _ (by omega)) (F2 _ (by omega)) (f21 _ (Nat.lt_of_lt_of_le (Nat.lt_trans g2 (bx_lt e8)) z2) ⟨n2, f20 _ (Nat.lt_trans g2 (bx_lt e8.drew)) trivial⟩) (f21 _ (Nat.lt_of_lt_of_le (Nat.lt_trans g8 (bx_lt e8)) z2) ⟨n3, f20 _ (Nat.lt_trans g8 (bx_lt e8.drew)) trivial⟩) (F2.mono (by omega)) _ _ _ _)
theorem rwFloor (s t : Int) (d g : Option Addr) (l c h k : Nat) (x y : Int) (w : World) (hx : RN w s d l c x) (hy : RN w t g h k y) (fx : hf.nlen x.natAbs ≤ 1000000) (fy : hf.nlen y.natAbs ≤ 1000000) (h0 : y ≠ 0) (fq0 : hf.nlen (x.sign * y.sign * ((x.natAbs / y.natAbs : Nat) : Int)).natAbs ≤ 1000000) (fq : hf.nlen (flQ x y).natAbs ≤ 1000000) (fp : hf.nlen (flQ x y * y).natAbs ≤ 1000000)
    (Q R : Int) (hQ0 : Q = flQ x y) (hR0 : R = flR x y) : Calls Try.prog 32 #[.agg #[.int .i64 s, .slice d l c], .agg #[.int .i64 t, .slice g h k]] w (GotRF w Q R) :=
  (rwFloorF s t d g l c h k x y w hx hy fx fy h0 fq0 fq fp Q R hQ0 hR0).mono fun _ _ ⟨s1, d1, l1, c1, s2, d2, l2, c2, he, h1, h2, _, hb⟩ => ⟨s1, d1, l1, c1, s2, d2, l2, c2, he, h1, h2, hb⟩
end Go.Proofs.Ytnhoaopmnoilbaa

namespace Go.Proofs.Ytnhoaopmnoilbaa
open Go.RowKit
set_option linter.unusedVariables false

theorem few63 : hf.nlen (9223372036854775807 : Int).natAbs ≤ 1000000 := Nat.le_trans (hf.nlen_le (n := 4) (by decide)) (by decide)
theorem few64 : hf.nlen (-9223372036854775808 : Int).natAbs ≤ 1000000 := Nat.le_trans (hf.nlen_le (n := 4) (by decide)) (by decide)
/-- What holds at the head of each round. -/
def RsRel (W : World) (U l : Nat) (nv i : Value) (wr : World) : Prop := ∃ r : Nat, r ≤ l ∧ i = .int .i64 ((r : Int) - 1) ∧ nv = .int .i64 (-((U / 65536 ^ r : Nat) : Int)) ∧ wr = W
theorem rs_step (U q : Nat) : -((U / 65536 ^ (q + 1) : Nat) : Int) * 65536 - hf.dg (U : Int) q = -((U / 65536 ^ q : Nat) : Int) := by
  rw [hf.dg_nat, Nat.pow_succ, ← Nat.div_div_eq_div_mul]
  omega
set_option maxRecDepth 100000 in
set_option maxHeartbeats 8000000 in
theorem rwSmall (s : Int) (d : Option Addr) (l c : Nat) (z : Int) (w : World) (hd : RN w s d l c z) (fz : hf.nlen z.natAbs ≤ 1000000) {v : Int} {ok : Bool} (hv : v = smV z) (hok : ok = smOk z) :
    Calls Try.prog 29 #[.agg #[.int .i64 s, .slice d l c]] w fun e w' => e = .returned (.tuple #[.int .i64 v, .bool ok]) ∧ Below w.heap.size w w' := by
  have B0 : Below w.heap.size w (w.alloc (.cells #[.int .i64 s, .slice d l c] 47)) := (Below.refl _ _).alloc (Nat.le_refl _) _
  have x0 := (bx_new w (.int .i64 s) (.slice d l c) 47).drew
  obtain ⟨g1, hg1⟩ : ∃ g1, g1 = (z - 9223372036854775807).sign := ⟨_, rfl⟩
  obtain ⟨g2, hg2⟩ : ∃ g2, g2 = (z - -9223372036854775808).sign := ⟨_, rfl⟩
  have G1 : Hid _ := hg1
  have G2 : Hid _ := hg2
  by_cases hbig : 9223372036854775807 < z
  · have hno : smOk z = false := by unfold smOk; simp; omega
    obtain rfl : ok = false := by rw [hok, hno]
    obtain rfl : v = 0 := by rw [hv]; unfold smV; rw [hno]; rfl
    have e1 : 0 < g1 := by rw [hg1, sign_pos (by omega)]; decide
    clear hg1 hg2 hv hok
    go_enter Try.func29, Try.ntmps29
    go_wp2
    refine wp_region_held_drew (S := (fun w' => w'.cell? ⟨w.heap.size, 0, none⟩ = some (.int .i64 s) ∧ w'.cell? ⟨w.heap.size, 1, none⟩ = some (.slice d l c) ∧ Below w.heap.size w w')) (by kernel_rfl) ?_ (fun hHeld => ?_)
    · first | exact keepB1 hHeld bb | exact ⟨x0.c0, x0.c1, B0.drew⟩ | exact hHeld
    refine take_yes (i := 0) (v := ?va0) rfl (by kernel_rfl) (by kernel_rfl) (by kernel_rfl) (fun _ _ _ h => h) (by rfl) (by assumption) ?hya0 ?resta0
    case hya0 => (intro w hSw; (try dsimp only at hSw); first | (go_simp; done) | (go_simp; with_reducible rfl))
    simp only [Act.put, List.setIfInBounds_toArray, List.set_cons_zero, List.set_cons_succ]
    refine take_call (i := 1) rfl (by kernel_rfl) (fun K hK => ?_)
    go_simp
    (go_at_call 25; refine (rwLong 9223372036854775807 _ (by decide) (by decide)).mono ?_; rintro e w1 ⟨s1, d1, l1, c1, rfl, h1, f1, bb⟩; have b1 := bb)
    refine hK.out _ _ ?_ (fun hHeld => ?_)
    · first | exact keepB1 hHeld bb | exact ⟨x0.c0, x0.c1, B0.drew⟩ | exact hHeld
    clear hK K
    refine take_call (i := 2) rfl (by kernel_rfl) (fun K hK => ?_)
    go_simp
    (go_at_call 40; refine (rwCmp s s1 d d1 l c l1 c1 z 9223372036854775807 _ (hd.below hHeld.2.2) h1 fz few63 G1.out).mono ?_; rintro e w2 ⟨rfl, bb⟩; have b2 := bb)
    refine hK.out _ _ ?_ (fun hHeld => ?_)
    · first | exact keepB1 hHeld bb | exact ⟨x0.c0, x0.c1, B0.drew⟩ | exact hHeld
    clear hK K
    refine take_yes (i := 3) (v := ?va3) rfl (by kernel_rfl) (by kernel_rfl) (by kernel_rfl) (fun _ _ _ h => h) (by rfl) (by assumption) ?hya3 ?resta3
    case hya3 => (intro w hSw; (try dsimp only at hSw); first | (go_simp; done) | (go_simp; with_reducible rfl))
    simp only [Act.put, List.setIfInBounds_toArray, List.set_cons_zero, List.set_cons_succ]
    refine take_yes (i := 4) (v := ?va4) rfl (by kernel_rfl) (by kernel_rfl) (by kernel_rfl) (fun _ _ _ h => h) (by rfl) (by assumption) ?hya4 ?resta4
    case hya4 => (intro w hSw; (try dsimp only at hSw); first | (go_simp; done) | (go_simp; with_reducible rfl))
    simp only [Act.put, List.setIfInBounds_toArray, List.set_cons_zero, List.set_cons_succ]
    refine take_no (i := 5) rfl (by kernel_rfl) (by kernel_rfl) (by kernel_rfl) (fun _ _ _ h => h) (by rfl) (by assumption) ?_
    simp only [Act.put, List.setIfInBounds_toArray, List.set_cons_zero, List.set_cons_succ]
    refine take_call (i := 6) rfl (by kernel_rfl) (fun K hK => ?_)
    go_simp
    refine hK.out _ _ ?_ (fun hHeld => ?_)
    · first | exact keepB1 hHeld bb | exact ⟨x0.c0, x0.c1, B0.drew⟩ | exact hHeld
    clear hK K
    refine take_call (i := 7) rfl (by kernel_rfl) (fun K hK => ?_)
    go_simp
    refine hK.out _ _ ?_ (fun hHeld => ?_)
    · first | exact keepB1 hHeld bb | exact ⟨x0.c0, x0.c1, B0.drew⟩ | exact hHeld
    clear hK K
    refine take_no (i := 8) rfl (by kernel_rfl) (by kernel_rfl) (by kernel_rfl) (fun _ _ _ h => h) (by rfl) (by assumption) ?_
    simp only [Act.put, List.setIfInBounds_toArray, List.set_cons_zero, List.set_cons_succ]
    refine take_yes (i := 9) (v := ?va9) rfl (by kernel_rfl) (by kernel_rfl) (by kernel_rfl) (fun _ _ _ h => h) (by rfl) (by assumption) ?hya9 ?resta9
    case hya9 => (intro w hSw; (try dsimp only at hSw); first | (go_simp; done) | (go_simp; with_reducible rfl))
    simp only [Act.put, List.setIfInBounds_toArray, List.set_cons_zero, List.set_cons_succ]
    refine wpAnyH_done (by kernel_rfl) ?_ _
    go_wp2
    go_ret2
    exact ⟨rfl, hHeld.2.2⟩
  · have e1 : ¬ 0 < g1 := by rw [hg1]; rcases sign_cases (z - 9223372036854775807) with ⟨_, e⟩ | ⟨_, e⟩ | ⟨_, e⟩ <;> omega
    have e1' : decide (0 < g1) = false := by simpa using e1
    by_cases hsm : z < -9223372036854775808
    · have hno : smOk z = false := by unfold smOk; simp; omega
      obtain rfl : ok = false := by rw [hok, hno]
      obtain rfl : v = 0 := by rw [hv]; unfold smV; rw [hno]; rfl
      have e2 : g2 < 0 := by rw [hg2, sign_neg (by omega)]; decide
      clear hg1 hg2 hv hok
      go_enter Try.func29, Try.ntmps29
      go_wp2
      refine wp_region_held_drew (S := (fun w' => w'.cell? ⟨w.heap.size, 0, none⟩ = some (.int .i64 s) ∧ w'.cell? ⟨w.heap.size, 1, none⟩ = some (.slice d l c) ∧ Below w.heap.size w w')) (by kernel_rfl) ?_ (fun hHeld => ?_)
      · first | exact keepB1 hHeld bb | exact ⟨x0.c0, x0.c1, B0.drew⟩ | exact hHeld
      refine take_yes (i := 0) (v := ?vb0) rfl (by kernel_rfl) (by kernel_rfl) (by kernel_rfl) (fun _ _ _ h => h) (by rfl) (by assumption) ?hyb0 ?restb0
      case hyb0 => (intro w hSw; (try dsimp only at hSw); first | (go_simp; done) | (go_simp; with_reducible rfl))
      simp only [Act.put, List.setIfInBounds_toArray, List.set_cons_zero, List.set_cons_succ]
      refine take_call (i := 1) rfl (by kernel_rfl) (fun K hK => ?_)
      go_simp
      (go_at_call 25; refine (rwLong 9223372036854775807 _ (by decide) (by decide)).mono ?_; rintro e w1 ⟨s1, d1, l1, c1, rfl, h1, f1, bb⟩; have b1 := bb)
      refine hK.out _ _ ?_ (fun hHeld => ?_)
      · first | exact keepB1 hHeld bb | exact ⟨x0.c0, x0.c1, B0.drew⟩ | exact hHeld
      clear hK K
      refine take_call (i := 2) rfl (by kernel_rfl) (fun K hK => ?_)
      go_simp
      (go_at_call 40; refine (rwCmp s s1 d d1 l c l1 c1 z 9223372036854775807 _ (hd.below hHeld.2.2) h1 fz few63 G1.out).mono ?_; rintro e w2 ⟨rfl, bb⟩; have b2 := bb)
      refine hK.out _ _ ?_ (fun hHeld => ?_)
      · first | exact keepB1 hHeld bb | exact ⟨x0.c0, x0.c1, B0.drew⟩ | exact hHeld
      clear hK K
      refine take_yes (i := 3) (v := ?vb3) rfl (by kernel_rfl) (by kernel_rfl) (by kernel_rfl) (fun _ _ _ h => h) (by rfl) (by assumption) ?hyb3 ?restb3
      case hyb3 => (intro w hSw; (try dsimp only at hSw); first | (go_simp; done) | (go_simp; with_reducible rfl))
      simp only [Act.put, List.setIfInBounds_toArray, List.set_cons_zero, List.set_cons_succ]
      refine take_yes (i := 4) (v := ?vb4) rfl (by kernel_rfl) (by kernel_rfl) (by kernel_rfl) (fun _ _ _ h => h) (by rfl) (by assumption) ?hyb4 ?restb4
      case hyb4 => (intro w hSw; (try dsimp only at hSw); first | (go_simp; done) | (go_simp; with_reducible rfl))
      simp only [Act.put, List.setIfInBounds_toArray, List.set_cons_zero, List.set_cons_succ]
      refine take_yes (i := 5) (v := ?vb5) rfl (by kernel_rfl) (by kernel_rfl) (by kernel_rfl) (fun _ _ _ h => h) (by rfl) (by assumption) ?hyb5 ?restb5
      case hyb5 => (intro w hSw; (try dsimp only at hSw); first | (go_simp; done) | (go_simp; with_reducible rfl))
      simp only [Act.put, List.setIfInBounds_toArray, List.set_cons_zero, List.set_cons_succ]
      refine take_call (i := 6) rfl (by kernel_rfl) (fun K hK => ?_)
      go_simp
      (go_at_call 25; refine (rwLong (-9223372036854775808) _ (by decide) (by decide)).mono ?_; rintro e w3 ⟨s3, d3, l3, c3, rfl, h3, f3, bb⟩; have b3 := bb)
      refine hK.out _ _ ?_ (fun hHeld => ?_)
      · first | exact keepB1 hHeld bb | exact ⟨x0.c0, x0.c1, B0.drew⟩ | exact hHeld
      clear hK K
      refine take_call (i := 7) rfl (by kernel_rfl) (fun K hK => ?_)
      go_simp
      (go_at_call 40; refine (rwCmp s s3 d d3 l c l3 c3 z (-9223372036854775808) _ (hd.below hHeld.2.2) h3 fz few64 G2.out).mono ?_; rintro e w4 ⟨rfl, bb⟩; have b4 := bb)
      refine hK.out _ _ ?_ (fun hHeld => ?_)
      · first | exact keepB1 hHeld bb | exact ⟨x0.c0, x0.c1, B0.drew⟩ | exact hHeld
      clear hK K
      refine take_yes (i := 8) (v := ?vb8) rfl (by kernel_rfl) (by kernel_rfl) (by kernel_rfl) (fun _ _ _ h => h) (by rfl) (by assumption) ?hyb8 ?restb8
      case hyb8 => (intro w hSw; (try dsimp only at hSw); first | (go_simp; done) | (go_simp; with_reducible rfl))
      simp only [Act.put, List.setIfInBounds_toArray, List.set_cons_zero, List.set_cons_succ]
      refine take_yes (i := 9) (v := ?vb9) rfl (by kernel_rfl) (by kernel_rfl) (by kernel_rfl) (fun _ _ _ h => h) (by rfl) (by assumption) ?hyb9 ?restb9
      case hyb9 => (intro w hSw; (try dsimp only at hSw); first | (go_simp; done) | (go_simp; with_reducible rfl))
      simp only [Act.put, List.setIfInBounds_toArray, List.set_cons_zero, List.set_cons_succ]
      refine wpAnyH_done (by kernel_rfl) ?_ _
      go_wp2
      go_ret2
      exact ⟨rfl, hHeld.2.2⟩
    · have hyes : smOk z = true := by unfold smOk; simp; omega
      obtain rfl : ok = true := by rw [hok, hyes]
      have hvz : v = z := by rw [hv]; unfold smV; rw [hyes]; rfl
      have e2 : ¬ g2 < 0 := by rw [hg2]; rcases sign_cases (z - -9223372036854775808) with ⟨_, e⟩ | ⟨_, e⟩ | ⟨_, e⟩ <;> omega
      have e2' : decide (g2 < 0) = false := by simpa using e2
      obtain ⟨U, hU⟩ : ∃ U, U = z.natAbs := ⟨_, rfl⟩
      have hUl : U ≤ 9223372036854775808 := by omega
      have hsz : (z = U ∧ s = 1 ∧ 0 < U) ∨ (z = -(U : Int) ∧ (s = -1 ∨ s = 0)) := by
        rw [hd.sg]
        rcases sign_cases z with ⟨a, e⟩ | ⟨a, e⟩ | ⟨a, e⟩
        · exact Or.inr ⟨by omega, Or.inl e⟩
        · exact Or.inr ⟨by omega, Or.inr e⟩
        · exact Or.inl ⟨by omega, e, by omega⟩
      have HVZ : Hid _ := hvz
      have HUU : Hid _ := hU
      clear hg1 hg2 hv hok hvz hU
      go_enter Try.func29, Try.ntmps29
      go_wp2
      refine wp_region_held_drew (S := (fun w' => w'.cell? ⟨w.heap.size, 0, none⟩ = some (.int .i64 s) ∧ w'.cell? ⟨w.heap.size, 1, none⟩ = some (.slice d l c) ∧ Below w.heap.size w w')) (by kernel_rfl) ?_ (fun hHeld => ?_)
      · first | exact keepB1 hHeld bb | exact ⟨x0.c0, x0.c1, B0.drew⟩ | exact hHeld
      refine take_yes (i := 0) (v := ?vd0) rfl (by kernel_rfl) (by kernel_rfl) (by kernel_rfl) (fun _ _ _ h => h) (by rfl) (by assumption) ?hyd0 ?restd0
      case hyd0 => (intro w hSw; (try dsimp only at hSw); first | (go_simp; done) | (go_simp; with_reducible rfl))
      simp only [Act.put, List.setIfInBounds_toArray, List.set_cons_zero, List.set_cons_succ]
      refine take_call (i := 1) rfl (by kernel_rfl) (fun K hK => ?_)
      go_simp
      (go_at_call 25; refine (rwLong 9223372036854775807 _ (by decide) (by decide)).mono ?_; rintro e w1 ⟨s1, d1, l1, c1, rfl, h1, f1, bb⟩; have b1 := bb)
      refine hK.out _ _ ?_ (fun hHeld => ?_)
      · first | exact keepB1 hHeld bb | exact ⟨x0.c0, x0.c1, B0.drew⟩ | exact hHeld
      clear hK K
      refine take_call (i := 2) rfl (by kernel_rfl) (fun K hK => ?_)
      go_simp
      (go_at_call 40; refine (rwCmp s s1 d d1 l c l1 c1 z 9223372036854775807 _ (hd.below hHeld.2.2) h1 fz few63 G1.out).mono ?_; rintro e w2 ⟨rfl, bb⟩; have b2 := bb)
      refine hK.out _ _ ?_ (fun hHeld => ?_)
      · first | exact keepB1 hHeld bb | exact ⟨x0.c0, x0.c1, B0.drew⟩ | exact hHeld
      clear hK K
      refine take_yes (i := 3) (v := ?vd3) rfl (by kernel_rfl) (by kernel_rfl) (by kernel_rfl) (fun _ _ _ h => h) (by rfl) (by assumption) ?hyd3 ?restd3
      case hyd3 => (intro w hSw; (try dsimp only at hSw); first | (go_simp; done) | (go_simp; with_reducible rfl))
      simp only [Act.put, List.setIfInBounds_toArray, List.set_cons_zero, List.set_cons_succ]
      refine take_yes (i := 4) (v := ?vd4) rfl (by kernel_rfl) (by kernel_rfl) (by kernel_rfl) (fun _ _ _ h => h) (by rfl) (by assumption) ?hyd4 ?restd4
      case hyd4 => (intro w hSw; (try dsimp only at hSw); first | (go_simp; done) | (go_simp; with_reducible rfl))
      simp only [Act.put, List.setIfInBounds_toArray, List.set_cons_zero, List.set_cons_succ]
      refine take_yes (i := 5) (v := ?vd5) rfl (by kernel_rfl) (by kernel_rfl) (by kernel_rfl) (fun _ _ _ h => h) (by rfl) (by assumption) ?hyd5 ?restd5
      case hyd5 => (intro w hSw; (try dsimp only at hSw); first | (go_simp; done) | (go_simp; with_reducible rfl))
      simp only [Act.put, List.setIfInBounds_toArray, List.set_cons_zero, List.set_cons_succ]
      refine take_call (i := 6) rfl (by kernel_rfl) (fun K hK => ?_)
      go_simp
      (go_at_call 25; refine (rwLong (-9223372036854775808) _ (by decide) (by decide)).mono ?_; rintro e w3 ⟨s3, d3, l3, c3, rfl, h3, f3, bb⟩; have b3 := bb)
      refine hK.out _ _ ?_ (fun hHeld => ?_)
      · first | exact keepB1 hHeld bb | exact ⟨x0.c0, x0.c1, B0.drew⟩ | exact hHeld
      clear hK K
      refine take_call (i := 7) rfl (by kernel_rfl) (fun K hK => ?_)
      go_simp
      (go_at_call 40; refine (rwCmp s s3 d d3 l c l3 c3 z (-9223372036854775808) _ (hd.below hHeld.2.2) h3 fz few64 G2.out).mono ?_; rintro e w4 ⟨rfl, bb⟩; have b4 := bb)
      refine hK.out _ _ ?_ (fun hHeld => ?_)
      · first | exact keepB1 hHeld bb | exact ⟨x0.c0, x0.c1, B0.drew⟩ | exact hHeld
      clear hK K
      refine take_yes (i := 8) (v := ?vd8) rfl (by kernel_rfl) (by kernel_rfl) (by kernel_rfl) (fun _ _ _ h => h) (by rfl) (by assumption) ?hyd8 ?restd8
      case hyd8 => (intro w hSw; (try dsimp only at hSw); first | (go_simp; done) | (go_simp; with_reducible rfl))
      simp only [Act.put, List.setIfInBounds_toArray, List.set_cons_zero, List.set_cons_succ]
      refine take_yes (i := 9) (v := ?vd9) rfl (by kernel_rfl) (by kernel_rfl) (by kernel_rfl) (fun _ _ _ h => h) (by rfl) (by assumption) ?hyd9 ?restd9
      case hyd9 => (intro w hSw; (try dsimp only at hSw); first | (go_simp; done) | (go_simp; with_reducible rfl))
      simp only [Act.put, List.setIfInBounds_toArray, List.set_cons_zero, List.set_cons_succ]
      refine wpAnyH_done (by kernel_rfl) ?_ _
      have B5 := hHeld.2.2
      have hd5 := (hd.below B5).hd
      rw [← HUU.out] at hd5
      have hlU : U < 65536 ^ l := by rw [hd5.len]; exact hf.nlen_lt U
      have HZ : Hid (U / 65536 ^ l = 0) := Nat.div_eq_of_lt hlU
      have k0 := hHeld.1
      have k1 := hHeld.2.1
      have hbg := hd5.sl.big
      have hrm := hd5.sl.room
      unfold maxLen at hbg
      clear hHeld b1 b2 b3 b4 h1 h3 f1 f3 hlU
      go_wp2
      go_loopw [4, 5] (fun nv i wr => RsRel w4 U l nv i wr) (fun _ i _ => (intOf i + 1).toNat)
      case atStart => exact ⟨l, Nat.le_refl _, rfl, by rw [HZ.out]; rfl, rfl⟩
      case round =>
        obtain ⟨r, hr, rfl, rfl, rfl⟩ := hrel
        rcases r with _ | q
        · rw [Nat.pow_zero, Nat.div_one]
          rcases hsz with ⟨e, rfl, hpos⟩ | ⟨e, hs⟩
          · obtain rfl : v = (U : Int) := HVZ.out.trans e
            go_wp2
            go_ret2
            exact ⟨by first | rfl | simp, B5⟩
          · obtain rfl : v = -(U : Int) := HVZ.out.trans e
            rcases hs with rfl | rfl
            · go_wp2
              go_ret2
              exact ⟨by first | rfl | simp, B5⟩
            · go_wp2
              go_ret2
              exact ⟨by first | rfl | simp, B5⟩
        · obtain ⟨b, o, rfl, hb, hseg⟩ := hd5.sl.at (by omega)
          have c1 : wr.cell? ⟨b, o + q, none⟩ = some (.int .i64 (hf.dg (U : Int) q)) := hseg.cell q _ (hf.dcells_at _ _ _ (by omega))
          obtain ⟨d0, d1⟩ := hf.dg_range (U : Int) q
          have e3 : ((q + 1 : Nat) : Int) - 1 = (q : Int) := by omega
          have HST : Hid _ := rs_step U q
          have hq1 : (U / 65536 ^ (q + 1) : Nat) * 65536 ≤ U := by
            have h1 := Nat.div_mul_le_self U (65536 ^ (q + 1))
            have h2 : U / 65536 ^ (q + 1) * 65536 ≤ U / 65536 ^ (q + 1) * 65536 ^ (q + 1) := Nat.mul_le_mul_left _ (by rw [Nat.pow_succ]; exact Nat.le_mul_of_pos_left _ (Nat.pow_pos (by decide)))
            omega
          have hq2 : U / 65536 ^ q ≤ U := Nat.div_le_self _ _
          obtain ⟨A, hA⟩ : ∃ A, A = U / 65536 ^ (q + 1) := ⟨_, rfl⟩
          obtain ⟨A', hA'⟩ : ∃ A', A' = U / 65536 ^ q := ⟨_, rfl⟩
          rw [← hA] at HST hq1 ⊢
          rw [← hA'] at HST hq2
          have HA' : Hid _ := hA'
          obtain ⟨D, hD⟩ : ∃ D, D = hf.dg (U : Int) q := ⟨_, rfl⟩
          rw [← hD] at c1 d0 d1 HST
          have hq3 : -((A : Nat) : Int) * 65536 - D = -(A' : Int) := HST.out
          have hlo : -9223372036854775808 ≤ -(A : Int) * 65536 := by omega
          clear hA hA' hD
          rw [e3]
          go_wp2
          go_roundw
          case rel => exact ⟨q, by omega, rfl, by rw [← HA'.out], rfl⟩
          case measure => simp [intOf]
end Go.Proofs.Ytnhoaopmnoilbaa

namespace Go.Proofs.Ytnhoaopmnoilbaa
open Go.RowKit
set_option linter.unusedVariables false

theorem few40 : hf.nlen (1099511627776 : Int).natAbs ≤ 1000000 := hfew (K := 2) (by decide) (by decide)
theorem few40n : hf.nlen (-1099511627776 : Int).natAbs ≤ 1000000 := hfew (K := 2) (by decide) (by decide)
theorem few_i64 {x : Int} (h : -9223372036854775808 ≤ x ∧ x ≤ 9223372036854775807) : hf.nlen x.natAbs ≤ 1000000 := hfew (K := 2) (by omega) (by decide)
theorem in_no_high {z : Int} (h : 1099511627776 < z) : inC z = false := inC_false.2 (by omega)
theorem rlTorus (c : Int) (w : World) {b : Bool} (hb : b = sideC c) : Calls Try.prog 27 #[.int .i64 c] w fun e w' => e = .returned (.bool b) ∧ Below w.heap.size w w' := by
  subst hb
  unfold sideC
  go_enter Try.func27, Try.ntmps27
  go_wp2
  all_goals (go_ret; exact ⟨by simp; omega, Below.refl _ _⟩)
theorem rlCmp (x y z t : Int) (w : World) {g : Int} (hg : g = cmpP x y z t) : Calls Try.prog 16 #[.agg #[.int .i64 x, .int .i64 y], .agg #[.int .i64 z, .int .i64 t]] w fun e w' => e = .returned (.int .i64 g) ∧ Below w.heap.size w w' := by
  have B : ∀ x y z t : Int, Below w.heap.size w ((w.alloc (.cells #[.int .i64 x, .int .i64 y] 23)).alloc (.cells #[.int .i64 z, .int .i64 t] 23)) := fun _ _ _ _ => ((Below.refl _ _).alloc (Nat.le_refl _) _).alloc (by simp) _
  rcases Int.lt_trichotomy x z with h | rfl | h
  · obtain rfl : g = -1 := by rw [hg]; unfold cmpP cmpI; rw [if_neg (by omega), if_pos h]
    go_enter Try.func16, Try.ntmps16
    go_wp2
    go_ret
    exact ⟨rfl, B _ _ _ _⟩
  · rcases Int.lt_trichotomy y t with h | rfl | h
    · obtain rfl : g = -1 := by rw [hg]; unfold cmpP cmpI; rw [if_pos rfl, if_pos h]
      go_enter Try.func16, Try.ntmps16
      go_wp2
      go_ret
      exact ⟨rfl, B _ _ _ _⟩
    · obtain rfl : g = 0 := by rw [hg]; unfold cmpP cmpI; rw [if_pos rfl, if_neg (by omega), if_neg (by omega)]
      go_enter Try.func16, Try.ntmps16
      go_wp2
      go_ret
      exact ⟨rfl, B _ _ _ _⟩
    · obtain rfl : g = 1 := by rw [hg]; unfold cmpP cmpI; rw [if_pos rfl, if_neg (by omega), if_pos h]
      have h1 : ¬ y < t := by omega
      have h2 : ¬ y = t := by omega
      go_enter Try.func16, Try.ntmps16
      go_wp2
      go_ret
      exact ⟨rfl, B _ _ _ _⟩
  · obtain rfl : g = 1 := by rw [hg]; unfold cmpP cmpI; rw [if_neg (by omega), if_neg (by omega), if_pos h]
    have h1 : ¬ x < z := by omega
    have h2 : ¬ x = z := by omega
    go_enter Try.func16, Try.ntmps16
    go_wp2
    go_ret
    exact ⟨rfl, B _ _ _ _⟩
set_option maxRecDepth 100000 in
set_option maxHeartbeats 4000000 in
theorem rlIn (s : Int) (d : Option Addr) (l c : Nat) (z : Int) (w : World) (hz : RN w s d l c z) (fz : hf.nlen z.natAbs ≤ 1000000) {b : Bool} (hb : b = inC z) : Calls Try.prog 28 #[.agg #[.int .i64 s, .slice d l c]] w fun e w' => e = .returned (.bool b) ∧ Below w.heap.size w w' := by
  obtain ⟨g1, hg1⟩ : ∃ g1, g1 = (z - 1099511627776).sign := ⟨_, rfl⟩
  obtain ⟨g2, hg2⟩ : ∃ g2, g2 = (z - -1099511627776).sign := ⟨_, rfl⟩
  have G1 : Hid _ := hg1
  have G2 : Hid _ := hg2
  have FZ : Hid _ := fz
  clear fz
  obtain ⟨W, hW, bW, x_n, sW⟩ := bs_2 w (.int .i64 s) (.slice d l c) 47
  have zbW := bW.size
  replace hz := hz.below bW
  have BB := bW
  by_cases hbig : 1099511627776 < z
  · skip
    obtain rfl : b = false := by rw [hb, in_no_high hbig]
    have e1 : (g1 ≤ 0) = False := by rw [hg1, Int.sign_eq_one_of_pos (by omega)]; decide
    clear hb hg1 hg2 hbig
    go_enter Try.func28, Try.ntmps28
    go_wp2
    rw [← hW]
    clear hW
    have dd1 : Below W.heap.size W W.drew := (Below.refl _ _).drew
    have zdd1 := dd1.size
    replace hz := hz.below dd1
    replace BB := also BB dd1
    replace x_n := x_n.on dd1
    refine wp_region_held_drew (S := (fun w' => w'.cell? ⟨w.heap.size, 0, none⟩ = some (.int .i64 s) ∧ w'.cell? ⟨w.heap.size, 1, none⟩ = some (.slice d l c) ∧ Below w.heap.size w w')) (by kernel_rfl) ?_ (fun hHeld => ?_)
    · first | exact ⟨x_n.c0, x_n.c1, BB⟩ | exact ⟨cell_on bw2 hHeld.1, cell_on bw2 hHeld.2.1, also hHeld.2.2 bw2⟩ | exact ⟨cell_on bw1 hHeld.1, cell_on bw1 hHeld.2.1, also hHeld.2.2 bw1⟩
    refine take_yes (i := 0) (v := ?va0) rfl (by kernel_rfl) (by kernel_rfl) (by kernel_rfl) (fun _ _ _ h => h) (by rfl) (by assumption) ?hya0 ?resta0
    case hya0 => (intro w hSw; (try dsimp only at hSw); first | (go_simp; done) | (go_simp; with_reducible rfl))
    simp only [Act.put, List.setIfInBounds_toArray, List.set_cons_zero, List.set_cons_succ]
    refine take_call (i := 1) rfl (by kernel_rfl) (fun Kc hK => ?_)
    go_simp
    (go_at_call 25; refine (rwLong 1099511627776 _ (by decide) (by decide)).mono ?_; rintro e w1 ⟨s1, d1, l1, c1, rfl, r1, f1, bw1⟩)
    refine hK.out _ _ ?_ (fun hHeld => ?_)
    · first | exact ⟨x_n.c0, x_n.c1, BB⟩ | exact ⟨cell_on bw2 hHeld.1, cell_on bw2 hHeld.2.1, also hHeld.2.2 bw2⟩ | exact ⟨cell_on bw1 hHeld.1, cell_on bw1 hHeld.2.1, also hHeld.2.2 bw1⟩
    clear hK Kc
    have zbw1 := bw1.size
    replace hz := hz.below bw1
    replace BB := also BB bw1
    replace x_n := x_n.on bw1
    refine take_call (i := 2) rfl (by kernel_rfl) (fun Kc hK => ?_)
    go_simp
    (go_at_call 40; refine (rwCmp s s1 d d1 l c l1 c1 z 1099511627776 _ hz r1 FZ.out few40 G1.out).mono ?_; rintro e w2 ⟨rfl, bw2⟩)
    refine hK.out _ _ ?_ (fun hHeld => ?_)
    · first | exact ⟨x_n.c0, x_n.c1, BB⟩ | exact ⟨cell_on bw2 hHeld.1, cell_on bw2 hHeld.2.1, also hHeld.2.2 bw2⟩ | exact ⟨cell_on bw1 hHeld.1, cell_on bw1 hHeld.2.1, also hHeld.2.2 bw1⟩
    clear hK Kc
    have zbw2 := bw2.size
    replace hz := hz.below bw2
    replace BB := also BB bw2
    replace x_n := x_n.on bw2
    replace r1 := r1.below bw2
    refine take_yes (i := 3) (v := ?va3) rfl (by kernel_rfl) (by kernel_rfl) (by kernel_rfl) (fun _ _ _ h => h) (by rfl) (by assumption) ?hya3 ?resta3
    case hya3 => (intro w hSw; (try dsimp only at hSw); first | (go_simp; done) | (go_simp; with_reducible rfl))
    simp only [Act.put, List.setIfInBounds_toArray, List.set_cons_zero, List.set_cons_succ]
    refine take_yes (i := 4) (v := ?va4) rfl (by kernel_rfl) (by kernel_rfl) (by kernel_rfl) (fun _ _ _ h => h) (by rfl) (by assumption) ?hya4 ?resta4
    case hya4 => (intro w hSw; (try dsimp only at hSw); first | (go_simp; done) | (go_simp; with_reducible rfl))
    simp only [Act.put, List.setIfInBounds_toArray, List.set_cons_zero, List.set_cons_succ]
    refine take_no (i := 5) rfl (by kernel_rfl) (by kernel_rfl) (by kernel_rfl) (fun _ _ _ h => h) (by rfl) (by assumption) ?_
    simp only [Act.put, List.setIfInBounds_toArray, List.set_cons_zero, List.set_cons_succ]
    refine take_no (i := 6) rfl (by kernel_rfl) (by kernel_rfl) (by kernel_rfl) (fun _ _ _ h => h) (by rfl) (by assumption) ?_
    simp only [Act.put, List.setIfInBounds_toArray, List.set_cons_zero, List.set_cons_succ]
    refine take_no (i := 7) rfl (by kernel_rfl) (by kernel_rfl) (by kernel_rfl) (fun _ _ _ h => h) (by rfl) (by assumption) ?_
    simp only [Act.put, List.setIfInBounds_toArray, List.set_cons_zero, List.set_cons_succ]
    refine take_no (i := 8) rfl (by kernel_rfl) (by kernel_rfl) (by kernel_rfl) (fun _ _ _ h => h) (by rfl) (by assumption) ?_
    simp only [Act.put, List.setIfInBounds_toArray, List.set_cons_zero, List.set_cons_succ]
    refine take_yes (i := 9) (v := ?va9) rfl (by kernel_rfl) (by kernel_rfl) (by kernel_rfl) (fun _ _ _ h => h) (by rfl) (by assumption) ?hya9 ?resta9
    case hya9 => (intro w hSw; (try dsimp only at hSw); first | (go_simp; done) | (go_simp; with_reducible rfl))
    simp only [Act.put, List.setIfInBounds_toArray, List.set_cons_zero, List.set_cons_succ]
    refine take_yes (i := 10) (v := ?va10) rfl (by kernel_rfl) (by kernel_rfl) (by kernel_rfl) (fun _ _ _ h => h) (by rfl) (by assumption) ?hya10 ?resta10
    case hya10 => (intro w hSw; (try dsimp only at hSw); first | (go_simp; done) | (go_simp; with_reducible rfl))
    simp only [Act.put, List.setIfInBounds_toArray, List.set_cons_zero, List.set_cons_succ]
    refine wpAnyH_done (by kernel_rfl) ?_ _
    go_wp2
    go_ret
    exact ⟨rfl, BB⟩
  · skip
    have e1 : (g1 ≤ 0) = True := by rw [hg1]; rcases sign_cases (z - 1099511627776) with ⟨q, s⟩ | ⟨q, s⟩ | ⟨q, s⟩ <;> rw [s] <;> first | decide | omega
    have e2 : decide (0 ≤ g2) = b := by rw [hb, hg2]; unfold inC; rcases sign_cases (z - -1099511627776) with ⟨q, s⟩ | ⟨q, s⟩ | ⟨q, s⟩ <;> rw [s] <;> simp <;> omega
    clear hb hg1 hg2 hbig
    go_enter Try.func28, Try.ntmps28
    go_wp2
    rw [← hW]
    clear hW
    have dd1 : Below W.heap.size W W.drew := (Below.refl _ _).drew
    have zdd1 := dd1.size
    replace hz := hz.below dd1
    replace BB := also BB dd1
    replace x_n := x_n.on dd1
    refine wp_region_held_drew (S := (fun w' => w'.cell? ⟨w.heap.size, 0, none⟩ = some (.int .i64 s) ∧ w'.cell? ⟨w.heap.size, 1, none⟩ = some (.slice d l c) ∧ Below w.heap.size w w')) (by kernel_rfl) ?_ (fun hHeld => ?_)
    · first | exact ⟨x_n.c0, x_n.c1, BB⟩ | exact ⟨cell_on bw4 hHeld.1, cell_on bw4 hHeld.2.1, also hHeld.2.2 bw4⟩ | exact ⟨cell_on bw3 hHeld.1, cell_on bw3 hHeld.2.1, also hHeld.2.2 bw3⟩ | exact ⟨cell_on bw2 hHeld.1, cell_on bw2 hHeld.2.1, also hHeld.2.2 bw2⟩ | exact ⟨cell_on bw1 hHeld.1, cell_on bw1 hHeld.2.1, also hHeld.2.2 bw1⟩
    refine take_yes (i := 0) (v := ?vb0) rfl (by kernel_rfl) (by kernel_rfl) (by kernel_rfl) (fun _ _ _ h => h) (by rfl) (by assumption) ?hyb0 ?restb0
    case hyb0 => (intro w hSw; (try dsimp only at hSw); first | (go_simp; done) | (go_simp; with_reducible rfl))
    simp only [Act.put, List.setIfInBounds_toArray, List.set_cons_zero, List.set_cons_succ]
    refine take_call (i := 1) rfl (by kernel_rfl) (fun Kc hK => ?_)
    go_simp
    (go_at_call 25; refine (rwLong 1099511627776 _ (by decide) (by decide)).mono ?_; rintro e w1 ⟨s1, d1, l1, c1, rfl, r1, f1, bw1⟩)
    refine hK.out _ _ ?_ (fun hHeld => ?_)
    · first | exact ⟨x_n.c0, x_n.c1, BB⟩ | exact ⟨cell_on bw4 hHeld.1, cell_on bw4 hHeld.2.1, also hHeld.2.2 bw4⟩ | exact ⟨cell_on bw3 hHeld.1, cell_on bw3 hHeld.2.1, also hHeld.2.2 bw3⟩ | exact ⟨cell_on bw2 hHeld.1, cell_on bw2 hHeld.2.1, also hHeld.2.2 bw2⟩ | exact ⟨cell_on bw1 hHeld.1, cell_on bw1 hHeld.2.1, also hHeld.2.2 bw1⟩
    clear hK Kc
    have zbw1 := bw1.size
    replace hz := hz.below bw1
    replace BB := also BB bw1
    replace x_n := x_n.on bw1
    refine take_call (i := 2) rfl (by kernel_rfl) (fun Kc hK => ?_)
    go_simp
    (go_at_call 40; refine (rwCmp s s1 d d1 l c l1 c1 z 1099511627776 _ hz r1 FZ.out few40 G1.out).mono ?_; rintro e w2 ⟨rfl, bw2⟩)
    refine hK.out _ _ ?_ (fun hHeld => ?_)
    · first | exact ⟨x_n.c0, x_n.c1, BB⟩ | exact ⟨cell_on bw4 hHeld.1, cell_on bw4 hHeld.2.1, also hHeld.2.2 bw4⟩ | exact ⟨cell_on bw3 hHeld.1, cell_on bw3 hHeld.2.1, also hHeld.2.2 bw3⟩ | exact ⟨cell_on bw2 hHeld.1, cell_on bw2 hHeld.2.1, also hHeld.2.2 bw2⟩ | exact ⟨cell_on bw1 hHeld.1, cell_on bw1 hHeld.2.1, also hHeld.2.2 bw1⟩
    clear hK Kc
    have zbw2 := bw2.size
    replace hz := hz.below bw2
    replace BB := also BB bw2
    replace x_n := x_n.on bw2
    replace r1 := r1.below bw2
    refine take_yes (i := 3) (v := ?vb3) rfl (by kernel_rfl) (by kernel_rfl) (by kernel_rfl) (fun _ _ _ h => h) (by rfl) (by assumption) ?hyb3 ?restb3
    case hyb3 => (intro w hSw; (try dsimp only at hSw); first | (go_simp; done) | (go_simp; with_reducible rfl))
    simp only [Act.put, List.setIfInBounds_toArray, List.set_cons_zero, List.set_cons_succ]
    refine take_yes (i := 4) (v := ?vb4) rfl (by kernel_rfl) (by kernel_rfl) (by kernel_rfl) (fun _ _ _ h => h) (by rfl) (by assumption) ?hyb4 ?restb4
    case hyb4 => (intro w hSw; (try dsimp only at hSw); first | (go_simp; done) | (go_simp; with_reducible rfl))
    simp only [Act.put, List.setIfInBounds_toArray, List.set_cons_zero, List.set_cons_succ]
    refine take_yes (i := 5) (v := ?vb5) rfl (by kernel_rfl) (by kernel_rfl) (by kernel_rfl) (fun _ _ _ h => h) (by rfl) (by assumption) ?hyb5 ?restb5
    case hyb5 => (intro w hSw; (try dsimp only at hSw); first | (go_simp; done) | (go_simp; with_reducible rfl))
    simp only [Act.put, List.setIfInBounds_toArray, List.set_cons_zero, List.set_cons_succ]
    refine take_call (i := 6) rfl (by kernel_rfl) (fun Kc hK => ?_)
    go_simp
    (go_at_call 25; refine (rwLong (-1099511627776) _ (by decide) (by decide)).mono ?_; rintro e w3 ⟨s3, d3, l3, c3, rfl, r3, f3, bw3⟩)
    refine hK.out _ _ ?_ (fun hHeld => ?_)
    · first | exact ⟨x_n.c0, x_n.c1, BB⟩ | exact ⟨cell_on bw4 hHeld.1, cell_on bw4 hHeld.2.1, also hHeld.2.2 bw4⟩ | exact ⟨cell_on bw3 hHeld.1, cell_on bw3 hHeld.2.1, also hHeld.2.2 bw3⟩ | exact ⟨cell_on bw2 hHeld.1, cell_on bw2 hHeld.2.1, also hHeld.2.2 bw2⟩ | exact ⟨cell_on bw1 hHeld.1, cell_on bw1 hHeld.2.1, also hHeld.2.2 bw1⟩
    clear hK Kc
    have zbw3 := bw3.size
    replace hz := hz.below bw3
    replace BB := also BB bw3
    replace x_n := x_n.on bw3
    replace r1 := r1.below bw3
    refine take_call (i := 7) rfl (by kernel_rfl) (fun Kc hK => ?_)
    go_simp
    (go_at_call 40; refine (rwCmp s s3 d d3 l c l3 c3 z (-1099511627776) _ hz r3 FZ.out few40n G2.out).mono ?_; rintro e w4 ⟨rfl, bw4⟩)
    refine hK.out _ _ ?_ (fun hHeld => ?_)
    · first | exact ⟨x_n.c0, x_n.c1, BB⟩ | exact ⟨cell_on bw4 hHeld.1, cell_on bw4 hHeld.2.1, also hHeld.2.2 bw4⟩ | exact ⟨cell_on bw3 hHeld.1, cell_on bw3 hHeld.2.1, also hHeld.2.2 bw3⟩ | exact ⟨cell_on bw2 hHeld.1, cell_on bw2 hHeld.2.1, also hHeld.2.2 bw2⟩ | exact ⟨cell_on bw1 hHeld.1, cell_on bw1 hHeld.2.1, also hHeld.2.2 bw1⟩
    clear hK Kc
    have zbw4 := bw4.size
    replace hz := hz.below bw4
    replace BB := also BB bw4
    replace x_n := x_n.on bw4
    replace r1 := r1.below bw4
    replace r3 := r3.below bw4
    refine take_yes (i := 8) (v := ?vb8) rfl (by kernel_rfl) (by kernel_rfl) (by kernel_rfl) (fun _ _ _ h => h) (by rfl) (by assumption) ?hyb8 ?restb8
    case hyb8 => (intro w hSw; (try dsimp only at hSw); first | (go_simp; done) | (go_simp; with_reducible rfl))
    simp only [Act.put, List.setIfInBounds_toArray, List.set_cons_zero, List.set_cons_succ]
    refine take_yes (i := 9) (v := ?vb9) rfl (by kernel_rfl) (by kernel_rfl) (by kernel_rfl) (fun _ _ _ h => h) (by rfl) (by assumption) ?hyb9 ?restb9
    case hyb9 => (intro w hSw; (try dsimp only at hSw); first | (go_simp; done) | (go_simp; with_reducible rfl))
    simp only [Act.put, List.setIfInBounds_toArray, List.set_cons_zero, List.set_cons_succ]
    refine take_yes (i := 10) (v := ?vb10) rfl (by kernel_rfl) (by kernel_rfl) (by kernel_rfl) (fun _ _ _ h => h) (by rfl) (by assumption) ?hyb10 ?restb10
    case hyb10 => (intro w hSw; (try dsimp only at hSw); first | (go_simp; done) | (go_simp; with_reducible rfl))
    simp only [Act.put, List.setIfInBounds_toArray, List.set_cons_zero, List.set_cons_succ]
    refine wpAnyH_done (by kernel_rfl) ?_ _
    go_wp2
    go_ret
    exact ⟨rfl, BB⟩
set_option maxRecDepth 100000 in
theorem rlCan (x y : Int) (w : World) (hx : -9223372036854775808 ≤ x ∧ x ≤ 9223372036854775807) (hy : -9223372036854775808 ≤ y ∧ y ≤ 9223372036854775807) {b : Bool} (hb : b = canC x y) : Calls Try.prog 11 #[.agg #[.int .i64 x, .int .i64 y]] w fun e w' => e = .returned (.bool b) ∧ Below w.heap.size w w' := by
  subst hb
  unfold canC
  have HX : Hid _ := hx
  have HY : Hid _ := hy
  clear hx hy
  cases hx : inC x
  · skip
    obtain ⟨W, hW, bW, x_p, sW⟩ := bs_2 w (.int .i64 x) (.int .i64 y) 23
    have zbW := bW.size
    have BB := bW
    go_enter Try.func11, Try.ntmps11
    go_wp2_with (go_at_call 25; fail)
    rw [← hW]
    clear hW
    refine (rwLong x W HX.out.1 HX.out.2).mono ?_
    rintro e w1 ⟨s1, d1, l1, c1, rfl, r1, f1, bw1⟩
    have zbw1 := bw1.size
    replace BB := also BB bw1
    replace x_p := x_p.on bw1
    go_wp2_with (go_at_call 28; fail)
    refine (rlIn s1 d1 l1 c1 x w1 r1 (few_i64 HX.out) hx.symm).mono ?_
    rintro e w2 ⟨rfl, bw2⟩
    have zbw2 := bw2.size
    replace BB := also BB bw2
    replace x_p := x_p.on bw2
    replace r1 := r1.below bw2
    have ⟨x_p_0, x_p_1, x_p_2, x_p_3⟩ := x_p
    go_wp2
    go_ret
    exact ⟨by simp, BB⟩
  · skip
    obtain ⟨W, hW, bW, x_p, sW⟩ := bs_2 w (.int .i64 x) (.int .i64 y) 23
    have zbW := bW.size
    have BB := bW
    go_enter Try.func11, Try.ntmps11
    go_wp2_with (go_at_call 25; fail)
    rw [← hW]
    clear hW
    refine (rwLong x W HX.out.1 HX.out.2).mono ?_
    rintro e w1 ⟨s1, d1, l1, c1, rfl, r1, f1, bw1⟩
    have zbw1 := bw1.size
    replace BB := also BB bw1
    replace x_p := x_p.on bw1
    go_wp2_with (go_at_call 28; fail)
    refine (rlIn s1 d1 l1 c1 x w1 r1 (few_i64 HX.out) hx.symm).mono ?_
    rintro e w2 ⟨rfl, bw2⟩
    have zbw2 := bw2.size
    replace BB := also BB bw2
    replace x_p := x_p.on bw2
    replace r1 := r1.below bw2
    have ⟨x_p_0, x_p_1, x_p_2, x_p_3⟩ := x_p
    go_wp2_with (go_at_call 25; fail)
    refine (rwLong y w2 HY.out.1 HY.out.2).mono ?_
    rintro e w3 ⟨s3, d3, l3, c3, rfl, r3, f3, bw3⟩
    clear x_p_0 x_p_1 x_p_2 x_p_3
    have zbw3 := bw3.size
    replace BB := also BB bw3
    replace x_p := x_p.on bw3
    replace r1 := r1.below bw3
    go_wp2_with (go_at_call 28; fail)
    refine (rlIn s3 d3 l3 c3 y w3 r3 (few_i64 HY.out) rfl).mono ?_
    rintro e w4 ⟨rfl, bw4⟩
    have zbw4 := bw4.size
    replace BB := also BB bw4
    replace x_p := x_p.on bw4
    replace r1 := r1.below bw4
    replace r3 := r3.below bw4
    go_wp2
    go_ret
    exact ⟨by simp, BB⟩
end Go.Proofs.Ytnhoaopmnoilbaa
